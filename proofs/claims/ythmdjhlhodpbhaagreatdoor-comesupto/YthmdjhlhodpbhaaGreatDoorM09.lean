/- Comes, part 9 -/
import Derived.Deep.CutBlock
import Derived.Test.YthmdjhlhodpbhaaGreatDoorM08
set_option maxHeartbeats 16000000
set_option maxRecDepth 8000
namespace Go.Proofs.YthmdjhlhodpbhaaGreatDoor
open Go.RowKit Go.Extern Go.Extern.Stop Go.Stop
open Go.World renaming cell?_alloc_lt → ap, frozen?_alloc_old → aC, cell? → aX, size_alloc → aB, cell?_alloc_at → a7
open _root_.Array renaming getElem?_eq_some_iff → aO, getElem?_eq_none → az
open _root_.Nat renaming le_refl → ay, lt_or_ge → aD
open _root_.List renaming length_eq_zero_iff → dI
open Go.Instr renaming slice → dA, sliceBounds → dJ, sliceBound → dK
open Go.IntKind renaming wrap_i64 → di
open _root_.Or renaming inl → a_
open _root_.Go.Proofs.Tryz
open _root_.Go.Proofs.Tryz renaming prog → ae
open Go.Value renaming int → af, slice → aj, pointer → ai
open Go.IntKind renaming i64 → ag
variable {w W w' W':World}{v rv ev u tv:Value}{rb k fb cap:Nat}{l b:List Int}{P:Program}{T ty:TypeId}{zc fc:Array Value}{F:Nat->Prop}{c:Int}{e:Ending}
set_option maxRecDepth 20000 in
theorem KT(hb hx:Nat)(e t:Addr)(w:World)(hg:w.cell? ⟨0,0,none⟩= some (.iface 263 (.agg #[ai (some ⟨4,109,none⟩)])))(zv:w.cell? ⟨hb,1,none⟩= some (.iface 155 (ai (some ⟨hx,0,none⟩))))(zw:w.cell? ⟨hx,1,none⟩= some (.iface 158 (ai (some e))))(SL:w.cell? t=some (ai none))(Wq:w.frozen? t=false):
  Calls ae 87 #[.iface 155 (ai (some ⟨hb,0,none⟩)),.iface 160 (ai (some t))] w fun ev w'=>ev=.returned (.bool true)/\Below t.block w w':=by
 have h6:=@run_callFunc_extern ae 138 _ (fun args=>ReflectliteValue.unpack (args.getD 0 (.tuple #[]))) func138 (by kernel_rfl) (by kernel_rfl) (by kernel_rfl) (by kernel_rfl);have h7:=@run_callFunc_extern ae 139 _ (ReflectliteValue.methodAny (ReflectliteValue.valueError "reflectlite.Value.Type" 0) (fun t _ _ _=>ReflectliteType.toType t)) func139 (by kernel_rfl) (by kernel_rfl) (by kernel_rfl) (by kernel_rfl);have h8:=@run_callFunc_extern ae 140 _ (ReflectliteValue.method (ReflectliteValue.valueError "reflectlite.Value.IsNil" 0) ReflectliteValue.isNil) func140 (by kernel_rfl) (by kernel_rfl) (by kernel_rfl) (by kernel_rfl);have h27:=@run_callFunc_extern ae 261 _ (ReflectliteType.abiMethod fun t=>do pure (.int .u8 (<-Rtype.kind t))) func261 (by kernel_rfl) (by kernel_rfl) (by kernel_rfl) (by kernel_rfl);have h37:=@run_callFunc_extern ae 274 _ (ReflectliteType.method ReflectliteType.elem) func274 (by kernel_rfl) (by kernel_rfl) (by kernel_rfl) (by kernel_rfl);have h38:=@run_callFunc_extern ae 275 _ (ReflectliteType.relation "Implements" ReflectliteType.implements_) func275 (by kernel_rfl) (by kernel_rfl) (by kernel_rfl) (by kernel_rfl);have RR:=@run_callFunc_extern ae 170 _ ReflectliteType.typeOf func170 (by kernel_rfl) (by kernel_rfl) (by kernel_rfl) (by kernel_rfl);have h35:=@run_callFunc_extern ae 272 _ (ReflectliteType.relation "AssignableTo" ReflectliteType.assignableTo) func272 (by kernel_rfl) (by kernel_rfl) (by kernel_rfl) (by kernel_rfl);have US:=@run_callFunc_extern ae 171 _ (ReflectliteValue.method (ReflectliteValue.valueError "reflectlite.Value.Elem" 0) ReflectliteValue.elem) func171 (by kernel_rfl) (by kernel_rfl) (by kernel_rfl) (by kernel_rfl);have UT:=@run_callFunc_extern ae 172 _ ReflectliteValue.set func172 (by kernel_rfl) (by kernel_rfl) (by kernel_rfl) (by kernel_rfl);have abN:=xj;have mU:=t_;have aaL:=qN;have tN:=yF;have tW:=yG;have mA:=oy;have aN:=sO;have aW:=sP;have vN:=wZ;have f6:=yH;have f7:=G8;have mK:=tY;have mE:=tX;have mI:=pj;have k27:=AW;have k25:=Dt;have e27:=AV;have i25:=tV;have n8:=Ds ⟨w.heap.size,0,none⟩ t ((w.alloc (.cells #[ai (some t)] 160)).alloc (.cells #[ai (some ⟨4,160,none⟩),ai (some ⟨w.heap.size,0,none⟩),.int .u64 150] 217)) (by simp)
 have jp:0<w.heap.size:=by
  rcases aD 0 w.heap.size with h|h
  ·exact h
  ·simp[aX,az h]at hg
 have mZ:((w.alloc (.cells #[ai (some t)] 160)).alloc (.cells #[ai (some ⟨4,160,none⟩),ai (some ⟨w.heap.size,0,none⟩),.int .u64 150] 217)).cell? ⟨0,0,none⟩= some (.iface 263 (.agg #[ai (some ⟨4,109,none⟩)])):=by
  rw[ap _ _ ⟨0,0,none⟩ (by simp only[aB];omega),ap _ _ ⟨0,0,none⟩ jp];exact hg
 have BI:t.block<w.heap.size:=by
  rcases aD t.block w.heap.size with h|h
  ·exact h
  ·simp[aX,az h]at SL
 have Yb:hb<w.heap.size:=jh zv
 have acw:(((w.alloc (.cells #[ai (some t)] 160)).alloc (.cells #[ai (some ⟨4,160,none⟩),ai (some ⟨w.heap.size,0,none⟩),.int .u64 150] 217)).alloc (.cells #[ai (some ⟨4,160,none⟩),ai (some ⟨w.heap.size,0,none⟩),.int .u64 150] 217)).cell? ⟨hb,1,none⟩= some (.iface 155 (ai (some ⟨hx,0,none⟩))):=by
  rw[ap _ _ ⟨hb,1,none⟩ (by simp;omega),ap _ _ ⟨hb,1,none⟩ (by simp;omega),ap _ _ ⟨hb,1,none⟩ Yb];exact zv
 have Yc:hx<w.heap.size:=jh zw
 have acx:(((w.alloc (.cells #[ai (some t)] 160)).alloc (.cells #[ai (some ⟨4,160,none⟩),ai (some ⟨w.heap.size,0,none⟩),.int .u64 150] 217)).alloc (.cells #[ai (some ⟨4,160,none⟩),ai (some ⟨w.heap.size,0,none⟩),.int .u64 150] 217)).cell? ⟨hx,1,none⟩= some (.iface 158 (ai (some e))):=by
  rw[ap _ _ ⟨hx,1,none⟩ (by simp;omega),ap _ _ ⟨hx,1,none⟩ (by simp;omega),ap _ _ ⟨hx,1,none⟩ Yc];exact zw
 have el:=Dr ⟨w.heap.size,0,none⟩ t (((w.alloc (.cells #[ai (some t)] 160)).alloc (.cells #[ai (some ⟨4,160,none⟩),ai (some ⟨w.heap.size,0,none⟩),.int .u64 150] 217)).alloc (.cells #[ai (some ⟨4,160,none⟩),ai (some ⟨w.heap.size,0,none⟩),.int .u64 150] 217)) (by rw[ap _ _ ⟨w.heap.size,0,none⟩ (by simp;omega)];simp)
 have st:=MJ t ⟨w.heap.size+1+1+1,0,none⟩ e (ai none) ((((w.alloc (.cells #[ai (some t)] 160)).alloc (.cells #[ai (some ⟨4,160,none⟩),ai (some ⟨w.heap.size,0,none⟩),.int .u64 150] 217)).alloc (.cells #[ai (some ⟨4,160,none⟩),ai (some ⟨w.heap.size,0,none⟩),.int .u64 150] 217)).alloc (.cells #[ai (some e)] 158))
  (by rw[a7 _ _ _ _ (by simp)];rfl)
  (by rw[ap _ _ t (by simp;omega),ap _ _ t (by simp;omega),ap _ _ t (by simp;omega),ap _ _ t BI];exact SL)
  (by rw[aC _ _ t (by simp;omega),aC _ _ t (by simp;omega),aC _ _ t (by simp;omega),aC _ _ t (Nat.ne_of_lt BI)];exact Wq)
 go_enter func87,ntmps87
 go_wp2
 refine wp_loop_rounds 3 ?_;rw[rounds_succ]
 go_wp2
 rw[rounds_succ]
 go_wp2
 rw[rounds_succ]
 go_wp2
 go_ret;refine⟨rfl,?_⟩;have kf:t.block<=w.heap.size:=Nat.le_of_lt BI;exact((((((Below.refl t.block w).alloc kf _).alloc (by simp only[aB];omega) _).alloc (by simp only[aB];omega) _).alloc (by simp only[aB];omega) _)).setCell (ay _) _
set_option maxRecDepth 20000 in
theorem KU(hb hx hy:Nat)(e t:Addr)(w:World)(hg:w.cell? ⟨0,0,none⟩= some (.iface 263 (.agg #[ai (some ⟨4,109,none⟩)])))(zv:w.cell? ⟨hb,1,none⟩= some (.iface 155 (ai (some ⟨hx,0,none⟩))))(zw:w.cell? ⟨hx,1,none⟩= some (.iface 155 (ai (some ⟨hy,0,none⟩))))(NG:w.cell? ⟨hy,1,none⟩= some (.iface 158 (ai (some e))))(SL:w.cell? t=some (ai none))(Wq:w.frozen? t=false):
  Calls ae 87 #[.iface 155 (ai (some ⟨hb,0,none⟩)),.iface 160 (ai (some t))] w fun ev w'=>ev=.returned (.bool true)/\Below t.block w w':=by
 have h6:=@run_callFunc_extern ae 138 _ (fun args=>ReflectliteValue.unpack (args.getD 0 (.tuple #[]))) func138 (by kernel_rfl) (by kernel_rfl) (by kernel_rfl) (by kernel_rfl);have h7:=@run_callFunc_extern ae 139 _ (ReflectliteValue.methodAny (ReflectliteValue.valueError "reflectlite.Value.Type" 0) (fun t _ _ _=>ReflectliteType.toType t)) func139 (by kernel_rfl) (by kernel_rfl) (by kernel_rfl) (by kernel_rfl);have h8:=@run_callFunc_extern ae 140 _ (ReflectliteValue.method (ReflectliteValue.valueError "reflectlite.Value.IsNil" 0) ReflectliteValue.isNil) func140 (by kernel_rfl) (by kernel_rfl) (by kernel_rfl) (by kernel_rfl);have h27:=@run_callFunc_extern ae 261 _ (ReflectliteType.abiMethod fun t=>do pure (.int .u8 (<-Rtype.kind t))) func261 (by kernel_rfl) (by kernel_rfl) (by kernel_rfl) (by kernel_rfl);have h37:=@run_callFunc_extern ae 274 _ (ReflectliteType.method ReflectliteType.elem) func274 (by kernel_rfl) (by kernel_rfl) (by kernel_rfl) (by kernel_rfl);have h38:=@run_callFunc_extern ae 275 _ (ReflectliteType.relation "Implements" ReflectliteType.implements_) func275 (by kernel_rfl) (by kernel_rfl) (by kernel_rfl) (by kernel_rfl);have RR:=@run_callFunc_extern ae 170 _ ReflectliteType.typeOf func170 (by kernel_rfl) (by kernel_rfl) (by kernel_rfl) (by kernel_rfl);have h35:=@run_callFunc_extern ae 272 _ (ReflectliteType.relation "AssignableTo" ReflectliteType.assignableTo) func272 (by kernel_rfl) (by kernel_rfl) (by kernel_rfl) (by kernel_rfl);have US:=@run_callFunc_extern ae 171 _ (ReflectliteValue.method (ReflectliteValue.valueError "reflectlite.Value.Elem" 0) ReflectliteValue.elem) func171 (by kernel_rfl) (by kernel_rfl) (by kernel_rfl) (by kernel_rfl);have UT:=@run_callFunc_extern ae 172 _ ReflectliteValue.set func172 (by kernel_rfl) (by kernel_rfl) (by kernel_rfl) (by kernel_rfl);have abN:=xj;have mU:=t_;have aaL:=qN;have tN:=yF;have tW:=yG;have mA:=oy;have aN:=sO;have aW:=sP;have vN:=wZ;have f6:=yH;have f7:=G8;have mK:=tY;have mE:=tX;have mI:=pj;have k27:=AW;have k25:=Dt;have e27:=AV;have i25:=tV;have n8:=Ds ⟨w.heap.size,0,none⟩ t ((w.alloc (.cells #[ai (some t)] 160)).alloc (.cells #[ai (some ⟨4,160,none⟩),ai (some ⟨w.heap.size,0,none⟩),.int .u64 150] 217)) (by simp)
 have jp:0<w.heap.size:=by
  rcases aD 0 w.heap.size with h|h
  ·exact h
  ·simp[aX,az h]at hg
 have mZ:((w.alloc (.cells #[ai (some t)] 160)).alloc (.cells #[ai (some ⟨4,160,none⟩),ai (some ⟨w.heap.size,0,none⟩),.int .u64 150] 217)).cell? ⟨0,0,none⟩= some (.iface 263 (.agg #[ai (some ⟨4,109,none⟩)])):=by
  rw[ap _ _ ⟨0,0,none⟩ (by simp only[aB];omega),ap _ _ ⟨0,0,none⟩ jp];exact hg
 have BI:t.block<w.heap.size:=by
  rcases aD t.block w.heap.size with h|h
  ·exact h
  ·simp[aX,az h]at SL
 have Yb:hb<w.heap.size:=jh zv
 have acw:(((w.alloc (.cells #[ai (some t)] 160)).alloc (.cells #[ai (some ⟨4,160,none⟩),ai (some ⟨w.heap.size,0,none⟩),.int .u64 150] 217)).alloc (.cells #[ai (some ⟨4,160,none⟩),ai (some ⟨w.heap.size,0,none⟩),.int .u64 150] 217)).cell? ⟨hb,1,none⟩= some (.iface 155 (ai (some ⟨hx,0,none⟩))):=by
  rw[ap _ _ ⟨hb,1,none⟩ (by simp;omega),ap _ _ ⟨hb,1,none⟩ (by simp;omega),ap _ _ ⟨hb,1,none⟩ Yb];exact zv
 have Yc:hx<w.heap.size:=jh zw
 have acx:(((w.alloc (.cells #[ai (some t)] 160)).alloc (.cells #[ai (some ⟨4,160,none⟩),ai (some ⟨w.heap.size,0,none⟩),.int .u64 150] 217)).alloc (.cells #[ai (some ⟨4,160,none⟩),ai (some ⟨w.heap.size,0,none⟩),.int .u64 150] 217)).cell? ⟨hx,1,none⟩= some (.iface 155 (ai (some ⟨hy,0,none⟩))):=by
  rw[ap _ _ ⟨hx,1,none⟩ (by simp;omega),ap _ _ ⟨hx,1,none⟩ (by simp;omega),ap _ _ ⟨hx,1,none⟩ Yc];exact zw
 have acK:hy<w.heap.size:=jh NG
 have adR:(((w.alloc (.cells #[ai (some t)] 160)).alloc (.cells #[ai (some ⟨4,160,none⟩),ai (some ⟨w.heap.size,0,none⟩),.int .u64 150] 217)).alloc (.cells #[ai (some ⟨4,160,none⟩),ai (some ⟨w.heap.size,0,none⟩),.int .u64 150] 217)).cell? ⟨hy,1,none⟩= some (.iface 158 (ai (some e))):=by
  rw[ap _ _ ⟨hy,1,none⟩ (by simp;omega),ap _ _ ⟨hy,1,none⟩ (by simp;omega),ap _ _ ⟨hy,1,none⟩ acK];exact NG
 have el:=Dr ⟨w.heap.size,0,none⟩ t (((w.alloc (.cells #[ai (some t)] 160)).alloc (.cells #[ai (some ⟨4,160,none⟩),ai (some ⟨w.heap.size,0,none⟩),.int .u64 150] 217)).alloc (.cells #[ai (some ⟨4,160,none⟩),ai (some ⟨w.heap.size,0,none⟩),.int .u64 150] 217)) (by rw[ap _ _ ⟨w.heap.size,0,none⟩ (by simp;omega)];simp)
 have st:=MJ t ⟨w.heap.size+1+1+1,0,none⟩ e (ai none) ((((w.alloc (.cells #[ai (some t)] 160)).alloc (.cells #[ai (some ⟨4,160,none⟩),ai (some ⟨w.heap.size,0,none⟩),.int .u64 150] 217)).alloc (.cells #[ai (some ⟨4,160,none⟩),ai (some ⟨w.heap.size,0,none⟩),.int .u64 150] 217)).alloc (.cells #[ai (some e)] 158))
  (by rw[a7 _ _ _ _ (by simp)];rfl)
  (by rw[ap _ _ t (by simp;omega),ap _ _ t (by simp;omega),ap _ _ t (by simp;omega),ap _ _ t BI];exact SL)
  (by rw[aC _ _ t (by simp;omega),aC _ _ t (by simp;omega),aC _ _ t (by simp;omega),aC _ _ t (Nat.ne_of_lt BI)];exact Wq)
 go_enter func87,ntmps87
 go_wp2
 refine wp_loop_rounds 4 ?_;rw[rounds_succ]
 go_wp2
 rw[rounds_succ]
 go_wp2
 rw[rounds_succ]
 go_wp2
 rw[rounds_succ]
 go_wp2
 go_ret;refine⟨rfl,?_⟩;have kf:t.block<=w.heap.size:=Nat.le_of_lt BI;exact((((((Below.refl t.block w).alloc kf _).alloc (by simp only[aB];omega) _).alloc (by simp only[aB];omega) _).alloc (by simp only[aB];omega) _)).setCell (ay _) _
theorem sU(W:World){t e:TypeId}{size:Nat}{ao:Option Addr}{len i:Nat}(ht:P.underlying t=some (.slice e))(hs:(Go.sizeOf e).run P W=.ok size W)(hi:i<=len):
  (dA t (.slice ao len cap) (some (af ag (i:Int))) none none).run P W=.ok (.slice (if cap=i then ao else ao.map (·.add (i*size))) (len-i) (cap-i)) W:=by
 simp[dA,dJ,dK,asIntOf,run_underlying ht,hs,hi]
theorem pP(w:World):(Go.sizeOf 5).run ae w=.ok 1 w:=by kernel_rfl
def sB(w:World):Nat->Value->Prop
 |0,v=>∃e:Nat,v=.iface 158 (ai (some ⟨e,0,none⟩))
 |k+1,v=>∃(h:Nat) (s c:Value),v=.iface 155 (ai (some ⟨h,0,none⟩))/\w.heap[h]? =some (.cells #[s,c] 157 (0,0))/\sB w k c
theorem sB.iO{F:Nat->Prop}{w w':World}(hc:ip F w w')(hF:∀k cur fr,w.heap[k]? =some (.cells cur 157 fr)->¬F k):∀{k:Nat} {v:Value},sB w k v->sB w' k v
 |0,v,h=>h
 |k+1,v,⟨h,s,c,e,hb,hn⟩=>⟨h,s,c,e,by rw[hc.block h (aO.1 hb).1 (hF h _ _ hb)];exact hb,sB.iO hc hF hn⟩
theorem sB.below(h:sB w k v)(hb:Below w.heap.size w w'):sB w' k v:=h.iO (F:=fun _=>False) (ip.gS hb) (fun _ _ _ _ h=>h)
theorem sB.form(h:sB w k v):∃t p,v=.iface t p/\(t=158\/t=155):=by
 cases k with
 |zero=>obtain⟨e,rfl⟩:=h;exact⟨_,_,rfl,a_ rfl⟩
 |succ k=>obtain⟨h,s,c,rfl,_⟩:=h;exact⟨_,_,rfl,Or.inr rfl⟩
theorem us{h:Nat}{s c:Value}(hb:w.heap[h]? =some (.cells #[s,c] 157 (0,0))):w.cell? ⟨h,1,none⟩= some c:=by
 simp only[aX,hb]
 rfl
theorem Cs(k:Nat)(v:Value)(w:World)(he:Env w)(hk:k=1\/k=2\/k=3)(h:sB w k v):
  Calls ae 46 #[v] w fun e w'=>e=.returned (.bool true)/\Below w.heap.size w w':=by
 have im:Below w.heap.size w (w.alloc (.cells #[ai none] 158)):=gH w _
 have HA:Hid (Calls ae 87 #[v,.iface 160 (ai (some ⟨w.heap.size,0,none⟩))] (w.alloc (.cells #[ai none] 158)) fun ev w'=>ev=.returned (.bool true)/\Below w.heap.size (w.alloc (.cells #[ai none] 158)) w'):=by
  rcases hk with rfl|rfl|rfl
  ·obtain⟨h1,s1,c1,rfl,b1,g,rfl⟩:=h;exact EV h1 ⟨g,0,none⟩ ⟨w.heap.size,0,none⟩ _ (gF he.2 im) (gF (us b1) im) (by simp) (by simp)
  ·obtain⟨h1,s1,c1,rfl,b1,h2,s2,c2,rfl,b2,g,rfl⟩:=h;exact KT h1 h2 ⟨g,0,none⟩ ⟨w.heap.size,0,none⟩ _ (gF he.2 im) (gF (us b1) im) (gF (us b2) im) (by simp) (by simp)
  ·obtain⟨h1,s1,c1,rfl,b1,h2,s2,c2,rfl,b2,h3,s3,c3,rfl,b3,g,rfl⟩:=h;exact KU h1 h2 h3 ⟨g,0,none⟩ ⟨w.heap.size,0,none⟩ _ (gF he.2 im) (gF (us b1) im) (gF (us b2) im) (gF (us b3) im) (by simp) (by simp)
 obtain⟨t,p,rfl,_⟩:=h.form;clear h he;go_enter func46,ntmps46;go_wp2_with fail;refine HA.out.mono ?_;rintro e w2 ⟨rfl,iT⟩;have mw:Below w.heap.size w w2:=im.trans iT;clear im iT HA;go_wp2_with fail;go_ret;exact⟨rfl,mw⟩
def me(w:World)(v:Value)(l:List Int):Prop:=
 iF l/\l.length<=140737488355328/\∃ao cap,v=.slice ao l.length cap/\l.length<=cap/\cap<=9223372036854775807/\(ao=none->cap=0)/\(0<l.length->∃b off cur fr,ao=some ⟨b,off,none⟩/\w.heap[b]? =some (.cells cur 5 fr)/\∀j,j<l.length->cur[off+j]? =some (.int .u8 (l.getD j 0)))
theorem me.nil(w:World):me w (aj none 0 0) []:=⟨fun x hx=>(by cases hx),by simp,none,0,rfl,by simp,by simp,fun _=>rfl,fun h=>absurd h (by simp)⟩
theorem me.iO(h:me w v l)(hc:ip F w w')(hF:∀k cur fr,w.heap[k]? =some (.cells cur 5 fr)->¬F k):me w' v l:=by
 obtain⟨h1,h2,ao,cap,e,h3,h4,h5,h6⟩:=h;refine⟨h1,h2,ao,cap,e,h3,h4,h5,fun hp=>?_⟩;obtain⟨b,off,cur,fr,e1,hb,hj⟩:=h6 hp;exact⟨b,off,cur,fr,e1,by rw[hc.block b (aO.1 hb).1 (hF b cur fr hb)];exact hb,hj⟩
theorem me.below(h:me w v l)(hb:Below w.heap.size w w'):me w' v l:=h.iO (F:=fun _=>False) (ip.gS hb) (fun _ _ _ _ h=>h)
theorem me.cell{b off:Nat}(h:me w (aj (some ⟨b,off,none⟩) l.length cap) l)(j:Nat)(hj:j<l.length):w.cell? ⟨b,off+j,none⟩= some (.int .u8 (l.getD j 0)):=by
 obtain⟨_,_,ao,n_,e,_,_,_,h6⟩:=h;simp only[Value.slice.injEq]at e;obtain⟨rfl,_,rfl⟩:=e;obtain⟨b',aed,cur,fr,e2,hb,Jq⟩:=h6 (by omega);simp only[Option.some.injEq,Addr.mk.injEq,and_true]at e2;obtain⟨rfl,rfl⟩:=e2;simp only[aX,hb];exact Jq j hj
theorem me.reads(h:me w v l):kv w v l:=by
 obtain⟨h1,h2,ao,cap,rfl,h3,h4,h5,h6⟩:=id h;refine⟨h1,h2,?_⟩;rcases Nat.eq_zero_or_pos l.length with h0|h0
 ·exact a_ ⟨dI.1 h0,ao,cap,by rw[h0]⟩
 ·obtain⟨b,off,cur,fr,rfl,_,_⟩:=h6 h0;exact Or.inr ⟨h0,b,off,cap,rfl,h3,fun j hj=>h.cell j hj⟩
theorem me.ro(h:me w v l):Ro w 5 v l.length (U8 l):=by
 obtain⟨h1,h2,ao,cap,rfl,h3,h4,h5,h6⟩:=h;refine⟨ao,cap,rfl,fun hp=>?_,h5⟩;obtain⟨b,off,cur,fr,e,hb,hj⟩:=h6 hp;refine⟨b,off,cur,fr,e,hb,fun j qp=>?_⟩;rw[jM]at qp;rw[hj j qp];simp[U8,List.getElem?_eq_getElem qp,List.getD]
theorem me.drop(h:me w v l)(hk:k<=l.length):∃tv,me w tv (l.drop k)/\(∃ao cap,tv=.slice ao (l.length-k) cap)/\∀W:World,(dA 44 v (some (af ag (k:Int))) none none).run ae W=.ok tv W:=by
 obtain⟨h1,h2,ao,cap,rfl,h3,h4,h5,h6⟩:=h;have kk:∀W:World,(dA 44 (.slice ao l.length cap) (some (af ag (k:Int))) none none).run ae W=.ok (.slice (if cap=k then ao else ao.map (·.add (k*1))) (l.length-k) (cap-k)) W:=fun W=>sU W underlying44 (pP W) hk
 refine⟨_,?_,⟨_,_,rfl⟩,kk⟩;have hl:(l.drop k).length=l.length-k:=by simp
 refine⟨h1.drop k,by omega,_,_,by rw[hl],by omega,by omega,?_,fun hp=>?_⟩
 ·intro hn;by_cases CY:cap=k
  ·omega
  ·rw[if_neg CY]at hn
   cases ao with
   |none=>have:=h5 rfl;omega
   |some a=>simp at hn
 ·obtain⟨b,off,cur,fr,rfl,hb,hj⟩:=h6 (by omega);refine⟨b,off+k,cur,fr,?_,hb,fun j qp=>?_⟩
  ·rw[if_neg (by omega)];simp[Addr.add_lit]
  ·rw[Nat.add_assoc,hj (k+j) (by omega)];simp[List.getD,List.getElem?_drop]
theorem me.take(h:me w v l)(hk:k<=l.length):∃tv,me w tv (l.take k)/\(∃ao cap,tv=.slice ao k cap/\(0<k->∃b off,ao=some ⟨b,off,none⟩))/\∀W:World,(dA 44 v none (some (af ag (k:Int))) none).run ae W=.ok tv W:=by
 obtain⟨h1,h2,ao,cap,rfl,h3,h4,h5,h6⟩:=h;have hl:(l.take k).length=k:=by simp;omega
 refine⟨.slice ao k cap,⟨h1.take k,by omega,ao,cap,by rw[hl],by omega,h4,h5,fun hp=>?_⟩,⟨ao,cap,rfl,fun hp=>?_⟩,fun W=>?_⟩
 ·obtain⟨b,off,cur,fr,e,hb,hj⟩:=h6 (by omega);refine⟨b,off,cur,fr,e,hb,fun j qp=>?_⟩;rw[hj j (by omega)];have:j<k:=by omega
  simp[List.getD,this]
 ·obtain⟨b,off,cur,fr,e,_⟩:=h6 (by omega);exact⟨b,off,e⟩
 ·have Ad:k<=cap:=Nat.le_trans hk h3
  have T4:Option.map (fun x:Addr=>x.add 0) ao=ao:=by
   cases ao with
   |none=>rfl
   |some a=>simp[Addr.add]
  by_cases qs:cap=0
  ·subst qs;simp[dA,dJ,dK,asIntOf,run_underlying underlying44,pP W,Ad]
  ·simp[dA,dJ,dK,asIntOf,run_underlying underlying44,pP W,Ad,qs,T4]
structure oC(w:World)(rb:Nat)(rv ev:Value)(r:Rd):Prop where
 i_:w.heap[rb]? =some (.cells #[rv,ev] 151 (0,0))
 rd:me w rv r.rest
 ok:r.bad=false->ev=.nilIface
 no:r.bad=true->∃k,(k=1\/k=2)/\sB w k ev
def Iz(w:World)(rb:Nat)(r:Rd)(w':World):Prop:=∃rv ev,oC w' rb rv ev r/\ip (· = rb) w w'
theorem oC.c0{r:Rd}(h:oC w rb rv ev r):w.cell? ⟨rb,0,none⟩= some rv:=by simp only[aX,h.i_];rfl
theorem oC.c1{r:Rd}(h:oC w rb rv ev r):w.cell? ⟨rb,1,none⟩= some ev:=by simp only[aX,h.i_];rfl
theorem oC.free{r:Rd}(h:oC w rb rv ev r)(i:Nat):w.frozen? ⟨rb,i,none⟩= false:=frozen_of_row w rb i _ _ h.i_
theorem oC.below{r:Rd}(h:oC w rb rv ev r)(hb:Below w.heap.size w w'):oC w' rb rv ev r:=
 ⟨by rw[hb.block rb (aO.1 h.i_).1];exact h.i_,h.rd.below hb,h.ok,fun DT=>by obtain⟨k,hk,hn⟩:=h.no DT;exact⟨k,hk,hn.below hb⟩⟩
theorem oC.SR{r:Rd}(h:oC w rb rv ev r)(i:Nat)(v:Value)(hu:me w u l):me (w.setCell ⟨rb,i,none⟩ v) u l:=by
 refine hu.iO (iu (Below.refl _ w) i v) fun k cur fr hk e=>?_
 subst e;rw[h.i_]at hk;simp only[Option.some.injEq,Obj.cells.injEq]at hk;exact absurd hk.2.1 (by decide)
theorem oC.WV{r:Rd}(h:oC w rb rv ev r)(i:Nat)(v:Value)(hu:sB w k u):sB (w.setCell ⟨rb,i,none⟩ v) k u:=by
 refine hu.iO (iu (Below.refl _ w) i v) fun k cur fr hk e=>?_
 subst e;rw[h.i_]at hk;simp only[Option.some.injEq,Obj.cells.injEq]at hk;exact absurd hk.2.1 (by decide)
theorem oC.G_{r:Rd}(h:oC w rb rv ev r)(ht:me w tv l):oC (w.setCell ⟨rb,0,none⟩ tv) rb tv ev ⟨l,r.bad⟩:=
 ⟨gQ h.i_ 0 tv,h.SR 0 tv ht,h.ok,fun hb=>by obtain⟨k,hk,hn⟩:=h.no hb;exact⟨k,hk,h.WV 0 tv hn⟩⟩
theorem oC.Zh{r:Rd}(h:oC w rb rv ev r)(hk:k=1\/k=2)(ht:sB w k tv):oC (w.setCell ⟨rb,1,none⟩ tv) rb rv tv ⟨r.rest,true⟩:=
 ⟨gQ h.i_ 1 tv,h.SR 1 tv h.rd,fun hb=>(by cases hb),fun _=>⟨k,hk,h.WV 1 tv ht⟩⟩
theorem oC.xr{r:Rd}(h:oC w rb rv ev r)(hb:r.bad=true):∃a:Nat,ev=.iface 155 (ai (some ⟨a,0,none⟩)):=by
 obtain⟨k,hk,hn⟩:=h.no hb;rcases hk with rfl|rfl
 ·obtain⟨a,_,_,rfl,_⟩:=hn;exact⟨a,rfl⟩
 ·obtain⟨a,_,_,rfl,_⟩:=hn;exact⟨a,rfl⟩
theorem sB.Gp(h:sB w k v):∃t a,v=.iface t (ai (some ⟨a,0,none⟩)):=by
 cases k with
 |zero=>obtain⟨e,rfl⟩:=h;exact⟨_,e,rfl⟩
 |succ k=>obtain⟨a,s,c,rfl,_⟩:=h;exact⟨_,a,rfl⟩
theorem A3(rb:Nat)(rv ev:Value)(r:Rd)(s:ByteArray)(Wc:Value)(k:Nat)(w:World)(h:oC w rb rv ev r)(hc:sB w k Wc)(hk:k=0\/k=1):
  Calls ae 135 #[ai (some ⟨rb,0,none⟩),.string s,Wc] w fun e w'=>e=.returned (.tuple #[])/\∃ev',oC w' rb rv ev' ⟨r.rest,true⟩/\ip (· = rb) w w':=by
 have c1:=h.c1;obtain⟨t,a,rfl⟩:=hc.Gp;have HH:=gE h;have HC:=gE hc;clear h hc
 cases hb:r.bad with
 |true=>
  obtain⟨a1,rfl⟩:=HH.out.xr hb;have HB:=gE hb;clear hb;go_enter func135,ntmps135;go_wp2_with fail
  go_end0
  have h:=HH.out;exact⟨rfl,_,oC.mk (r:=⟨r.rest,true⟩) h.i_ h.rd (fun h=>(by cases h)) (fun _=>h.no HB.out),ip.refl _ _⟩
 |false=>
  have U9:=HH.out.ok hb;subst U9;have z1:=(HH.out.below (gH w (.cells #[.string s,.iface t (ai (some ⟨a,0,none⟩))] 157))).free 1;have d1:=gF c1 (gH w (.cells #[.string s,.iface t (ai (some ⟨a,0,none⟩))] 157));clear hb;go_enter func135,ntmps135;go_wp2_with fail
  go_end0
  have ny:=gH w (.cells #[.string s,.iface t (ai (some ⟨a,0,none⟩))] 157);refine⟨rfl,_,(HH.out.below ny).Zh (k:=k+1) (by omega) ⟨w.heap.size,_,_,rfl,heap_alloc_new w _,HC.out.below ny⟩,iu ny 1 _⟩
theorem D4(l:List Int)(v:Value)(w:World)(he:Env w)(h:me w v l)(hz:kz l=0):
  Calls ae 102 #[v] w fun e w'=>∃c,e=.returned (.tuple #[af ag 0,af ag 0,c])/\sB w' 1 c/\Below w.heap.size w w':=by
 have HN:Hid (Calls ae 154 #[v] w fun e w'=>∃g,e=.returned (.tuple #[af ag 0,.iface 158 (ai (some ⟨g,0,none⟩))])/\Below w.heap.size w w'):=by
  obtain⟨hl,hm,h|h⟩:=h.reads
  ·obtain⟨rfl,ao,cap,rfl⟩:=h;exact wS ao cap w
  ·obtain⟨hp,b,off,cap,rfl,nH,hc⟩:=h;have h0:=hc 0 hp;rw[Nat.add_zero]at h0;exact vS l hl hp b off cap w he hm h0 hz
 obtain⟨_,_,ao,cap,rfl,_⟩:=h;clear he hz;go_enter func102,ntmps102;go_wp2_with fail;refine HN.out.mono ?_;rintro e w1 ⟨g,rfl,hb⟩;have HB:=gE hb;clear hb HN;go_wp2_with fail
 go_ret3
 exact⟨_,rfl,⟨w1.heap.size,_,_,rfl,heap_alloc_new w1 _,g,rfl⟩,gI HB.out (gH _ _)⟩
theorem D5(l:List Int)(v:Value)(w:World)(h:me w v l)(hz:¬kz l=0):
  Calls ae 102 #[v] w fun e w'=>e=.returned (.tuple #[af ag (ly l),af ag (kz l),.nilIface])/\w=w':=by
 obtain⟨hl,hm,h|h⟩:=h.reads
 ·obtain⟨rfl,ao,cap,rfl⟩:=h;exact absurd rfl hz
 ·obtain⟨hp,b,off,cap,rfl,nH,hc⟩:=h;exact E4 l hl hp b off cap w nH hm hc hz
theorem Bs(rb:Nat)(rv ev:Value)(r:Rd)(s:ByteArray)(w:World)(he:Env w)(h:oC w rb rv ev r):
  Calls ae 84 #[ai (some ⟨rb,0,none⟩),.string s] w fun e w'=>e=.returned (af ag r.num.1)/\Iz w rb r.num.2 w':=by
 have c0:=h.c0;obtain⟨_,_,ao,cap,rfl,_⟩:=id h.rd;have HH:=gE h;by_cases hz:kz r.rest=0
 ·have hv:r.num.1=0:=(tM hz).1
  have It:Hid (r.num.2 =⟨r.rest.drop 0,true⟩):=by
   show _=_;unfold Rd.num;simp[hz]
  rw[hv];have HR:=gE (D4 r.rest _ w he h.rd hz);obtain⟨tv,qR,⟨ta,tc,rfl⟩,kk⟩:=h.rd.drop (k:=0) (Nat.zero_le _);have HT:=gE qR;clear h he hz qR hv;simp only[Int.natCast_zero,Nat.sub_zero]at kk HT;obtain⟨rl,pZ⟩:∃rl,r.rest.length=rl:=⟨_,rfl⟩;rw[pZ]at HR kk c0 HT;replace HH:Hid (oC w rb (.slice ao rl cap) ev r):=by rw[pZ]at HH;exact HH
  clear pZ;go_enter func84,ntmps84;go_wp2_with fail;refine HR.out.mono ?_;rintro e w1 ⟨c,rfl,hn,hb⟩;have H1:=gE (HH.out.below hb);have HF:=gE (A3 rb _ ev r s c 1 w1 H1.out hn (Or.inr rfl));obtain⟨t1,a1,rfl⟩:=hn.Gp;have HB:=gE hb;have HT1:=gE (HT.out.below hb);clear hb hn HR c0;go_wp2_with fail;refine HF.out.mono ?_;rintro e w2 ⟨rfl,ev',h2,nr⟩;have c2:=h2.c0;have z2:=h2.free 0;have H2:=gE h2;have Ai:=gE nr;clear h2 nr HF;go_wp2_with fail;go_ret;refine⟨rfl,?_⟩;rw[It.out];refine⟨_,_,H2.out.G_ (l:=r.rest.drop 0) (HT1.out.iO Ai.out fun k cur fr hk e=>?_),?_⟩
  ·subst e;have:=H1.out.i_;rw[this]at hk;simp only[Option.some.injEq,Obj.cells.injEq]at hk;exact absurd hk.2.1 (by decide)
  ·exact((ip.gS HB.out).trans Ai.out).trans (iu (Below.refl _ _) 0 _)
 ·have hg:=om r.rest;obtain⟨S,hS⟩:∃S:Nat,kz r.rest=S:=⟨(kz r.rest).toNat,by omega⟩;have hv:r.num.1=ly r.rest:=rfl
  have It:Hid (r.num.2 =⟨r.rest.drop S,r.bad⟩):=by
   show _=_;unfold Rd.num;simp[hz];rw[hS];simp
  rw[hv];have HR:=gE (D5 r.rest _ w h.rd hz);rw[hS]at HR hg;have hSl:S<=r.rest.length:=by omega
  obtain⟨tv,qR,⟨ta,tc,rfl⟩,kk⟩:=h.rd.drop hSl;have HT:=gE qR;have z0:=h.free 0;clear h he hz qR hv hg hS hSl;generalize ly r.rest=gv at HR⊢;obtain⟨rl,pZ⟩:∃rl,r.rest.length=rl:=⟨_,rfl⟩;obtain⟨tl,BI⟩:∃tl,r.rest.length-S=tl:=⟨_,rfl⟩;rw[BI]at kk HT;rw[pZ]at HR kk c0;replace HH:Hid (oC w rb (.slice ao rl cap) ev r):=by rw[pZ]at HH;exact HH
  clear pZ BI;go_enter func84,ntmps84;go_wp2_with fail;refine HR.out.mono ?_;rintro e w1 ⟨rfl,rfl⟩;clear HR;go_wp2_with fail;go_ret;refine⟨rfl,?_⟩;rw[It.out];exact⟨_,_,HH.out.G_ HT.out,iu (Below.refl _ _) 0 _⟩
theorem Lh{r:Rd}(h:r.bad=true\/(r.rest.length:Int)<c):r.rB c=([],⟨r.rest,true⟩):=if_pos h
theorem Nu{r:Rd}(h:r.bad=false)(h2:c<=(r.rest.length:Int)):r.rB c=(r.rest.take c.toNat,⟨r.rest.drop c.toNat,false⟩):=if_neg (by rw[h];simp;omega)
structure Xb(w:World)(rb:Nat)(x:List Int×Rd)(e:Ending)(w':World):Prop where
 ret:∃bv,e=.returned bv/\me w' bv x.1
 out:Iz w rb x.2 w'
theorem yO(rb:Nat)(rv ev:Value)(r:Rd)(s:ByteArray)(c:Int)(w:World)(he:Env w)(h:oC w rb rv ev r)(qs:0<=c)(km:c<=1073741823):
  Calls ae 85 #[ai (some ⟨rb,0,none⟩),.string s,af ag c] w fun e w'=>Xb w rb (r.rB c) e w':=by
 have c0:=h.c0;have d1:=h.c1;have hlm:=h.rd.2.1;obtain⟨_,_,ao,cap,rfl,hlc,_⟩:=id h.rd;have HH:=gE h;obtain⟨rl,pZ⟩:∃rl,r.rest.length=rl:=⟨_,rfl⟩;by_cases jp:(r.rest.length:Int)<c
 ·have It:=gE (Lh (r:=r) (c:=c) (Or.inr jp));have HTF:=gE (DF (r.rest.length:Int) c (by omega) (by omega) qs (by omega) w he);rw[pZ]at c0 jp HTF;replace HH:Hid (oC w rb (.slice ao rl cap) ev r):=by rw[pZ]at HH;exact HH
  clear h he hlm pZ hlc;go_enter func85,ntmps85;go_wp2_with fail;refine HTF.out.mono ?_;rintro e w1 ⟨g,rfl,hb⟩;have HF:=gE (A3 rb _ ev r s (.iface 158 (ai (some ⟨g,0,none⟩))) 0 w1 (HH.out.below hb) ⟨g,rfl⟩ (a_ rfl));have HB:=gE hb;clear hb HTF c0 d1;go_wp2_with fail;refine HF.out.mono ?_;rintro e w2 ⟨rfl,ev',h2,nr⟩;have c2:=h2.c1;obtain⟨a2,rfl⟩:=h2.xr rfl;have H2:=gE h2;have Ai:=gE nr;clear h2 nr HF;go_wp2_with fail;go_ret;rw[It.out];exact⟨⟨_,rfl,me.nil _⟩,_,_,H2.out,(ip.gS HB.out).trans Ai.out⟩
 ·cases hb:r.bad with
  |true=>
   have It:=gE (Lh (r:=r) (c:=c) (a_ hb));obtain⟨a1,rfl⟩:=h.xr hb;rw[pZ]at c0 jp;replace HH:Hid (oC w rb (.slice ao rl cap) (.iface 155 (ai (some ⟨a1,0,none⟩))) r):=by rw[pZ]at HH;exact HH
   have HB:=gE hb;clear h he hlm pZ hlc hb;go_enter func85,ntmps85;go_wp2_with fail;go_ret;rw[It.out];have h1:=HH.out;exact⟨⟨_,rfl,me.nil _⟩,_,_,oC.mk (r:=⟨r.rest,true⟩) h1.i_ h1.rd (fun h=>(by cases h)) (fun _=>h1.no HB.out),ip.refl _ _⟩
  |false=>
   have U9:=h.ok hb;subst U9;obtain⟨k,rfl⟩:∃k:Nat,c=k:=⟨c.toNat,by omega⟩;have It:=gE (Nu (r:=r) (c:=(k:Int)) hb (by omega));have yu:k<=r.rest.length:=by omega
   obtain⟨tv,qR,⟨ta,tc,rfl⟩,kk⟩:=h.rd.drop yu;obtain⟨uv,huv,⟨ua,uc,rfl,_⟩,zG⟩:=h.rd.take yu;have HT:=gE qR;have HU:=gE huv;have z0:=h.free 0;obtain⟨tl,BI⟩:∃tl,r.rest.length-k=tl:=⟨_,rfl⟩;rw[BI]at kk HT;rw[pZ]at c0 jp kk zG;replace HH:Hid (oC w rb (.slice ao rl cap) .nilIface r):=by rw[pZ]at HH;exact HH
   have HB:=gE hb;clear h he hlm pZ hlc hb qR huv BI yu;go_enter func85,ntmps85;go_wp2_with fail;go_ret;rw[It.out];have h2:=HH.out.G_ HT.out;rw[HB.out]at h2;refine⟨⟨_,rfl,HH.out.SR 0 _ HU.out⟩,_,_,h2,iu (Below.refl _ _) 0 _⟩
theorem FW(rb:Nat)(rv ev:Value)(r:Rd)(s:ByteArray)(w:World)(he:Env w)(h:oC w rb rv ev r):
  Calls ae 83 #[ai (some ⟨rb,0,none⟩),.string s] w fun e w'=>e=.returned (af ag r.kind.1)/\Iz w rb r.kind.2 w':=by
 have HB:=gE (yO rb rv ev r s 1 w he h (by decide) (by decide));clear he h;go_enter func83,ntmps83;go_wp2_with fail;refine HB.out.mono ?_;rintro e w1 ⟨⟨bv,rfl,kI⟩,rv1,ev1,h1,km⟩;have d1:=h1.c1
 cases hb:(r.rB 1).2.bad with
 |true=>
  have HK:Hid (r.kind=(0,(r.rB 1).2)):=by
   show _=_;unfold Rd.kind;rw[if_pos hb]
  obtain⟨a1,rfl⟩:=h1.xr hb;obtain⟨_,_,ba,bc,rfl,_⟩:=kI;have H1:=gE h1;have HC:=gE km;clear h1 km hb HB;go_wp2_with fail;go_ret;rw[HK.out];exact⟨rfl,_,_,H1.out,HC.out⟩
 |false=>
  have HK:Hid (r.kind=((r.rB 1).1.getD 0 0,(r.rB 1).2)):=by
   show _=_;unfold Rd.kind;rw[if_neg (by rw[hb];decide)]
  have U9:=h1.ok hb;subst U9
  have sj:(r.rB 1).1.length=1:=by
   by_cases hn:r.bad=true\/(r.rest.length:Int)<1
   ·rw[Lh hn]at hb;cases hb
   ·have h3:r.bad=false:=by
     cases Ae:r.bad with
     |true=>exact absurd (a_ Ae) hn
     |false=>rfl
    have h4:(1:Int)<=(r.rest.length:Int):=by omega
    rw[Nu h3 h4];simp;omega
  have SE:=j9 kI.1 0;obtain⟨_,_,ba,bc,e1,NE,_,_,hp⟩:=id kI;obtain⟨bb,off,cur,fr,e2,_⟩:=hp (by omega);subst e2;subst e1;have jk:=kI.cell 0 (by omega);rw[Nat.add_zero]at jk;rw[sj];obtain⟨x,hx⟩:∃x,(r.rB 1).1.getD 0 0=x:=⟨_,rfl⟩;rw[hx]at jk SE HK;obtain⟨Vt,Q0⟩:=SE;have hwx:IntKind.i64.wrap x=x:=by rw[di];omega
  have H1:=gE h1;have HC:=gE km;clear h1 km hb HB kI hp sj hx;go_wp2_with fail;go_ret;rw[HK.out];exact⟨rfl,_,_,H1.out,HC.out⟩
theorem Ab(rb:Nat)(rv ev:Value)(r:Rd)(s:ByteArray)(k:Int)(w:World)(he:Env w)(h:oC w rb rv ev r)(h0:0<=k)(h1:k<=9223372036854775807):
  Calls ae 86 #[ai (some ⟨rb,0,none⟩),.string s,af ag k] w fun e w'=>e=.returned (.tuple #[])/\Iz w rb r.fail w':=by
 have HI:=gE (zK k h0 h1 w he);have HH:=gE h;clear h he;go_enter func86,ntmps86;go_wp2_with fail;refine HI.out.mono ?_;rintro e w1 ⟨t,rfl,ht,hb⟩;have HB:=gE hb;have HF:=gE (fun(W:World) (hW:Below w.heap.size w W) (g:Nat)=>A3 rb _ ev r s (.iface 158 (ai (some ⟨g,0,none⟩))) 0 W (HH.out.below hW) ⟨g,rfl⟩ (a_ rfl));clear hb HI;go_wp2_with fail;refine(HF.out _ (gI HB.out (gH _ _)) _).mono ?_;rintro e w2 ⟨rfl,ev',h2,nr⟩;have H2:=gE h2;have Ai:=gE nr;clear h2 nr HF;go_wp2_with fail
 go_end0
 exact⟨rfl,_,_,H2.out,(ip.gS (gI HB.out (gH _ _))).trans Ai.out⟩
theorem heap_drew(w:World):w.drew.heap=w.heap:=rfl
theorem zP{fn:Func}{p u v:Tmp}(h:fn.results=#[.cell p ty,.tmp u,.tmp v])(tmps:Array Value)(w:World)(g:Nat)(t:TypeId)(cs:Array Value)(fr:Nat×Nat)(d:TypeDesc)
  (hp:tmps.getD p undef=ai (some ⟨g,0,none⟩)) (hg:w.heap[g]? =some (.cells cs t fr))
  (hu:P.underlying ty=some d) (hd:(match d with|.struct _|.array _ _=>true|_=>false)=true) (hi:(P.info? ty).map (·.size)=some cs.size):
  (results fn tmps).run P w=.ok (.tuple #[.agg cs,tmps.getD u undef,tmps.getD v undef]) w:=by
 have Cc:tmps[p]?.getD undef=ai (some ⟨g,0,none⟩):=by simpa using hp
 simp[results,h,Cc,asAddr,run_loadVar_row w g t ty cs fr d hg hu hd hi]
theorem pL{fn:Func}{p u v:Tmp}(h:fn.results=#[.cell p ty,.tmp u,.tmp v])(tmps:Array Value)(w:World)(g:Nat)(t:TypeId)(cs:Array Value)(fr:Nat×Nat)(d:TypeDesc)(vu vv:Value)
  (hp:tmps.getD p undef=ai (some ⟨g,0,none⟩)) (hvu:tmps.getD u undef=vu) (Z7:tmps.getD v undef=vv) (hg:w.heap[g]? =some (.cells cs t fr))
  (hu:P.underlying ty=some d) (hd:(match d with|.struct _|.array _ _=>true|_=>false)=true) (hi:(P.info? ty).map (·.size)=some cs.size):
  (results fn tmps).run P w=.ok (.tuple #[.agg cs,vu,vv]) w:=by
 rw[<-hvu,<-Z7];exact zP h tmps w g t cs fr d hp hg hu hd hi
theorem kM{fn:Func}{p u:Tmp}(h:fn.results=#[.cell p ty,.tmp u])(tmps:Array Value)(w:World)(g:Nat)(t:TypeId)(cs:Array Value)(fr:Nat×Nat)(d:TypeDesc)(vu:Value)
  (hp:tmps.getD p undef=ai (some ⟨g,0,none⟩)) (hvu:tmps.getD u undef=vu) (hg:w.heap[g]? =some (.cells cs t fr))
  (hu:P.underlying ty=some d) (hd:(match d with|.struct _|.array _ _=>true|_=>false)=true) (hi:(P.info? ty).map (·.size)=some cs.size):
  (results fn tmps).run P w=.ok (.tuple #[.agg cs,vu]) w:=by
 have Cc:tmps[p]?.getD undef=ai (some ⟨g,0,none⟩):=by simpa using hp
 rw[<-hvu];simp[results,h,Cc,asAddr,run_loadVar_row w g t ty cs fr d hg hu hd hi]
structure qW(T:TypeId)(zc:Array Value)(w:World)(fb:Nat)(r:Rd)(fc:Array Value)(W:World):Prop where
 ze:Below w.heap.size w W
 res:W.heap[w.heap.size]? =some (.cells zc T (0,0))
 rd:∃rv ev,oC W (w.heap.size+1) rv ev r
 NA:W.heap[fb]? =some (.cells fc T (0,0))
 ne:w.heap.size+1<fb
theorem lH(hb:Below w.heap.size w W)(hc:ip (· = rb) W W')(h:w.heap.size<=rb):Below w.heap.size w W':=
 ⟨hc.os.trans hb.os,hc.tape.trans hb.tape,hc.output.trans hb.output,Nat.le_trans hb.size hc.size,fun k hk=>by rw[hc.block k (Nat.lt_of_lt_of_le hk hb.size) (show k≠rb from by omega),hb.block k hk]⟩
theorem qW.step{r r':Rd}(h:qW T zc w fb r fc W)(ho:Iz W (w.heap.size+1) r' W'):qW T zc w fb r' fc W':=by
 obtain⟨rv,ev,h1,hc⟩:=ho;have js:=h.ne;refine⟨lH h.ze hc (by omega),?_,⟨rv,ev,h1⟩,?_,js⟩
 ·rw[hc.block _ (aO.1 h.res).1 (show w.heap.size≠w.heap.size+1 from by omega)];exact h.res
 ·rw[hc.block _ (aO.1 h.NA).1 (show fb≠w.heap.size+1 from by omega)];exact h.NA
theorem qW.xJ{r:Rd}(UZ:T≠5)(hT3:T≠157)(h:qW T zc w fb r fc W)(i:Nat)(v:Value):qW T zc w fb r (fc.setIfInBounds i v) (W.setCell ⟨fb,i,none⟩ v):=by
 have js:=h.ne;obtain⟨rv,ev,h1⟩:=h.rd;have hc:ip (· = fb) W (W.setCell ⟨fb,i,none⟩ v):=iu (Below.refl _ W) i v
 have hT:∀k cur fr e,W.heap[k]? =some (.cells cur e fr)->T≠e->¬k=fb:=by
  intro k cur fr e hk he e2;subst e2;rw[h.NA]at hk;simp only[Option.some.injEq,Obj.cells.injEq]at hk;exact he hk.2.1
 refine⟨lH h.ze hc (by omega),?_,⟨rv,ev,?_,h1.rd.iO hc fun k cur fr hk=>hT k cur fr _ hk UZ,h1.ok,fun hb=>?_⟩,gQ h.NA i v,js⟩
 ·rw[hc.block _ (aO.1 h.res).1 (show w.heap.size≠fb from by omega)];exact h.res
 ·rw[hc.block _ (aO.1 h1.i_).1 (show w.heap.size+1≠fb from by omega)];exact h1.i_
 ·obtain⟨k,hk,hn⟩:=h1.no hb;exact⟨k,hk,hn.iO hc fun k cur fr hk=>hT k cur fr _ hk hT3⟩
theorem qW.cell{r:Rd}(h:qW T zc w fb r fc W)(i:Nat):W.cell? ⟨fb,i,none⟩= fc[i]?:=by simp only[aX,h.NA];rfl
theorem qW.free{r:Rd}(h:qW T zc w fb r fc W)(i:Nat):W.frozen? ⟨fb,i,none⟩= false:=frozen_of_row W fb i _ _ h.NA
def As(p:Og)(bv:Value):Array Value:=#[af ag p.type,af ag p.id,af ag p.iC,bv,af ag p.en,af ag p.proof]
def lg:Array Value:=#[af ag 0,af ag 0,af ag 0,aj none 0 0,af ag 0,af ag 0]
structure wh(w:World)(b:List Int)(x:Og×Rd)(e:Ending)(w':World):Prop where
 ze:Below w.heap.size w w'
 bad:x.2.bad=true->∃k c,e=.returned (.tuple #[.agg lg,af ag 0,c])/\(k=2\/k=3)/\sB w' k c
 ok:x.2.bad=false->∃bv,e=.returned (.tuple #[.agg (As x.1 bv),af ag ((b.length:Int)-x.2.rest.length),.nilIface])/\me w' bv x.1.bytes
theorem wh.drew{x:Og×Rd}(h:wh w b x e W):wh w b x e W.drew where
 ze:=gK h.ze 1
 bad:=fun hb=>by obtain⟨k,c,e1,hk,hn⟩:=h.bad hb;exact⟨k,c,e1,hk,hn.below (gK (Below.refl _ W) 1)⟩
 ok:=fun hb=>by obtain⟨bv,e1,h1⟩:=h.ok hb;exact⟨bv,e1,h1.below (gK (Below.refl _ W) 1)⟩
theorem uI{r:Rd}(h:iF r.rest):0<=r.num.1/\r.num.1<=1073741823:=by
 have:=qD h;show 0<=ly r.rest/\ly r.rest<=1073741823;omega
def wE(t:Int)(r0:Rd):Og×Rd:=
 if t=0\/t=1 then(⟨t,0,0,[],0,0⟩,r0)
 else if t=3\/t=4 then(⟨t,r0.num.1,r0.num.2.num.1,(r0.num.2.num.2.num.2.rB r0.num.2.num.2.num.1).1,r0.num.2.num.1+(r0.num.2.num.2.num.2.rB r0.num.2.num.2.num.1).1.length,0⟩,(r0.num.2.num.2.num.2.rB r0.num.2.num.2.num.1).2)
 else if t=5 then(⟨t,r0.num.1,0,[],r0.num.2.num.1,0⟩,r0.num.2.num.2)
 else if t=6 then(⟨t,0,0,[],0,0⟩,r0.num.2)
 else if t=7 then(⟨t,0,0,[],0,r0.num.1⟩,r0.num.2)
 else(⟨t,0,0,[],0,0⟩,r0.fail)
theorem RP(hp:0<b.length):wD b=wE (b.getD 0 0) ⟨b.drop 1,false⟩:=by
 unfold wD wE;rw[uF hp]
theorem Dg{r:Rd}(h:iF r.rest):iF r.num.2.rest:=h.drop _
theorem DL(b:List Int)(bv:Value)(w:World)(he:Env w)(h:me w bv b)(hp:0<b.length):
  Calls ae 181 #[bv] w fun e w'=>wh w b (wD b) e w':=by
 obtain⟨_,_,ao,cap,rfl,_⟩:=id h;obtain⟨bl,qQ⟩:∃bl,b.length=bl:=⟨_,rfl⟩;have VQ:=gE qQ;have QP:∀W:World,Below w.heap.size w W->Env W:=fun W hW=>he.below hW
 have iT:Below w.heap.size w ((w.alloc (.cells lg 286)).alloc (.cells #[.slice ao b.length cap,.nilIface] 151)):=(gH w _).alloc (by simp) _;have HK:=gE (FW (w.heap.size+1) (.slice ao b.length cap) .nilIface ⟨b,false⟩ ⟨#[116,121,112,101]⟩ _ (QP _ iT) ⟨heap_alloc2_new w _ _,h.below iT,fun _=>rfl,fun h=>(by cases h)⟩);rw[uF hp]at HK;have HE:=gE QP;have BJ:=j9 h.1 0
 have nm:Hid (∀(W:World) (fb:Nat) (r:Rd) (fc:Array Value) (s:ByteArray),qW 286 lg w fb r fc W->Calls ae 84 #[ai (some ⟨w.heap.size+1,0,none⟩),.string s] W fun e w'=>e=.returned (af ag r.num.1)/\qW 286 lg w fb r.num.2 fc w'):=by
  intro W fb r fc s hW;obtain⟨rv,ev,h1⟩:=hW.rd;refine(Bs _ rv ev r s W (QP W hW.ze) h1).mono ?_;rintro e w' ⟨rfl,ho⟩;exact⟨rfl,hW.step ho⟩
 have Oi:Hid (∀(W:World) (fb:Nat) (r:Rd) (fc:Array Value) (s:ByteArray) (c:Int),qW 286 lg w fb r fc W->0<=c/\c<=1073741823->Calls ae 85 #[ai (some ⟨w.heap.size+1,0,none⟩),.string s,af ag c] W fun e w'=>(∃bv,e=.returned bv/\me w' bv (r.rB c).1)/\qW 286 lg w fb (r.rB c).2 fc w'):=by
  intro W fb r fc s c hW hc;obtain⟨rv,ev,h1⟩:=hW.rd;refine(yO _ rv ev r s c W (QP W hW.ze) h1 hc.1 hc.2).mono ?_;rintro e w' ⟨h2,ho⟩;exact⟨h2,hW.step ho⟩
 have Rq:Hid (∀(W:World) (fb:Nat) (r:Rd) (fc:Array Value) (s:ByteArray) (c:Int),qW 286 lg w fb r fc W->0<=c/\c<=1073741823->Calls ae 86 #[ai (some ⟨w.heap.size+1,0,none⟩),.string s,af ag c] W fun e w'=>e=.returned (.tuple #[])/\qW 286 lg w fb r.fail fc w'):=by
  intro W fb r fc s c hW hc;obtain⟨rv,ev,h1⟩:=hW.rd;refine(Ab _ rv ev r s c W (QP W hW.ze) h1 hc.1 (by omega)).mono ?_;rintro e w' ⟨rfl,ho⟩;exact⟨rfl,hW.step ho⟩
 have Ul:Hid (iF b):=h.1;have yc:=gE (RP hp);have ZM:((w.alloc (.cells lg 286)).alloc (.cells #[.slice ao b.length cap,.nilIface] 151)).heap[w.heap.size]? =some (.cells lg 286 (0,0)):=heap_alloc2_old w _ _;have E3:=gE ZM;have mc:=gE iT;rw[qQ]at HK E3 mc⊢;obtain⟨x,hx⟩:∃x,wD b=x:=⟨_,rfl⟩;rw[hx]at yc⊢;clear hx;clear h he iT ZM qQ hp QP;unfold lg at HK E3 mc;go_enter func181,ntmps181;go_wp2_with fail;refine HK.out.mono ?_;rintro e w1 ⟨rfl,rv1,ev1,h1,km⟩
 have K0:Hid (∀t:Int,qW 286 lg w w1.heap.size ⟨b.drop 1,false⟩ #[af ag t,af ag 0,af ag 0,aj none 0 0,af ag 0,af ag 0] (w1.alloc (.cells #[af ag t,af ag 0,af ag 0,aj none 0 0,af ag 0,af ag 0] 286))):=by
  intro t;have ku:w.heap.size+1<w1.heap.size:=by have:=km.size;simp at this;omega
  refine⟨gI (lH mc.out km (by omega)) (gH _ _),?_,⟨rv1,ev1,h1.below (gH _ _)⟩,heap_alloc_new w1 _,ku⟩;rw[Below.heap_alloc _ _ _ (by omega),km.block _ (by simp;omega) (show w.heap.size≠w.heap.size+1 from by omega)];exact E3.out
 clear h1 km HK E3 mc;obtain⟨t,ht⟩:∃t,b.getD 0 0=t:=⟨_,rfl⟩;have HTy:=gE ht;rw[ht]at BJ yc⊢;clear ht;have K7:=gE (K0.out t);clear K0;have kf:iF (Rd.mk (b.drop 1) false).rest:=Ul.out.drop 1;generalize Rd.mk (b.drop 1) false=r0 at K7 yc kf;have im:=Dg kf;have iT:=Dg im;have g1:=uI kf;have g2:=uI im;have g3:=uI iT;have HG:=gE (And.intro g1 (And.intro g2 g3));clear g1 g2 g3 kf im iT
 go_upto_block 0 with fail
 go_cut [6] from 11 to 48 (fun s6 wx=>s6=ai (some ⟨w1.heap.size,0,none⟩)/\∃bv,qW 286 lg w w1.heap.size x.2 (As x.1 bv) wx/\me wx bv x.1.bytes)
 case first=>
  by_cases t0:t=0
  ·subst t0;go_wp2_with fail
   go_meet
   refine⟨rfl,aj none 0 0,?_,?_⟩
   ·rw[yc.out];exact K7.out
   ·rw[yc.out];exact me.nil _
  by_cases t1:t=1
  ·subst t1;go_wp2_with fail
   go_meet
   refine⟨rfl,aj none 0 0,?_,?_⟩
   ·rw[yc.out];exact K7.out
   ·rw[yc.out];exact me.nil _
  by_cases t3:t=3
  ·subst t3;go_wp2_with fail;refine(nm.out _ _ _ _ _ K7.out).mono ?_;rintro e w2 ⟨rfl,h2⟩;have x2:w2.cell? ⟨w1.heap.size,1,none⟩= some (af ag 0):=h2.cell 1;have z2:=h2.free 1;have H2:=gE (h2.xJ (by decide) (by decide) 1 (af ag r0.num.1));clear h2;go_wp2_with fail;refine(nm.out _ _ _ _ _ H2.out).mono ?_;rintro e w3 ⟨rfl,h3⟩;have x3:w3.cell? ⟨w1.heap.size,2,none⟩= some (af ag 0):=h3.cell 2;have z3:=h3.free 2;have H3:=gE (h3.xJ (by decide) (by decide) 2 (af ag r0.num.2.num.1));clear h3;go_wp2_with fail;refine(nm.out _ _ _ _ _ H3.out).mono ?_;rintro e w4 ⟨rfl,h4⟩;have H4:=gE h4;clear h4;go_wp2_with fail;refine(Oi.out _ _ _ _ _ _ H4.out HG.out.2.2).mono ?_;rintro e w5 ⟨⟨pv,rfl,tA⟩,h5⟩;have x5:w5.cell? ⟨w1.heap.size,3,none⟩= some (aj none 0 0):=h5.cell 3;have z5:=h5.free 3;obtain⟨_,xt,pa,pc,rfl,_⟩:=id tA;have H5:=gE (h5.xJ (by decide) (by decide) 3 (.slice pa (r0.num.2.num.2.num.2.rB r0.num.2.num.2.num.1).1.length pc));have E2:=gE (tA.iO (iu (cb:=w1.heap.size) (Below.refl _ w5) 3 (.slice pa (r0.num.2.num.2.num.2.rB r0.num.2.num.2.num.1).1.length pc)) fun k cur fr hk e=>by subst e;rw[h5.NA]at hk;simp only[Option.some.injEq,Obj.cells.injEq]at hk;exact absurd hk.2.1 (by decide));have y2:(w5.setCell ⟨w1.heap.size,3,none⟩ (.slice pa (r0.num.2.num.2.num.2.rB r0.num.2.num.2.num.1).1.length pc)).cell? ⟨w1.heap.size,2,none⟩= some (af ag r0.num.2.num.1):=H5.out.cell 2;have y3:(w5.setCell ⟨w1.heap.size,3,none⟩ (.slice pa (r0.num.2.num.2.num.2.rB r0.num.2.num.2.num.1).1.length pc)).cell? ⟨w1.heap.size,3,none⟩= some (.slice pa (r0.num.2.num.2.num.2.rB r0.num.2.num.2.num.1).1.length pc):=H5.out.cell 3;have y4:(w5.setCell ⟨w1.heap.size,3,none⟩ (.slice pa (r0.num.2.num.2.num.2.rB r0.num.2.num.2.num.1).1.length pc)).cell? ⟨w1.heap.size,4,none⟩= some (af ag 0):=H5.out.cell 4;have v4:=H5.out.free 4;clear tA h5;have mZ:=HG.out.2.1;obtain⟨pl,LX⟩:∃pl,(r0.num.2.num.2.num.2.rB r0.num.2.num.2.num.1).1.length=pl:=⟨_,rfl⟩;have HPl:=gE LX;rw[LX]at xt y3 y2 y4 v4 H5 E2⊢;have hwp:IntKind.i64.wrap (r0.num.2.num.1+(pl:Int))=r0.num.2.num.1+pl:=by rw[di];omega
   have H5':=gE (H5.out.xJ (by decide) (by decide) 4 (af ag (r0.num.2.num.1+pl)));clear xt LX mZ;go_wp2_with fail
   go_meet
   refine⟨rfl,.slice pa pl pc,?_,?_⟩
   ·rw[yc.out];unfold wE As;rw[if_neg (by decide),if_pos (by decide)];simp only;rw[HPl.out];exact H5'.out
   ·rw[yc.out];unfold wE;rw[if_neg (by decide),if_pos (by decide)];refine E2.out.iO (iu (cb:=w1.heap.size) (Below.refl _ _) 4 _) fun k cur fr hk e=>?_
    subst e;rw[H5.out.NA]at hk;simp only[Option.some.injEq,Obj.cells.injEq]at hk;exact absurd hk.2.1 (by decide)
  by_cases t4:t=4
  ·subst t4;go_wp2_with fail;refine(nm.out _ _ _ _ _ K7.out).mono ?_;rintro e w2 ⟨rfl,h2⟩;have x2:w2.cell? ⟨w1.heap.size,1,none⟩= some (af ag 0):=h2.cell 1;have z2:=h2.free 1;have H2:=gE (h2.xJ (by decide) (by decide) 1 (af ag r0.num.1));clear h2;go_wp2_with fail;refine(nm.out _ _ _ _ _ H2.out).mono ?_;rintro e w3 ⟨rfl,h3⟩;have x3:w3.cell? ⟨w1.heap.size,2,none⟩= some (af ag 0):=h3.cell 2;have z3:=h3.free 2;have H3:=gE (h3.xJ (by decide) (by decide) 2 (af ag r0.num.2.num.1));clear h3;go_wp2_with fail;refine(nm.out _ _ _ _ _ H3.out).mono ?_;rintro e w4 ⟨rfl,h4⟩;have H4:=gE h4;clear h4;go_wp2_with fail;refine(Oi.out _ _ _ _ _ _ H4.out HG.out.2.2).mono ?_;rintro e w5 ⟨⟨pv,rfl,tA⟩,h5⟩;have x5:w5.cell? ⟨w1.heap.size,3,none⟩= some (aj none 0 0):=h5.cell 3;have z5:=h5.free 3;obtain⟨_,xt,pa,pc,rfl,_⟩:=id tA;have H5:=gE (h5.xJ (by decide) (by decide) 3 (.slice pa (r0.num.2.num.2.num.2.rB r0.num.2.num.2.num.1).1.length pc));have E2:=gE (tA.iO (iu (cb:=w1.heap.size) (Below.refl _ w5) 3 (.slice pa (r0.num.2.num.2.num.2.rB r0.num.2.num.2.num.1).1.length pc)) fun k cur fr hk e=>by subst e;rw[h5.NA]at hk;simp only[Option.some.injEq,Obj.cells.injEq]at hk;exact absurd hk.2.1 (by decide));have y2:(w5.setCell ⟨w1.heap.size,3,none⟩ (.slice pa (r0.num.2.num.2.num.2.rB r0.num.2.num.2.num.1).1.length pc)).cell? ⟨w1.heap.size,2,none⟩= some (af ag r0.num.2.num.1):=H5.out.cell 2;have y3:(w5.setCell ⟨w1.heap.size,3,none⟩ (.slice pa (r0.num.2.num.2.num.2.rB r0.num.2.num.2.num.1).1.length pc)).cell? ⟨w1.heap.size,3,none⟩= some (.slice pa (r0.num.2.num.2.num.2.rB r0.num.2.num.2.num.1).1.length pc):=H5.out.cell 3;have y4:(w5.setCell ⟨w1.heap.size,3,none⟩ (.slice pa (r0.num.2.num.2.num.2.rB r0.num.2.num.2.num.1).1.length pc)).cell? ⟨w1.heap.size,4,none⟩= some (af ag 0):=H5.out.cell 4;have v4:=H5.out.free 4;clear tA h5;have mZ:=HG.out.2.1;obtain⟨pl,LX⟩:∃pl,(r0.num.2.num.2.num.2.rB r0.num.2.num.2.num.1).1.length=pl:=⟨_,rfl⟩;have HPl:=gE LX;rw[LX]at xt y3 y2 y4 v4 H5 E2⊢;have hwp:IntKind.i64.wrap (r0.num.2.num.1+(pl:Int))=r0.num.2.num.1+pl:=by rw[di];omega
   have H5':=gE (H5.out.xJ (by decide) (by decide) 4 (af ag (r0.num.2.num.1+pl)));clear xt LX mZ;go_wp2_with fail
   go_meet
   refine⟨rfl,.slice pa pl pc,?_,?_⟩
   ·rw[yc.out];unfold wE As;rw[if_neg (by decide),if_pos (by decide)];simp only;rw[HPl.out];exact H5'.out
   ·rw[yc.out];unfold wE;rw[if_neg (by decide),if_pos (by decide)];refine E2.out.iO (iu (cb:=w1.heap.size) (Below.refl _ _) 4 _) fun k cur fr hk e=>?_
    subst e;rw[H5.out.NA]at hk;simp only[Option.some.injEq,Obj.cells.injEq]at hk;exact absurd hk.2.1 (by decide)
  by_cases t5:t=5
  ·subst t5;go_wp2_with fail;refine(nm.out _ _ _ _ _ K7.out).mono ?_;rintro e w2 ⟨rfl,h2⟩;have x2:w2.cell? ⟨w1.heap.size,1,none⟩= some (af ag 0):=h2.cell 1;have z2:=h2.free 1;have H2:=gE (h2.xJ (by decide) (by decide) 1 (af ag r0.num.1));clear h2;go_wp2_with fail;refine(nm.out _ _ _ _ _ H2.out).mono ?_;rintro e w3 ⟨rfl,h3⟩;have x3:w3.cell? ⟨w1.heap.size,4,none⟩= some (af ag 0):=h3.cell 4;have z3:=h3.free 4;have H3:=gE (h3.xJ (by decide) (by decide) 4 (af ag r0.num.2.num.1));clear h3;go_wp2_with fail
   go_meet
   refine⟨rfl,aj none 0 0,?_,?_⟩
   ·rw[yc.out];exact H3.out
   ·rw[yc.out];exact me.nil _
  by_cases t6:t=6
  ·subst t6;go_wp2_with fail;refine(nm.out _ _ _ _ _ K7.out).mono ?_;rintro e w2 ⟨rfl,h2⟩;have H2:=gE h2;clear h2;go_wp2_with fail
   go_meet
   refine⟨rfl,aj none 0 0,?_,?_⟩
   ·rw[yc.out];exact H2.out
   ·rw[yc.out];exact me.nil _
  by_cases t7:t=7
  ·subst t7;go_wp2_with fail;refine(nm.out _ _ _ _ _ K7.out).mono ?_;rintro e w2 ⟨rfl,h2⟩;have x2:w2.cell? ⟨w1.heap.size,5,none⟩= some (af ag 0):=h2.cell 5;have z2:=h2.free 5;have H2:=gE (h2.xJ (by decide) (by decide) 5 (af ag r0.num.1));clear h2;go_wp2_with fail
   go_meet
   refine⟨rfl,aj none 0 0,?_,?_⟩
   ·rw[yc.out];exact H2.out
   ·rw[yc.out];exact me.nil _
  have HT8:Hid (wE t r0=(⟨t,0,0,[],0,0⟩,r0.fail)):=by
   show _=_;unfold wE;rw[if_neg (by omega),if_neg (by omega),if_neg t5,if_neg t6,if_neg t7]
  have b0:(t==0)=false:=beq_eq_false_iff_ne.2 t0;have b1:(t==1)=false:=beq_eq_false_iff_ne.2 t1;have b3:(t==3)=false:=beq_eq_false_iff_ne.2 t3;have b4:(t==4)=false:=beq_eq_false_iff_ne.2 t4;have b5:(t==5)=false:=beq_eq_false_iff_ne.2 t5;have b6:(t==6)=false:=beq_eq_false_iff_ne.2 t6;have b7:(t==7)=false:=beq_eq_false_iff_ne.2 t7;clear t0 t1 t3 t4 t5 t6 t7;go_wp2_with fail;refine(Rq.out _ _ _ _ _ _ K7.out (by omega)).mono ?_;rintro e w2 ⟨rfl,h2⟩;have H2:=gE h2;clear h2;go_wp2_with fail
  go_meet
  refine⟨rfl,aj none 0 0,?_,?_⟩
  ·rw[yc.out,HT8.out];exact H2.out
  ·rw[yc.out,HT8.out];exact me.nil _
 case rest=>
  obtain⟨rfl,pv,oM,tA⟩:=hcut;obtain⟨N7,ev2,Ip⟩:=oM.rd;have k0:wc.cell? ⟨w.heap.size,0,none⟩= some (af ag 0):=(by simp only[aX,oM.res];rfl);have j0:wc.frozen? ⟨w.heap.size,0,none⟩= false:=frozen_of_row wc _ _ _ _ oM.res;have k1:wc.cell? ⟨w.heap.size,1,none⟩= some (af ag 0):=(by simp only[aX,oM.res];rfl);have j1:wc.frozen? ⟨w.heap.size,1,none⟩= false:=frozen_of_row wc _ _ _ _ oM.res;have k2:wc.cell? ⟨w.heap.size,2,none⟩= some (af ag 0):=(by simp only[aX,oM.res];rfl);have j2:wc.frozen? ⟨w.heap.size,2,none⟩= false:=frozen_of_row wc _ _ _ _ oM.res;have k3:wc.cell? ⟨w.heap.size,3,none⟩= some (aj none 0 0):=(by simp only[aX,oM.res];rfl);have j3:wc.frozen? ⟨w.heap.size,3,none⟩= false:=frozen_of_row wc _ _ _ _ oM.res;have k4:wc.cell? ⟨w.heap.size,4,none⟩= some (af ag 0):=(by simp only[aX,oM.res];rfl);have j4:wc.frozen? ⟨w.heap.size,4,none⟩= false:=frozen_of_row wc _ _ _ _ oM.res;have k5:wc.cell? ⟨w.heap.size,5,none⟩= some (af ag 0):=(by simp only[aX,oM.res];rfl);have j5:wc.frozen? ⟨w.heap.size,5,none⟩= false:=frozen_of_row wc _ _ _ _ oM.res;have m0:wc.cell? ⟨w1.heap.size,0,none⟩= some (af ag x.1.type):=oM.cell 0;have m1:wc.cell? ⟨w1.heap.size,1,none⟩= some (af ag x.1.id):=oM.cell 1;have m2:wc.cell? ⟨w1.heap.size,2,none⟩= some (af ag x.1.iC):=oM.cell 2;have m3:wc.cell? ⟨w1.heap.size,3,none⟩= some (pv):=oM.cell 3;have m4:wc.cell? ⟨w1.heap.size,4,none⟩= some (af ag x.1.en):=oM.cell 4;have m5:wc.cell? ⟨w1.heap.size,5,none⟩= some (af ag x.1.proof):=oM.cell 5;have ku:w.heap.size+1<wc.heap.size:=Nat.lt_trans oM.ne (aO.1 oM.NA).1;have rQ:w.heap.size≠wc.heap.size:=by omega
  have uC:w.heap.size+1≠wc.heap.size:=by omega
  have T9:=oM.ne;have sg:=gE oM;have E2:=gE tA;have A7:=gE Ip;have y1:=Ip.c1;have y0:=Ip.c0;clear oM tA Ip;clear nm Oi Rq K7 yc HG
  cases hb:x.2.bad with
  |true=>
   obtain⟨a2,rfl⟩:=A7.out.xr hb;have HB:=gE hb;clear hb;have ka0:=fun(o:Obj)=>gF k0 (gH wc o)
   have ja0:∀o:Obj,(wc.alloc o).frozen? ⟨w.heap.size,0,none⟩= false:=fun o=>by rw[aC _ _ ⟨w.heap.size,0,none⟩ rQ];exact j0
   have ka1:=fun(o:Obj)=>gF k1 (gH wc o)
   have ja1:∀o:Obj,(wc.alloc o).frozen? ⟨w.heap.size,1,none⟩= false:=fun o=>by rw[aC _ _ ⟨w.heap.size,1,none⟩ rQ];exact j1
   have ka2:=fun(o:Obj)=>gF k2 (gH wc o)
   have ja2:∀o:Obj,(wc.alloc o).frozen? ⟨w.heap.size,2,none⟩= false:=fun o=>by rw[aC _ _ ⟨w.heap.size,2,none⟩ rQ];exact j2
   have ka3:=fun(o:Obj)=>gF k3 (gH wc o)
   have ja3:∀o:Obj,(wc.alloc o).frozen? ⟨w.heap.size,3,none⟩= false:=fun o=>by rw[aC _ _ ⟨w.heap.size,3,none⟩ rQ];exact j3
   have ka4:=fun(o:Obj)=>gF k4 (gH wc o)
   have ja4:∀o:Obj,(wc.alloc o).frozen? ⟨w.heap.size,4,none⟩= false:=fun o=>by rw[aC _ _ ⟨w.heap.size,4,none⟩ rQ];exact j4
   have ka5:=fun(o:Obj)=>gF k5 (gH wc o)
   have ja5:∀o:Obj,(wc.alloc o).frozen? ⟨w.heap.size,5,none⟩= false:=fun o=>by rw[aC _ _ ⟨w.heap.size,5,none⟩ rQ];exact j5
   have Q6:Below wc.heap.size wc (wc.alloc (.cells #[.string ⟨#[102,114,97,109,101]⟩,.iface 155 (ai (some ⟨a2,0,none⟩))] 157)):=gH wc _
   have KJ:(wc.alloc (.cells #[.string ⟨#[102,114,97,109,101]⟩,.iface 155 (ai (some ⟨a2,0,none⟩))] 157)).heap[w.heap.size]? =some (.cells #[af ag 0,af ag 0,af ag 0,aj none 0 0,af ag 0,af ag 0] 286 (0,0)):=by
    rw[Q6.block _ (by omega)];exact sg.out.res
   have B4:Hid ((((((((wc.alloc (.cells #[.string ⟨#[102,114,97,109,101]⟩,.iface 155 (ai (some ⟨a2,0,none⟩))] 157)).setCell ⟨w.heap.size,0,none⟩ (af ag 0)).setCell ⟨w.heap.size,1,none⟩ (af ag 0)).setCell ⟨w.heap.size,2,none⟩ (af ag 0)).setCell ⟨w.heap.size,3,none⟩ (aj none 0 0)).setCell ⟨w.heap.size,4,none⟩ (af ag 0)).setCell ⟨w.heap.size,5,none⟩ (af ag 0)).heap[w.heap.size]? =some (.cells lg 286 (0,0))):=(gQ (gQ (gQ (gQ (gQ (gQ KJ 0 (af ag 0)) 1 (af ag 0)) 2 (af ag 0)) 3 (aj none 0 0)) 4 (af ag 0)) 5 (af ag 0));have Is:Hid (ip (· = w.heap.size) (wc.alloc (.cells #[.string ⟨#[102,114,97,109,101]⟩,.iface 155 (ai (some ⟨a2,0,none⟩))] 157)) (((((((wc.alloc (.cells #[.string ⟨#[102,114,97,109,101]⟩,.iface 155 (ai (some ⟨a2,0,none⟩))] 157)).setCell ⟨w.heap.size,0,none⟩ (af ag 0)).setCell ⟨w.heap.size,1,none⟩ (af ag 0)).setCell ⟨w.heap.size,2,none⟩ (af ag 0)).setCell ⟨w.heap.size,3,none⟩ (aj none 0 0)).setCell ⟨w.heap.size,4,none⟩ (af ag 0)).setCell ⟨w.heap.size,5,none⟩ (af ag 0))):=((((((iu (cb:=w.heap.size) (Below.refl _ _) 0 (af ag 0)).trans (iu (cb:=w.heap.size) (Below.refl _ _) 1 (af ag 0))).trans (iu (cb:=w.heap.size) (Below.refl _ _) 2 (af ag 0))).trans (iu (cb:=w.heap.size) (Below.refl _ _) 3 (aj none 0 0))).trans (iu (cb:=w.heap.size) (Below.refl _ _) 4 (af ag 0))).trans (iu (cb:=w.heap.size) (Below.refl _ _) 5 (af ag 0)));have TJ:Hid (Below wc.heap.size wc (wc.alloc (.cells #[.string ⟨#[102,114,97,109,101]⟩,.iface 155 (ai (some ⟨a2,0,none⟩))] 157))):=gH wc _;clear Q6 KJ;have QH:Hid ((wc.alloc (.cells #[.string ⟨#[102,114,97,109,101]⟩,.iface 155 (ai (some ⟨a2,0,none⟩))] 157)).heap[wc.heap.size]? =some (.cells #[.string ⟨#[102,114,97,109,101]⟩,.iface 155 (ai (some ⟨a2,0,none⟩))] 157 (0,0))):=heap_alloc_new wc _;have Rm:wc.heap[w.heap.size]? =some (.cells #[af ag 0,af ag 0,af ag 0,aj none 0 0,af ag 0,af ag 0] 286 (0,0)):=sg.out.res;have HRy:Hid (((((((wc.setCell ⟨w.heap.size,0,none⟩ (af ag 0)).setCell ⟨w.heap.size,1,none⟩ (af ag 0)).setCell ⟨w.heap.size,2,none⟩ (af ag 0)).setCell ⟨w.heap.size,3,none⟩ (aj none 0 0)).setCell ⟨w.heap.size,4,none⟩ (af ag 0)).setCell ⟨w.heap.size,5,none⟩ (af ag 0)).heap[w.heap.size]? =some (.cells lg 286 (0,0))):=(gQ (gQ (gQ (gQ (gQ (gQ Rm 0 (af ag 0)) 1 (af ag 0)) 2 (af ag 0)) 3 (aj none 0 0)) 4 (af ag 0)) 5 (af ag 0));have HCy:Hid (ip (· = w.heap.size) wc ((((((wc.setCell ⟨w.heap.size,0,none⟩ (af ag 0)).setCell ⟨w.heap.size,1,none⟩ (af ag 0)).setCell ⟨w.heap.size,2,none⟩ (af ag 0)).setCell ⟨w.heap.size,3,none⟩ (aj none 0 0)).setCell ⟨w.heap.size,4,none⟩ (af ag 0)).setCell ⟨w.heap.size,5,none⟩ (af ag 0))):=((((((iu (cb:=w.heap.size) (Below.refl _ _) 0 (af ag 0)).trans (iu (cb:=w.heap.size) (Below.refl _ _) 1 (af ag 0))).trans (iu (cb:=w.heap.size) (Below.refl _ _) 2 (af ag 0))).trans (iu (cb:=w.heap.size) (Below.refl _ _) 3 (aj none 0 0))).trans (iu (cb:=w.heap.size) (Below.refl _ _) 4 (af ag 0))).trans (iu (cb:=w.heap.size) (Below.refl _ _) 5 (af ag 0)))
   have HYs:Hid (((((((wc.setCell ⟨w.heap.size,0,none⟩ (af ag 0)).setCell ⟨w.heap.size,1,none⟩ (af ag 0)).setCell ⟨w.heap.size,2,none⟩ (af ag 0)).setCell ⟨w.heap.size,3,none⟩ (aj none 0 0)).setCell ⟨w.heap.size,4,none⟩ (af ag 0)).setCell ⟨w.heap.size,5,none⟩ (af ag 0)).heap.size=wc.heap.size):=by
    show _=_;simp only[World.size_setCell]
   have HYw:Hid ((((((((wc.setCell ⟨w.heap.size,0,none⟩ (af ag 0)).setCell ⟨w.heap.size,1,none⟩ (af ag 0)).setCell ⟨w.heap.size,2,none⟩ (af ag 0)).setCell ⟨w.heap.size,3,none⟩ (aj none 0 0)).setCell ⟨w.heap.size,4,none⟩ (af ag 0)).setCell ⟨w.heap.size,5,none⟩ (af ag 0)).alloc (.cells #[.string ⟨#[102,114,97,109,101]⟩,.iface 155 (ai (some ⟨a2,0,none⟩))] 157)).heap[wc.heap.size]? =some (.cells #[.string ⟨#[102,114,97,109,101]⟩,.iface 155 (ai (some ⟨a2,0,none⟩))] 157 (0,0))):=by
    show _=_;have:=heap_alloc_new ((((((wc.setCell ⟨w.heap.size,0,none⟩ (af ag 0)).setCell ⟨w.heap.size,1,none⟩ (af ag 0)).setCell ⟨w.heap.size,2,none⟩ (af ag 0)).setCell ⟨w.heap.size,3,none⟩ (aj none 0 0)).setCell ⟨w.heap.size,4,none⟩ (af ag 0)).setCell ⟨w.heap.size,5,none⟩ (af ag 0)) (.cells #[.string ⟨#[102,114,97,109,101]⟩,.iface 155 (ai (some ⟨a2,0,none⟩))] 157);rw[HYs.out]at this;exact this
   have HYr:Hid ((((((((wc.setCell ⟨w.heap.size,0,none⟩ (af ag 0)).setCell ⟨w.heap.size,1,none⟩ (af ag 0)).setCell ⟨w.heap.size,2,none⟩ (af ag 0)).setCell ⟨w.heap.size,3,none⟩ (aj none 0 0)).setCell ⟨w.heap.size,4,none⟩ (af ag 0)).setCell ⟨w.heap.size,5,none⟩ (af ag 0)).alloc (.cells #[.string ⟨#[102,114,97,109,101]⟩,.iface 155 (ai (some ⟨a2,0,none⟩))] 157)).heap[w.heap.size]? =some (.cells lg 286 (0,0))):=by
    show _=_;rw[Below.heap_alloc _ _ _ (by rw[HYs.out];omega)];exact HRy.out
   clear Rm;clear m0 m1 m2 m3 m4 m5 y0;go_wp2_with fail
   go_region
   all_goals go_wp2_with fail
   ·refine bodyPost_ret (v:=(.tuple #[.agg lg,af ag 0,.iface 155 (ai (some ⟨wc.heap.size,0,none⟩))])) ?g1 rfl ?g3
    case g1=>
     refine pL (P:=ae) Tryz.results181 _ _ w.heap.size 286 _ (0,0) _ _ _ (by kernel_rfl) (by kernel_rfl) (by kernel_rfl) ?gd underlying286 rfl (by kernel_rfl);rw[heap_drew];exact B4.out
    obtain⟨k,hk,hn⟩:=A7.out.no HB.out;refine wh.drew ⟨lH (gI sg.out.ze TJ.out) Is.out (ay _),fun _=>⟨k+1,_,rfl,by omega,?_⟩,fun h=>by rw[HB.out]at h;cases h⟩
    have hF:∀q cur fr,(wc.alloc (.cells #[.string ⟨#[102,114,97,109,101]⟩,.iface 155 (ai (some ⟨a2,0,none⟩))] 157)).heap[q]? =some (.cells cur 157 fr)->¬q=w.heap.size:=by
     intro q cur fr hq e;subst e;rw[TJ.out.block _ (by omega),sg.out.res]at hq;simp only[Option.some.injEq,Obj.cells.injEq]at hq;exact absurd hq.2.1 (by decide)
    exact sB.iO Is.out hF (k:=k+1) ⟨wc.heap.size,_,_,rfl,QH.out,hn.below TJ.out⟩
   ·refine bodyPost_ret (v:=(.tuple #[.agg lg,af ag 0,.iface 155 (ai (some ⟨wc.heap.size,0,none⟩))])) ?q1 rfl ?q3
    case q1=>
     refine pL (P:=ae) Tryz.results181 _ _ w.heap.size 286 _ (0,0) _ _ _ (by kernel_rfl) (by kernel_rfl) (by kernel_rfl) ?qd underlying286 rfl (by kernel_rfl);rw[heap_drew];exact HYr.out
    obtain⟨k,hk,hn⟩:=A7.out.no HB.out;refine wh.drew ⟨gI (lH sg.out.ze HCy.out (ay _)) (gH _ _),fun _=>⟨k+1,_,rfl,by omega,?_⟩,fun h=>by rw[HB.out]at h;cases h⟩;refine⟨wc.heap.size,_,_,rfl,HYw.out,(hn.iO HCy.out fun q cur fr hq e=>?_).below (gH _ _)⟩;subst e;rw[sg.out.res]at hq;simp only[Option.some.injEq,Obj.cells.injEq]at hq;exact absurd hq.2.1 (by decide)
  |false=>
   have U9:=A7.out.ok hb;subst U9;have HB:=gE hb;clear hb;obtain⟨_,pZ,ra,rc,rfl,_⟩:=id A7.out.rd
   have sk:IntKind.i64.wrap ((bl:Int)-(x.2.rest.length:Int))=(bl:Int)-(x.2.rest.length:Int):=by
    have:=VQ.out;rw[di];omega
   obtain⟨_,_,pa,pc,rfl,_⟩:=id E2.out;have B4:Hid (((((((wc.setCell ⟨w.heap.size,0,none⟩ (af ag x.1.type)).setCell ⟨w.heap.size,1,none⟩ (af ag x.1.id)).setCell ⟨w.heap.size,2,none⟩ (af ag x.1.iC)).setCell ⟨w.heap.size,3,none⟩ (.slice pa x.1.bytes.length pc)).setCell ⟨w.heap.size,4,none⟩ (af ag x.1.en)).setCell ⟨w.heap.size,5,none⟩ (af ag x.1.proof)).heap[w.heap.size]? =some (.cells (As x.1 (.slice pa x.1.bytes.length pc)) 286 (0,0))):=(gQ (gQ (gQ (gQ (gQ (gQ sg.out.res 0 (af ag x.1.type)) 1 (af ag x.1.id)) 2 (af ag x.1.iC)) 3 (.slice pa x.1.bytes.length pc)) 4 (af ag x.1.en)) 5 (af ag x.1.proof));have Is:Hid (ip (· = w.heap.size) wc ((((((wc.setCell ⟨w.heap.size,0,none⟩ (af ag x.1.type)).setCell ⟨w.heap.size,1,none⟩ (af ag x.1.id)).setCell ⟨w.heap.size,2,none⟩ (af ag x.1.iC)).setCell ⟨w.heap.size,3,none⟩ (.slice pa x.1.bytes.length pc)).setCell ⟨w.heap.size,4,none⟩ (af ag x.1.en)).setCell ⟨w.heap.size,5,none⟩ (af ag x.1.proof))):=((((((iu (cb:=w.heap.size) (Below.refl _ _) 0 (af ag x.1.type)).trans (iu (cb:=w.heap.size) (Below.refl _ _) 1 (af ag x.1.id))).trans (iu (cb:=w.heap.size) (Below.refl _ _) 2 (af ag x.1.iC))).trans (iu (cb:=w.heap.size) (Below.refl _ _) 3 (.slice pa x.1.bytes.length pc))).trans (iu (cb:=w.heap.size) (Below.refl _ _) 4 (af ag x.1.en))).trans (iu (cb:=w.heap.size) (Below.refl _ _) 5 (af ag x.1.proof)));go_wp2_with fail
   go_region
   go_wp2_with fail;refine bodyPost_ret (v:=(.tuple #[.agg (As x.1 (.slice pa x.1.bytes.length pc)),af ag ((bl:Int)-(x.2.rest.length:Int)),.nilIface])) ?h1 rfl ?h3
   case h1=>
    refine pL (P:=ae) Tryz.results181 _ _ w.heap.size 286 _ (0,0) _ _ _ (by kernel_rfl) (by kernel_rfl) (by kernel_rfl) ?d underlying286 rfl (by kernel_rfl);rw[heap_drew];exact B4.out
   refine wh.drew ⟨lH sg.out.ze Is.out (ay _),fun h=>(by rw[HB.out]at h;cases h),fun _=>⟨_,by rw[VQ.out],?_⟩⟩;refine E2.out.iO Is.out fun q cur fr hq e=>?_
   subst e;rw[sg.out.res]at hq;simp only[Option.some.injEq,Obj.cells.injEq]at hq;exact absurd hq.2.1 (by decide)
def xq(d:EX)(size:Int)(tv fv:Value):Array Value:=#[af ag d.kind,af ag size,af ag d.gL,tv,af ag d.num,fv]
def mO:Array Value:=#[af ag 0,af ag 0,af ag 0,aj none 0 0,af ag 0,aj none 0 0]
structure EW(w:World)(b:List Int)(x:EX×Rd)(e:Ending)(w':World):Prop where
 ze:Below w.heap.size w w'
 bad:x.2.bad=true->∃k c,e=.returned (.tuple #[.agg mO,c])/\(k=2\/k=3)/\sB w' k c
 ok:x.2.bad=false->∃tv fv,e=.returned (.tuple #[.agg (xq x.1 b.length tv fv),.nilIface])/\me w' tv x.1.tok/\me w' fv x.1.mz
theorem EW.drew{x:EX×Rd}(h:EW w b x e W):EW w b x e W.drew where
 ze:=gK h.ze 1
 bad:=fun hb=>by obtain⟨k,c,e1,hk,hn⟩:=h.bad hb;exact⟨k,c,e1,hk,hn.below (gK (Below.refl _ W) 1)⟩
 ok:=fun hb=>by obtain⟨tv,fv,e1,h1,h2⟩:=h.ok hb;exact⟨tv,fv,e1,h1.below (gK (Below.refl _ W) 1),h2.below (gK (Below.refl _ W) 1)⟩
def Aq(t:Int)(r0:Rd):EX×Rd:=
 if t=1 then(⟨t,r0.num.1,(r0.num.2.num.2.rB r0.num.2.num.1).1,0,(r0.num.2.num.2.rB r0.num.2.num.1).2.rest⟩,(r0.num.2.num.2.rB r0.num.2.num.1).2)
 else if t=2 then(⟨t,r0.num.1,[],r0.num.2.num.1,r0.num.2.num.2.rest⟩,r0.num.2.num.2)
 else(⟨t,0,[],0,r0.rest⟩,r0.fail)
theorem I0(b:List Int):tL b=Aq (Rd.kind ⟨b,false⟩).1 (Rd.kind ⟨b,false⟩).2:=rfl
theorem I1(t:Int)(r0:Rd):(Aq t r0).2.rest=(Aq t r0).1.mz:=by
 unfold Aq
 split
 ·rfl
 ·split<;>rfl
theorem Mc(hb:iF b):(0<=(Rd.kind ⟨b,false⟩).1/\(Rd.kind ⟨b,false⟩).1<256)/\iF (Rd.kind ⟨b,false⟩).2.rest:=by
 by_cases hp:0<b.length
 ·rw[uF hp];exact⟨j9 hb 0,hb.drop 1⟩
 ·have h0:b=[]:=dI.1 (by omega);subst h0;have hk:Rd.kind ⟨[],false⟩=(0,⟨[],true⟩):=by simp[Rd.kind,Rd.rB]
  rw[hk];exact⟨by simp,hb⟩
theorem z_(b:List Int)(bv:Value)(w:World)(he:Env w)(h:me w bv b):
  Calls ae 45 #[bv] w fun e w'=>EW w b (tL b) e w':=by
 obtain⟨_,_,ao,cap,rfl,_⟩:=id h;obtain⟨bl,qQ⟩:∃bl,b.length=bl:=⟨_,rfl⟩;have VQ:=gE qQ;have QP:∀W:World,Below w.heap.size w W->Env W:=fun W hW=>he.below hW
 have iT:Below w.heap.size w ((w.alloc (.cells mO 107)).alloc (.cells #[.slice ao b.length cap,.nilIface] 151)):=(gH w _).alloc (by simp) _;have HK:=gE (FW (w.heap.size+1) (.slice ao b.length cap) .nilIface ⟨b,false⟩ ⟨#[107,105,110,100]⟩ _ (QP _ iT) ⟨heap_alloc2_new w _ _,h.below iT,fun _=>rfl,fun h=>(by cases h)⟩);obtain⟨BJ,kf⟩:=Mc h.1
 have nm:Hid (∀(W:World) (fb:Nat) (r:Rd) (fc:Array Value) (s:ByteArray),qW 107 mO w fb r fc W->Calls ae 84 #[ai (some ⟨w.heap.size+1,0,none⟩),.string s] W fun e w'=>e=.returned (af ag r.num.1)/\qW 107 mO w fb r.num.2 fc w'):=by
  intro W fb r fc s hW;obtain⟨rv,ev,h1⟩:=hW.rd;refine(Bs _ rv ev r s W (QP W hW.ze) h1).mono ?_;rintro e w' ⟨rfl,ho⟩;exact⟨rfl,hW.step ho⟩
 have Oi:Hid (∀(W:World) (fb:Nat) (r:Rd) (fc:Array Value) (s:ByteArray) (c:Int),qW 107 mO w fb r fc W->0<=c/\c<=1073741823->Calls ae 85 #[ai (some ⟨w.heap.size+1,0,none⟩),.string s,af ag c] W fun e w'=>(∃bv,e=.returned bv/\me w' bv (r.rB c).1)/\qW 107 mO w fb (r.rB c).2 fc w'):=by
  intro W fb r fc s c hW hc;obtain⟨rv,ev,h1⟩:=hW.rd;refine(yO _ rv ev r s c W (QP W hW.ze) h1 hc.1 hc.2).mono ?_;rintro e w' ⟨h2,ho⟩;exact⟨h2,hW.step ho⟩
 have Rq:Hid (∀(W:World) (fb:Nat) (r:Rd) (fc:Array Value) (s:ByteArray) (c:Int),qW 107 mO w fb r fc W->0<=c/\c<=1073741823->Calls ae 86 #[ai (some ⟨w.heap.size+1,0,none⟩),.string s,af ag c] W fun e w'=>e=.returned (.tuple #[])/\qW 107 mO w fb r.fail fc w'):=by
  intro W fb r fc s c hW hc;obtain⟨rv,ev,h1⟩:=hW.rd;refine(Ab _ rv ev r s c W (QP W hW.ze) h1 hc.1 (by omega)).mono ?_;rintro e w' ⟨rfl,ho⟩;exact⟨rfl,hW.step ho⟩
 have yc:=gE (I0 b)
 have aar:Hid ((tL b).2.rest=(tL b).1.mz):=by
  show _=_;rw[I0];exact I1 _ _
 have E3:Hid (((w.alloc (.cells mO 107)).alloc (.cells #[.slice ao b.length cap,.nilIface] 151)).heap[w.heap.size]? =some (.cells mO 107 (0,0))):=heap_alloc2_old w _ _;have mc:=gE iT;rw[qQ]at HK E3 mc⊢;obtain⟨x,hx⟩:∃x,tL b=x:=⟨_,rfl⟩;rw[hx]at yc aar⊢;clear h he iT qQ hx QP;generalize (Rd.kind ⟨b,false⟩).1=t at HK yc BJ;generalize (Rd.kind ⟨b,false⟩).2=r0 at HK yc kf;have im:=Dg kf;have g1:=uI kf;have g2:=uI im;have HG:=gE (And.intro g1 g2);clear g1 g2 kf im;unfold mO at HK E3 mc;go_enter func45,ntmps45;go_wp2_with fail;refine HK.out.mono ?_;rintro e w1 ⟨rfl,rv1,ev1,h1,km⟩
 have K7:Hid (qW 107 mO w w1.heap.size r0 #[af ag t,af ag bl,af ag 0,aj none 0 0,af ag 0,aj none 0 0] (w1.alloc (.cells #[af ag t,af ag bl,af ag 0,aj none 0 0,af ag 0,aj none 0 0] 107))):=by
  have ku:w.heap.size+1<w1.heap.size:=by have:=km.size;simp at this;omega
  refine⟨gI (lH mc.out km (by omega)) (gH _ _),?_,⟨rv1,ev1,h1.below (gH _ _)⟩,heap_alloc_new w1 _,ku⟩;rw[Below.heap_alloc _ _ _ (by omega),km.block _ (by simp;omega) (show w.heap.size≠w.heap.size+1 from by omega)];exact E3.out
 clear h1 km HK E3 mc
 go_upto_block 0 with fail
 go_cut [5] from 12 to 29 (fun s5 wx=>s5=ai (some ⟨w1.heap.size,0,none⟩)/\∃tv,qW 107 mO w w1.heap.size x.2 (xq x.1 bl tv (aj none 0 0)) wx/\me wx tv x.1.tok)
 case first=>
  by_cases t1:t=1
  ·subst t1;go_wp2_with fail;refine(nm.out _ _ _ _ _ K7.out).mono ?_;rintro e w2 ⟨rfl,h2⟩;have x2:w2.cell? ⟨w1.heap.size,2,none⟩= some (af ag 0):=h2.cell 2;have z2:=h2.free 2;have H2:=gE (h2.xJ (by decide) (by decide) 2 (af ag r0.num.1));clear h2;go_wp2_with fail;refine(nm.out _ _ _ _ _ H2.out).mono ?_;rintro e w3 ⟨rfl,h3⟩;have H3:=gE h3;clear h3;go_wp2_with fail;refine(Oi.out _ _ _ _ _ _ H3.out HG.out.2).mono ?_;rintro e w4 ⟨⟨pv,rfl,tA⟩,h4⟩;have x4:w4.cell? ⟨w1.heap.size,3,none⟩= some (aj none 0 0):=h4.cell 3;have z4:=h4.free 3;obtain⟨_,xt,pa,pc,rfl,_⟩:=id tA;have H4:=gE (h4.xJ (by decide) (by decide) 3 (.slice pa (r0.num.2.num.2.rB r0.num.2.num.1).1.length pc));have E2:=gE (tA.iO (iu (cb:=w1.heap.size) (Below.refl _ w4) 3 (.slice pa (r0.num.2.num.2.rB r0.num.2.num.1).1.length pc)) fun k cur fr hk e=>by subst e;rw[h4.NA]at hk;simp only[Option.some.injEq,Obj.cells.injEq]at hk;exact absurd hk.2.1 (by decide));clear tA h4;go_wp2_with fail
   go_meet
   refine⟨rfl,.slice pa (r0.num.2.num.2.rB r0.num.2.num.1).1.length pc,?_,?_⟩
   ·rw[yc.out];exact H4.out
   ·rw[yc.out];exact E2.out
  by_cases t2:t=2
  ·subst t2;go_wp2_with fail;refine(nm.out _ _ _ _ _ K7.out).mono ?_;rintro e w2 ⟨rfl,h2⟩;have x2:w2.cell? ⟨w1.heap.size,2,none⟩= some (af ag 0):=h2.cell 2;have z2:=h2.free 2;have H2:=gE (h2.xJ (by decide) (by decide) 2 (af ag r0.num.1));clear h2;go_wp2_with fail;refine(nm.out _ _ _ _ _ H2.out).mono ?_;rintro e w3 ⟨rfl,h3⟩;have x3:w3.cell? ⟨w1.heap.size,4,none⟩= some (af ag 0):=h3.cell 4;have z3:=h3.free 4;have H3:=gE (h3.xJ (by decide) (by decide) 4 (af ag r0.num.2.num.1));clear h3;go_wp2_with fail
   go_meet
   refine⟨rfl,aj none 0 0,?_,?_⟩
   ·rw[yc.out];exact H3.out
   ·rw[yc.out];exact me.nil _
  have HT8:Hid (Aq t r0=(⟨t,0,[],0,r0.rest⟩,r0.fail)):=by
   show _=_;unfold Aq;rw[if_neg t1,if_neg t2]
  have b1:(t==1)=false:=beq_eq_false_iff_ne.2 t1;have b2:(t==2)=false:=beq_eq_false_iff_ne.2 t2;clear t1 t2;go_wp2_with fail;refine(Rq.out _ _ _ _ _ _ K7.out (by omega)).mono ?_;rintro e w2 ⟨rfl,h2⟩;have H2:=gE h2;clear h2;go_wp2_with fail
  go_meet
  refine⟨rfl,aj none 0 0,?_,?_⟩
  ·rw[yc.out,HT8.out];exact H2.out
  ·rw[yc.out,HT8.out];exact me.nil _
 case rest=>
  obtain⟨rfl,tv,oM,tA⟩:=hcut;obtain⟨N7,ev2,Ip⟩:=oM.rd;have k0:wc.cell? ⟨w.heap.size,0,none⟩= some (af ag 0):=(by simp only[aX,oM.res];rfl);have j0:wc.frozen? ⟨w.heap.size,0,none⟩= false:=frozen_of_row wc _ _ _ _ oM.res;have k1:wc.cell? ⟨w.heap.size,1,none⟩= some (af ag 0):=(by simp only[aX,oM.res];rfl);have j1:wc.frozen? ⟨w.heap.size,1,none⟩= false:=frozen_of_row wc _ _ _ _ oM.res;have k2:wc.cell? ⟨w.heap.size,2,none⟩= some (af ag 0):=(by simp only[aX,oM.res];rfl);have j2:wc.frozen? ⟨w.heap.size,2,none⟩= false:=frozen_of_row wc _ _ _ _ oM.res;have k3:wc.cell? ⟨w.heap.size,3,none⟩= some (aj none 0 0):=(by simp only[aX,oM.res];rfl);have j3:wc.frozen? ⟨w.heap.size,3,none⟩= false:=frozen_of_row wc _ _ _ _ oM.res;have k4:wc.cell? ⟨w.heap.size,4,none⟩= some (af ag 0):=(by simp only[aX,oM.res];rfl);have j4:wc.frozen? ⟨w.heap.size,4,none⟩= false:=frozen_of_row wc _ _ _ _ oM.res;have k5:wc.cell? ⟨w.heap.size,5,none⟩= some (aj none 0 0):=(by simp only[aX,oM.res];rfl);have j5:wc.frozen? ⟨w.heap.size,5,none⟩= false:=frozen_of_row wc _ _ _ _ oM.res;have ku:w.heap.size+1<wc.heap.size:=Nat.lt_trans oM.ne (aO.1 oM.NA).1;have rQ:w.heap.size≠wc.heap.size:=by omega
  have uC:w.heap.size+1≠wc.heap.size:=by omega
  have T9:=oM.ne;have sg:=gE oM;have E2:=gE tA;have A7:=gE Ip;have y1:=Ip.c1;have y0:=Ip.c0;clear oM tA Ip;clear nm Oi Rq K7 yc HG
  cases hb:x.2.bad with
  |true=>
   obtain⟨a2,rfl⟩:=A7.out.xr hb;have HB:=gE hb;clear hb;have ka0:=fun(o:Obj)=>gF k0 (gH wc o)
   have ja0:∀o:Obj,(wc.alloc o).frozen? ⟨w.heap.size,0,none⟩= false:=fun o=>by rw[aC _ _ ⟨w.heap.size,0,none⟩ rQ];exact j0
   have ka1:=fun(o:Obj)=>gF k1 (gH wc o)
   have ja1:∀o:Obj,(wc.alloc o).frozen? ⟨w.heap.size,1,none⟩= false:=fun o=>by rw[aC _ _ ⟨w.heap.size,1,none⟩ rQ];exact j1
   have ka2:=fun(o:Obj)=>gF k2 (gH wc o)
   have ja2:∀o:Obj,(wc.alloc o).frozen? ⟨w.heap.size,2,none⟩= false:=fun o=>by rw[aC _ _ ⟨w.heap.size,2,none⟩ rQ];exact j2
   have ka3:=fun(o:Obj)=>gF k3 (gH wc o)
   have ja3:∀o:Obj,(wc.alloc o).frozen? ⟨w.heap.size,3,none⟩= false:=fun o=>by rw[aC _ _ ⟨w.heap.size,3,none⟩ rQ];exact j3
   have ka4:=fun(o:Obj)=>gF k4 (gH wc o)
   have ja4:∀o:Obj,(wc.alloc o).frozen? ⟨w.heap.size,4,none⟩= false:=fun o=>by rw[aC _ _ ⟨w.heap.size,4,none⟩ rQ];exact j4
   have ka5:=fun(o:Obj)=>gF k5 (gH wc o)
   have ja5:∀o:Obj,(wc.alloc o).frozen? ⟨w.heap.size,5,none⟩= false:=fun o=>by rw[aC _ _ ⟨w.heap.size,5,none⟩ rQ];exact j5
   have Q6:Below wc.heap.size wc (wc.alloc (.cells #[.string ⟨#[100,97,116,97,103,114,97,109]⟩,.iface 155 (ai (some ⟨a2,0,none⟩))] 157)):=gH wc _
   have KJ:(wc.alloc (.cells #[.string ⟨#[100,97,116,97,103,114,97,109]⟩,.iface 155 (ai (some ⟨a2,0,none⟩))] 157)).heap[w.heap.size]? =some (.cells #[af ag 0,af ag 0,af ag 0,aj none 0 0,af ag 0,aj none 0 0] 107 (0,0)):=by
    rw[Q6.block _ (by omega)];exact sg.out.res
   have B4:Hid ((((((((wc.alloc (.cells #[.string ⟨#[100,97,116,97,103,114,97,109]⟩,.iface 155 (ai (some ⟨a2,0,none⟩))] 157)).setCell ⟨w.heap.size,0,none⟩ (af ag 0)).setCell ⟨w.heap.size,1,none⟩ (af ag 0)).setCell ⟨w.heap.size,2,none⟩ (af ag 0)).setCell ⟨w.heap.size,3,none⟩ (aj none 0 0)).setCell ⟨w.heap.size,4,none⟩ (af ag 0)).setCell ⟨w.heap.size,5,none⟩ (aj none 0 0)).heap[w.heap.size]? =some (.cells mO 107 (0,0))):=(gQ (gQ (gQ (gQ (gQ (gQ KJ 0 (af ag 0)) 1 (af ag 0)) 2 (af ag 0)) 3 (aj none 0 0)) 4 (af ag 0)) 5 (aj none 0 0));have Is:Hid (ip (· = w.heap.size) (wc.alloc (.cells #[.string ⟨#[100,97,116,97,103,114,97,109]⟩,.iface 155 (ai (some ⟨a2,0,none⟩))] 157)) (((((((wc.alloc (.cells #[.string ⟨#[100,97,116,97,103,114,97,109]⟩,.iface 155 (ai (some ⟨a2,0,none⟩))] 157)).setCell ⟨w.heap.size,0,none⟩ (af ag 0)).setCell ⟨w.heap.size,1,none⟩ (af ag 0)).setCell ⟨w.heap.size,2,none⟩ (af ag 0)).setCell ⟨w.heap.size,3,none⟩ (aj none 0 0)).setCell ⟨w.heap.size,4,none⟩ (af ag 0)).setCell ⟨w.heap.size,5,none⟩ (aj none 0 0))):=((((((iu (cb:=w.heap.size) (Below.refl _ _) 0 (af ag 0)).trans (iu (cb:=w.heap.size) (Below.refl _ _) 1 (af ag 0))).trans (iu (cb:=w.heap.size) (Below.refl _ _) 2 (af ag 0))).trans (iu (cb:=w.heap.size) (Below.refl _ _) 3 (aj none 0 0))).trans (iu (cb:=w.heap.size) (Below.refl _ _) 4 (af ag 0))).trans (iu (cb:=w.heap.size) (Below.refl _ _) 5 (aj none 0 0)));have TJ:Hid (Below wc.heap.size wc (wc.alloc (.cells #[.string ⟨#[100,97,116,97,103,114,97,109]⟩,.iface 155 (ai (some ⟨a2,0,none⟩))] 157))):=gH wc _;clear Q6 KJ;have QH:Hid ((wc.alloc (.cells #[.string ⟨#[100,97,116,97,103,114,97,109]⟩,.iface 155 (ai (some ⟨a2,0,none⟩))] 157)).heap[wc.heap.size]? =some (.cells #[.string ⟨#[100,97,116,97,103,114,97,109]⟩,.iface 155 (ai (some ⟨a2,0,none⟩))] 157 (0,0))):=heap_alloc_new wc _;have Rm:wc.heap[w.heap.size]? =some (.cells #[af ag 0,af ag 0,af ag 0,aj none 0 0,af ag 0,aj none 0 0] 107 (0,0)):=sg.out.res;have HRy:Hid (((((((wc.setCell ⟨w.heap.size,0,none⟩ (af ag 0)).setCell ⟨w.heap.size,1,none⟩ (af ag 0)).setCell ⟨w.heap.size,2,none⟩ (af ag 0)).setCell ⟨w.heap.size,3,none⟩ (aj none 0 0)).setCell ⟨w.heap.size,4,none⟩ (af ag 0)).setCell ⟨w.heap.size,5,none⟩ (aj none 0 0)).heap[w.heap.size]? =some (.cells mO 107 (0,0))):=(gQ (gQ (gQ (gQ (gQ (gQ Rm 0 (af ag 0)) 1 (af ag 0)) 2 (af ag 0)) 3 (aj none 0 0)) 4 (af ag 0)) 5 (aj none 0 0));have HCy:Hid (ip (· = w.heap.size) wc ((((((wc.setCell ⟨w.heap.size,0,none⟩ (af ag 0)).setCell ⟨w.heap.size,1,none⟩ (af ag 0)).setCell ⟨w.heap.size,2,none⟩ (af ag 0)).setCell ⟨w.heap.size,3,none⟩ (aj none 0 0)).setCell ⟨w.heap.size,4,none⟩ (af ag 0)).setCell ⟨w.heap.size,5,none⟩ (aj none 0 0))):=((((((iu (cb:=w.heap.size) (Below.refl _ _) 0 (af ag 0)).trans (iu (cb:=w.heap.size) (Below.refl _ _) 1 (af ag 0))).trans (iu (cb:=w.heap.size) (Below.refl _ _) 2 (af ag 0))).trans (iu (cb:=w.heap.size) (Below.refl _ _) 3 (aj none 0 0))).trans (iu (cb:=w.heap.size) (Below.refl _ _) 4 (af ag 0))).trans (iu (cb:=w.heap.size) (Below.refl _ _) 5 (aj none 0 0)))
   have HYs:Hid (((((((wc.setCell ⟨w.heap.size,0,none⟩ (af ag 0)).setCell ⟨w.heap.size,1,none⟩ (af ag 0)).setCell ⟨w.heap.size,2,none⟩ (af ag 0)).setCell ⟨w.heap.size,3,none⟩ (aj none 0 0)).setCell ⟨w.heap.size,4,none⟩ (af ag 0)).setCell ⟨w.heap.size,5,none⟩ (aj none 0 0)).heap.size=wc.heap.size):=by
    show _=_;simp only[World.size_setCell]
   have HYw:Hid ((((((((wc.setCell ⟨w.heap.size,0,none⟩ (af ag 0)).setCell ⟨w.heap.size,1,none⟩ (af ag 0)).setCell ⟨w.heap.size,2,none⟩ (af ag 0)).setCell ⟨w.heap.size,3,none⟩ (aj none 0 0)).setCell ⟨w.heap.size,4,none⟩ (af ag 0)).setCell ⟨w.heap.size,5,none⟩ (aj none 0 0)).alloc (.cells #[.string ⟨#[100,97,116,97,103,114,97,109]⟩,.iface 155 (ai (some ⟨a2,0,none⟩))] 157)).heap[wc.heap.size]? =some (.cells #[.string ⟨#[100,97,116,97,103,114,97,109]⟩,.iface 155 (ai (some ⟨a2,0,none⟩))] 157 (0,0))):=by
    show _=_;have:=heap_alloc_new ((((((wc.setCell ⟨w.heap.size,0,none⟩ (af ag 0)).setCell ⟨w.heap.size,1,none⟩ (af ag 0)).setCell ⟨w.heap.size,2,none⟩ (af ag 0)).setCell ⟨w.heap.size,3,none⟩ (aj none 0 0)).setCell ⟨w.heap.size,4,none⟩ (af ag 0)).setCell ⟨w.heap.size,5,none⟩ (aj none 0 0)) (.cells #[.string ⟨#[100,97,116,97,103,114,97,109]⟩,.iface 155 (ai (some ⟨a2,0,none⟩))] 157);rw[HYs.out]at this;exact this
   have HYr:Hid ((((((((wc.setCell ⟨w.heap.size,0,none⟩ (af ag 0)).setCell ⟨w.heap.size,1,none⟩ (af ag 0)).setCell ⟨w.heap.size,2,none⟩ (af ag 0)).setCell ⟨w.heap.size,3,none⟩ (aj none 0 0)).setCell ⟨w.heap.size,4,none⟩ (af ag 0)).setCell ⟨w.heap.size,5,none⟩ (aj none 0 0)).alloc (.cells #[.string ⟨#[100,97,116,97,103,114,97,109]⟩,.iface 155 (ai (some ⟨a2,0,none⟩))] 157)).heap[w.heap.size]? =some (.cells mO 107 (0,0))):=by
    show _=_;rw[Below.heap_alloc _ _ _ (by rw[HYs.out];omega)];exact HRy.out
   clear Rm y0;go_wp2_with fail
   go_region
   all_goals go_wp2_with fail
   ·refine bodyPost_ret (v:=(.tuple #[.agg mO,.iface 155 (ai (some ⟨wc.heap.size,0,none⟩))])) ?g1 rfl ?g3
    case g1=>
     refine kM (P:=ae) Tryz.results45 _ _ w.heap.size 107 _ (0,0) _ _ (by kernel_rfl) (by kernel_rfl) ?gd underlying107 rfl (by kernel_rfl);rw[heap_drew];exact B4.out
    obtain⟨k,hk,hn⟩:=A7.out.no HB.out;refine EW.drew ⟨lH (gI sg.out.ze TJ.out) Is.out (ay _),fun _=>⟨k+1,_,rfl,by omega,?_⟩,fun h=>by rw[HB.out]at h;cases h⟩
    have hF:∀q cur fr,(wc.alloc (.cells #[.string ⟨#[100,97,116,97,103,114,97,109]⟩,.iface 155 (ai (some ⟨a2,0,none⟩))] 157)).heap[q]? =some (.cells cur 157 fr)->¬q=w.heap.size:=by
     intro q cur fr hq e;subst e;rw[TJ.out.block _ (by omega),sg.out.res]at hq;simp only[Option.some.injEq,Obj.cells.injEq]at hq;exact absurd hq.2.1 (by decide)
    exact sB.iO Is.out hF (k:=k+1) ⟨wc.heap.size,_,_,rfl,QH.out,hn.below TJ.out⟩
   ·refine bodyPost_ret (v:=(.tuple #[.agg mO,.iface 155 (ai (some ⟨wc.heap.size,0,none⟩))])) ?q1 rfl ?q3
    case q1=>
     refine kM (P:=ae) Tryz.results45 _ _ w.heap.size 107 _ (0,0) _ _ (by kernel_rfl) (by kernel_rfl) ?qd underlying107 rfl (by kernel_rfl);rw[heap_drew];exact HYr.out
    obtain⟨k,hk,hn⟩:=A7.out.no HB.out;refine EW.drew ⟨gI (lH sg.out.ze HCy.out (ay _)) (gH _ _),fun _=>⟨k+1,_,rfl,by omega,?_⟩,fun h=>by rw[HB.out]at h;cases h⟩;refine⟨wc.heap.size,_,_,rfl,HYw.out,(hn.iO HCy.out fun q cur fr hq e=>?_).below (gH _ _)⟩;subst e;rw[sg.out.res]at hq;simp only[Option.some.injEq,Obj.cells.injEq]at hq;exact absurd hq.2.1 (by decide)
  |false=>
   have U9:=A7.out.ok hb;subst U9;have HB:=gE hb;clear hb k0 k1 k2 k3 k4 k5 j0 j1 j2 j3 j4 j5;obtain⟨_,_,ra,rc,rfl,_⟩:=id A7.out.rd;obtain⟨_,_,pa,pc,rfl,_⟩:=id E2.out;obtain⟨rl,pZ⟩:∃rl,x.2.rest.length=rl:=⟨_,rfl⟩;obtain⟨pl,xt⟩:∃pl,x.1.tok.length=pl:=⟨_,rfl⟩;rw[pZ]at y0 A7;rw[xt]at sg E2;have ab9:=gE A7.out.rd;have n5:wc.cell? ⟨w1.heap.size,5,none⟩= some (aj none 0 0):=sg.out.cell 5;have v5:=sg.out.free 5;have DR:=gE (sg.out.xJ (by decide) (by decide) 5 (.slice ra rl rc))
   have hkp:∀u l,me wc u l->me (wc.setCell ⟨w1.heap.size,5,none⟩ (.slice ra rl rc)) u l:=by
    intro u l hu;refine hu.iO (iu (cb:=w1.heap.size) (Below.refl _ wc) 5 (.slice ra rl rc)) fun k cur fr hk e=>?_
    subst e;rw[sg.out.NA]at hk;simp only[Option.some.injEq,Obj.cells.injEq]at hk;exact absurd hk.2.1 (by decide)
   have HP5:=gE (hkp _ _ E2.out);have HR5:=gE (hkp _ _ ab9.out);clear hkp pZ xt;generalize hW5:wc.setCell ⟨w1.heap.size,5,none⟩ (.slice ra rl rc)=W5 at DR HP5 HR5;have adP:=gE hW5;have m0:W5.cell? ⟨w1.heap.size,0,none⟩= some (af ag x.1.kind):=DR.out.cell 0;have m1:W5.cell? ⟨w1.heap.size,1,none⟩= some (af ag bl):=DR.out.cell 1;have m2:W5.cell? ⟨w1.heap.size,2,none⟩= some (af ag x.1.gL):=DR.out.cell 2;have m3:W5.cell? ⟨w1.heap.size,3,none⟩= some (.slice pa pl pc):=DR.out.cell 3;have m4:W5.cell? ⟨w1.heap.size,4,none⟩= some (af ag x.1.num):=DR.out.cell 4;have m5:W5.cell? ⟨w1.heap.size,5,none⟩= some (.slice ra rl rc):=DR.out.cell 5;have k0:W5.cell? ⟨w.heap.size,0,none⟩= some (af ag 0):=(by simp only[aX,DR.out.res];rfl);have j0:W5.frozen? ⟨w.heap.size,0,none⟩= false:=frozen_of_row W5 _ _ _ _ DR.out.res;have k1:W5.cell? ⟨w.heap.size,1,none⟩= some (af ag 0):=(by simp only[aX,DR.out.res];rfl);have j1:W5.frozen? ⟨w.heap.size,1,none⟩= false:=frozen_of_row W5 _ _ _ _ DR.out.res;have k2:W5.cell? ⟨w.heap.size,2,none⟩= some (af ag 0):=(by simp only[aX,DR.out.res];rfl);have j2:W5.frozen? ⟨w.heap.size,2,none⟩= false:=frozen_of_row W5 _ _ _ _ DR.out.res;have k3:W5.cell? ⟨w.heap.size,3,none⟩= some (aj none 0 0):=(by simp only[aX,DR.out.res];rfl);have j3:W5.frozen? ⟨w.heap.size,3,none⟩= false:=frozen_of_row W5 _ _ _ _ DR.out.res;have k4:W5.cell? ⟨w.heap.size,4,none⟩= some (af ag 0):=(by simp only[aX,DR.out.res];rfl);have j4:W5.frozen? ⟨w.heap.size,4,none⟩= false:=frozen_of_row W5 _ _ _ _ DR.out.res;have k5:W5.cell? ⟨w.heap.size,5,none⟩= some (aj none 0 0):=(by simp only[aX,DR.out.res];rfl);have j5:W5.frozen? ⟨w.heap.size,5,none⟩= false:=frozen_of_row W5 _ _ _ _ DR.out.res;have B4:Hid (((((((W5.setCell ⟨w.heap.size,0,none⟩ (af ag x.1.kind)).setCell ⟨w.heap.size,1,none⟩ (af ag bl)).setCell ⟨w.heap.size,2,none⟩ (af ag x.1.gL)).setCell ⟨w.heap.size,3,none⟩ (.slice pa pl pc)).setCell ⟨w.heap.size,4,none⟩ (af ag x.1.num)).setCell ⟨w.heap.size,5,none⟩ (.slice ra rl rc)).heap[w.heap.size]? =some (.cells (xq x.1 bl (.slice pa pl pc) (.slice ra rl rc)) 107 (0,0))):=(gQ (gQ (gQ (gQ (gQ (gQ DR.out.res 0 (af ag x.1.kind)) 1 (af ag bl)) 2 (af ag x.1.gL)) 3 (.slice pa pl pc)) 4 (af ag x.1.num)) 5 (.slice ra rl rc));have Is:Hid (ip (· = w.heap.size) W5 ((((((W5.setCell ⟨w.heap.size,0,none⟩ (af ag x.1.kind)).setCell ⟨w.heap.size,1,none⟩ (af ag bl)).setCell ⟨w.heap.size,2,none⟩ (af ag x.1.gL)).setCell ⟨w.heap.size,3,none⟩ (.slice pa pl pc)).setCell ⟨w.heap.size,4,none⟩ (af ag x.1.num)).setCell ⟨w.heap.size,5,none⟩ (.slice ra rl rc))):=((((((iu (cb:=w.heap.size) (Below.refl _ _) 0 (af ag x.1.kind)).trans (iu (cb:=w.heap.size) (Below.refl _ _) 1 (af ag bl))).trans (iu (cb:=w.heap.size) (Below.refl _ _) 2 (af ag x.1.gL))).trans (iu (cb:=w.heap.size) (Below.refl _ _) 3 (.slice pa pl pc))).trans (iu (cb:=w.heap.size) (Below.refl _ _) 4 (af ag x.1.num))).trans (iu (cb:=w.heap.size) (Below.refl _ _) 5 (.slice ra rl rc)));go_wp2_with fail;refine bodyPost_ret (v:=(.tuple #[.agg (xq x.1 bl (.slice pa pl pc) (.slice ra rl rc)),.nilIface])) ?h1 rfl ?h3
   case h1=>
    refine kM (P:=ae) Tryz.results45 _ _ w.heap.size 107 _ (0,0) _ _ (by kernel_rfl) (by kernel_rfl) ?d underlying107 rfl (by kernel_rfl);exact B4.out
   have hF:∀q cur fr,W5.heap[q]? =some (.cells cur 5 fr)->¬q=w.heap.size:=by
    intro q cur fr hq e;subst e;rw[DR.out.res]at hq;simp only[Option.some.injEq,Obj.cells.injEq]at hq;exact absurd hq.2.1 (by decide)
   refine⟨lH DR.out.ze Is.out (ay _),fun h=>(by rw[HB.out]at h;cases h),fun _=>⟨_,_,by rw[VQ.out],HP5.out.iO Is.out hF,?_⟩⟩;rw[<-aar.out];exact HR5.out.iO Is.out hF
end Go.Proofs.YthmdjhlhodpbhaaGreatDoor
