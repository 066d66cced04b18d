/- Apart, 0 -/
import Derived.WalkKit
import Derived.Laws.BitsAllLaws
import Derived.Laws.BitsLemmas
import Derived.LaidEql
import Derived.Stop.Asserts
import Derived.RowKitTokens
import Derived.Lib.ReflectliteSlice
import Derived.Test.YthmdjhlhodpbhaaGreatDoorProg
import Derived.ArgAppend
import Derived.OneCell
set_option maxHeartbeats 16000000
set_option maxRecDepth 8000
namespace Go.Proofs.YthmdjhlhodpbhaaGreatDoor
open Go.RowKit
theorem aLt{α:Type}{l:Array α}{i:Nat}{x:α}(h:l[i]? =some x):i<l.size:=(Array.getElem?_eq_some_iff.1 h).1
theorem lLt{α:Type}{l:List α}{i:Nat}{x:α}(h:l[i]? =some x):i<l.length:=(List.getElem?_eq_some_iff.1 h).1
theorem lMm{α:Type}{l:List α}{i:Nat}{x:α}(h:l[i]? =some x):x∈l:=List.mem_of_getElem? h
theorem lGe{α:Type}{l:List α}{i:Nat}(h:i<l.length):l[i]? =some l[i]:=List.getElem?_eq_getElem h
def U8(l:List Int):List Value:=l.map (Value.int .u8)
theorem bP(l:List Int):(U8 l).length=l.length:=by simp[U8]
theorem lj(l r:List Int):U8 (l++r)=U8 l++U8 r:=by simp[U8]
theorem ab{p:Prop}(h:p):Hid p:=h
def Bytes(l:List Int):Prop:=∀x∈l,0<=x/\x<256
def eL(n a b:Int):Bool:=decide (a<=n/\n<=b)
theorem lk{n a b:Int}(h:eL n a b=true):a<=n/\n<=b:=of_decide_eq_true h
def az(n:Int):List Int:=
 if n<64 then [n] else if n<16384 then [64+n/256,n%256] else [128+n/16777216,n/65536%256,n/256%256,n%256]
def bZ(n:Int):List Int:=[n%256,n/256%256,n/65536%256,n/16777216%256]
def iX(s c:Int):Int:=((s.toNat ^^^ c.toNat:Nat):Int)*16777619%4294967296
def ng(l:List Int):Int:=l.foldl iX 2166136261
def gw(a t:Int):List Int:=a::bZ t
def bF(k a t:Int):List Int:=gw a t++bZ (ng (bZ k++gw a t))
def ef(k a c:Int):Int:=ng (bZ k++[255,a]++bZ c)%1073741824
theorem fT(n:Int):Bytes (bZ n):=by
 intro x hx
 simp[bZ]at hx
 omega
theorem Bytes.append{l r:List Int}(hl:Bytes l)(hr:Bytes r):Bytes (l++r):=by
 intro x hx
 rcases List.mem_append.1 hx with h|h
 ·exact hl x h
 ·exact hr x h
theorem Bytes.cons{a:Int}{l:List Int}(ha:0<=a/\a<256)(hl:Bytes l):Bytes (a::l):=by
 intro x hx
 rcases List.mem_cons.1 hx with h|h
 ·subst h;exact ha
 ·exact hl x h
theorem Bytes.nil:Bytes []:=by intro x hx;cases hx
theorem bw(n:Int)(h0:0<=n)(h1:n<=1073741823):Bytes (az n):=by
 intro x hx
 unfold az at hx
 split at hx
 ·simp at hx;omega
 ·split at hx
  ·simp at hx;omega
  ·simp at hx;omega
theorem qO(s c:Int):0<=iX s c/\iX s c<4294967296:=by unfold iX;omega
theorem uO(l:List Int):∀s:Int,0<=s/\s<4294967296->0<=l.foldl iX s/\l.foldl iX s<4294967296:=by
 induction l with
 |nil=>intro s h;exact h
 |cons a l ih=>intro s _;exact ih _ (qO s a)
theorem l5(l:List Int):0<=ng l/\ng l<4294967296:=uO l _ (by decide)
theorem sumL_snoc(l:List Int)(c:Int):ng (l++[c])=iX (ng l) c:=by simp[ng,List.foldl_append]
theorem wraps_i64(n:Int)(h0:0<=n)(h1:n<2 ^ 63):IntKind.i64.wrap n=n:=by rw[IntKind.wrap_i64];omega
theorem or_i64(i:Nat)(x y:Int)(hx0:0<=x)(hx:x%2 ^ i=0)(hx1:x<2 ^ 63)(hy0:0<=y)(hy:y<2 ^ i)(hy1:y<2 ^ 63):bits .or .i64 x y=x+y:=
 bits_join .i64 63 (by decide) wraps_i64 i x y hx0 hx hx1 hy0 hy hy1
theorem or64(y:Int)(h0:0<=y)(h1:y<64):bits .or .i64 64 y=64+y:=or_i64 6 64 y (by decide) (by decide) (by decide) h0 h1 (by omega)
theorem or128(y:Int)(h0:0<=y)(h1:y<64):bits .or .i64 128 y=128+y:=or_i64 6 128 y (by decide) (by decide) (by decide) h0 h1 (by omega)
theorem or8(x y:Int)(h0:0<=x)(h1:x<16777216)(h2:0<=y)(h3:y<256):bits .or .i64 (x*256) y=x*256+y:=
 or_i64 8 (x*256) y (by omega) (by omega) (by omega) h2 h3 (by omega)
theorem oP(w:World)(e:TypeId)(cs:List Value)(hm:cs.length<=maxLen):
  (w.alloc (.cells cs.toArray e)).ownsRow w.heap.size e 1 (.slice (some ⟨w.heap.size,0,none⟩) cs.length cs.length) cs.length cs:=by
 have:=World.ownsRow_lit (base:=w.heap.size) (e:=e) (size:=1) w cs.toArray cs.length (Nat.le_refl _) hm (by simp)
 simpa using this
theorem ag(w:World)(o:Obj):Below w.heap.size w (w.alloc o):=(Below.refl _ _).alloc (Nat.le_refl _) o
end Go.Proofs.YthmdjhlhodpbhaaGreatDoor
namespace Go.Proofs.YthmdjhlhodpbhaaGreatDoor
open Go.RowKit Go.Extern.Stop Go.Stop Go.Extern
theorem As_nil(t:Value)(w:World):Calls Tryz.prog 87 #[.nilIface,t] w fun e w'=>e=.returned (.bool false)/\w=w':=by
 go_enter Tryz.func87,Tryz.ntmps87
 go_wp2
 go_ret
 exact⟨rfl,rfl⟩
theorem lX(t:Addr)(w:World):(ReflectliteValue.unpack (.iface 160 (.pointer (some t)))).run Tryz.prog w
  = .ok (.agg #[.pointer (some ⟨4,160,none⟩),.pointer (some ⟨w.heap.size,0,none⟩),.int .u64 150]) (w.alloc (.cells #[.pointer (some t)] 160)):=by kernel_rfl
theorem tB(a:Addr)(w:World):(ReflectliteValue.methodAny (ReflectliteValue.valueError "reflectlite.Value.Type" 0) (fun t _ _ _=>ReflectliteType.toType t) #[.agg #[.pointer (some ⟨4,160,none⟩),.pointer (some a),.int .u64 150]]).run Tryz.prog w
  = .ok (.iface 263 (.agg #[.pointer (some ⟨4,160,none⟩)])) w:=by kernel_rfl
theorem jj(h:Value)(w:World):(Go.method 469 263 (.agg #[h]) "Kind").run Tryz.prog w=.ok (261,h) w:=by kernel_rfl
theorem nK(w:World):((ReflectliteType.abiMethod fun t=>Functor.map (fun a:Nat=>Value.int IntKind.u8 (a:Int)) (Rtype.kind t)) #[.pointer (some ⟨4,160,none⟩)]).run Tryz.prog w=.ok (.int .u8 22) w:=by kernel_rfl
theorem pY(w:World):((ReflectliteType.abiMethod fun t=>Functor.map (fun a:Nat=>Value.int IntKind.u8 (a:Int)) (Rtype.kind t)) #[.pointer (some ⟨4,158,none⟩)]).run Tryz.prog w=.ok (.int .u8 22) w:=by kernel_rfl
theorem pZ(a:Addr)(w:World):(ReflectliteValue.parts (.agg #[.pointer (some ⟨4,160,none⟩),.pointer (some a),.int .u64 150])).run Tryz.prog w=.ok (some (160,a,150)) w:=by kernel_rfl
theorem pX(a p:Addr)(W:World)(ha:W.cell? a=some (.pointer (some p))):
  (ReflectliteValue.method (ReflectliteValue.valueError "reflectlite.Value.IsNil" 0) ReflectliteValue.isNil #[.agg #[.pointer (some ⟨4,160,none⟩),.pointer (some a),.int .u64 150]]).run Tryz.prog W=.ok (.bool false) W:=by
 rw[Lib.rl_method]
 simp only[Sem.run_bind,pZ,Result.andThen]
 simp[ReflectliteValue.isNil,loadVar,isAgg,underlying,Tryz.underlying160,ha,Result.andThen]
theorem ji(h:Value)(w:World):(Go.method 469 263 (.agg #[h]) "Elem").run Tryz.prog w=.ok (274,.agg #[h]) w:=by kernel_rfl
theorem fw(h:Value)(w:World):(Go.method 469 263 (.agg #[h]) "Implements").run Tryz.prog w=.ok (275,.agg #[h]) w:=by kernel_rfl
theorem eN(h:Value)(w:World):(Go.method 469 263 (.agg #[h]) "AssignableTo").run Tryz.prog w=.ok (272,.agg #[h]) w:=by kernel_rfl
theorem nJ(w:World):(ReflectliteType.method ReflectliteType.elem #[.agg #[.pointer (some ⟨4,160,none⟩)]]).run Tryz.prog w=.ok (.iface 263 (.agg #[.pointer (some ⟨4,158,none⟩)])) w:=by kernel_rfl
theorem jh(w:World):(ReflectliteType.relation "Implements" ReflectliteType.implements_ #[.agg #[.pointer (some ⟨4,158,none⟩)],.iface 263 (.agg #[.pointer (some ⟨4,109,none⟩)])]).run Tryz.prog w=.ok (.bool true) w:=by kernel_rfl
theorem lV(v:Value)(w:World):(ReflectliteType.typeOf #[.iface 158 v]).run Tryz.prog w=.ok (.iface 263 (.agg #[.pointer (some ⟨4,158,none⟩)])) w:=by kernel_rfl
theorem lW(v:Value)(w:World):(ReflectliteType.typeOf #[.iface 155 v]).run Tryz.prog w=.ok (.iface 263 (.agg #[.pointer (some ⟨4,155,none⟩)])) w:=by kernel_rfl
theorem iG(w:World):(ReflectliteType.relation "AssignableTo" ReflectliteType.assignableTo #[.agg #[.pointer (some ⟨4,158,none⟩)],.iface 263 (.agg #[.pointer (some ⟨4,158,none⟩)])]).run Tryz.prog w=.ok (.bool true) w:=by kernel_rfl
theorem iH(w:World):(ReflectliteType.relation "AssignableTo" ReflectliteType.assignableTo #[.agg #[.pointer (some ⟨4,155,none⟩)],.iface 263 (.agg #[.pointer (some ⟨4,158,none⟩)])]).run Tryz.prog w=.ok (.bool false) w:=by kernel_rfl
theorem kV(e:Addr)(w:World):(ReflectliteValue.unpack (.iface 158 (.pointer (some e)))).run Tryz.prog w
  = .ok (.agg #[.pointer (some ⟨4,158,none⟩),.pointer (some ⟨w.heap.size,0,none⟩),.int .u64 150]) (w.alloc (.cells #[.pointer (some e)] 158)):=by kernel_rfl
theorem rl_elemOf(w:World):(Rtype.elem? 160).run Tryz.prog w=.ok (some 158) w:=by kernel_rfl
theorem rl_mk(p:Addr)(w:World):(ReflectliteValue.mk 158 p ReflectliteValue.flagAddr).run Tryz.prog w=.ok (.agg #[.pointer (some ⟨4,158,none⟩),.pointer (some p),.int .u64 406]) w:=by kernel_rfl
theorem pW(a p:Addr)(W:World)(ha:W.cell? a=some (.pointer (some p))):
  (ReflectliteValue.method (ReflectliteValue.valueError "reflectlite.Value.Elem" 0) ReflectliteValue.elem #[.agg #[.pointer (some ⟨4,160,none⟩),.pointer (some a),.int .u64 150]]).run Tryz.prog W
   = .ok (.agg #[.pointer (some ⟨4,158,none⟩),.pointer (some p),.int .u64 406]) W:=by
 rw[Lib.rl_method]
 simp only[Sem.run_bind,pZ,Result.andThen]
 simp[ReflectliteValue.elem,loadVar,isAgg,underlying,Tryz.underlying160,ha,Result.andThen,rl_elemOf,rl_mk]
theorem rl_partsA(a:Addr)(w:World):(ReflectliteValue.parts (.agg #[.pointer (some ⟨4,158,none⟩),.pointer (some a),.int .u64 406])).run Tryz.prog w=.ok (some (158,a,406)) w:=by kernel_rfl
theorem rl_parts(a:Addr)(w:World):(ReflectliteValue.parts (.agg #[.pointer (some ⟨4,158,none⟩),.pointer (some a),.int .u64 150])).run Tryz.prog w=.ok (some (158,a,150)) w:=by kernel_rfl
theorem rl_direct(w:World):(Rtype.directlyAssignable 158 158).run Tryz.prog w=.ok true w:=by kernel_rfl
theorem tC(v x:Value)(ta b e:Addr)(old:Value)(W:World)(hv:(ReflectliteValue.parts v).run Tryz.prog W=.ok (some (158,ta,406)) W)(hx:(ReflectliteValue.parts x).run Tryz.prog W=.ok (some (158,b,150)) W)
  (hb:W.cell? b=some (.pointer (some e))) (ht:W.cell? ta=some old) (hf:W.frozen? ta=false):(ReflectliteValue.set #[v,x]).run Tryz.prog W=.ok (.tuple #[]) (W.setCell ta (.pointer (some e))):=by
 change Sem.run Tryz.prog (Bind.bind (m:=Sem) (ReflectliteValue.parts v) fun p=>Bind.bind (m:=Sem) (ReflectliteValue.parts x) ((?F:Option (TypeId×Addr×Nat)->Option (TypeId×Addr×Nat)->Sem Value) p)) W=_
 simp only[Sem.run_bind,hv,hx,Result.andThen]
 simp[ReflectliteValue.flagAddr,loadVar,isAgg,underlying,Tryz.underlying158,hb,Result.andThen,rl_direct,storeVar,Value.cells,storeCells,Addr.add]
 rw[run_store Tryz.prog W ta _ _ (by rfl)]
 simp[ht,hf]
theorem rl_set(ta b e:Addr)(old:Value)(W:World)(hb:W.cell? b=some (.pointer (some e)))(ht:W.cell? ta=some old)(hf:W.frozen? ta=false):
  (ReflectliteValue.set #[.agg #[.pointer (some ⟨4,158,none⟩),.pointer (some ta),.int .u64 406],.agg #[.pointer (some ⟨4,158,none⟩),.pointer (some b),.int .u64 150]]).run Tryz.prog W
   = .ok (.tuple #[]) (W.setCell ta (.pointer (some e))):=tC _ _ ta b e old W (rl_partsA ta W) (rl_parts b W) hb ht hf
theorem kZ(v:Value)(xT:TypeId)(w:World):(Instr.typeAssert (.iface 155 v) xT 268 true).run Tryz.prog w=.ok (.tuple #[.nilIface,.bool false]) w:=run_typeAssert_lacksB Tryz.underlying268 (by kernel_rfl) (by kernel_rfl) v xT w
theorem gF(v:Value)(xT:TypeId)(w:World):(Instr.typeAssert (.iface 155 v) xT 271 true).run Tryz.prog w=.ok (.tuple #[.iface 155 v,.bool true]) w:=run_typeAssert_hasB Tryz.underlying271 (by kernel_rfl) v xT w
theorem jm(p:Option Addr)(w:World):(Go.method 469 155 (.pointer p) "Unwrap").run Tryz.prog w=.ok (265,.pointer p) w:=by kernel_rfl
set_option maxRecDepth 20000 in
theorem rq(hb:Nat)(e t:Addr)(w:World)(hg:w.cell? ⟨0,0,none⟩= some (.iface 263 (.agg #[.pointer (some ⟨4,109,none⟩)])))(hcause:w.cell? ⟨hb,1,none⟩= some (.iface 158 (.pointer (some e))))(ht0:w.cell? t=some (.pointer none))(hf0:w.frozen? t=false):
  Calls Tryz.prog 87 #[.iface 155 (.pointer (some ⟨hb,0,none⟩)),.iface 160 (.pointer (some t))] w fun ev w'=>ev=.returned (.bool true)/\Below t.block w w':=by
 have h6:=@run_callFunc_extern Tryz.prog 138 _ (fun args=>ReflectliteValue.unpack (args.getD 0 (.tuple #[]))) Tryz.func138 (by kernel_rfl) (by kernel_rfl) (by kernel_rfl) (by kernel_rfl)
 have h7:=@run_callFunc_extern Tryz.prog 139 _ (ReflectliteValue.methodAny (ReflectliteValue.valueError "reflectlite.Value.Type" 0) (fun t _ _ _=>ReflectliteType.toType t)) Tryz.func139 (by kernel_rfl) (by kernel_rfl) (by kernel_rfl) (by kernel_rfl)
 have h8:=@run_callFunc_extern Tryz.prog 140 _ (ReflectliteValue.method (ReflectliteValue.valueError "reflectlite.Value.IsNil" 0) ReflectliteValue.isNil) Tryz.func140 (by kernel_rfl) (by kernel_rfl) (by kernel_rfl) (by kernel_rfl)
 have h27:=@run_callFunc_extern Tryz.prog 261 _ (ReflectliteType.abiMethod fun t=>do pure (.int .u8 (<-Rtype.kind t))) Tryz.func261 (by kernel_rfl) (by kernel_rfl) (by kernel_rfl) (by kernel_rfl)
 have h37:=@run_callFunc_extern Tryz.prog 274 _ (ReflectliteType.method ReflectliteType.elem) Tryz.func274 (by kernel_rfl) (by kernel_rfl) (by kernel_rfl) (by kernel_rfl)
 have h38:=@run_callFunc_extern Tryz.prog 275 _ (ReflectliteType.relation "Implements" ReflectliteType.implements_) Tryz.func275 (by kernel_rfl) (by kernel_rfl) (by kernel_rfl) (by kernel_rfl)
 have h10:=@run_callFunc_extern Tryz.prog 170 _ ReflectliteType.typeOf Tryz.func170 (by kernel_rfl) (by kernel_rfl) (by kernel_rfl) (by kernel_rfl)
 have h35:=@run_callFunc_extern Tryz.prog 272 _ (ReflectliteType.relation "AssignableTo" ReflectliteType.assignableTo) Tryz.func272 (by kernel_rfl) (by kernel_rfl) (by kernel_rfl) (by kernel_rfl)
 have h11:=@run_callFunc_extern Tryz.prog 171 _ (ReflectliteValue.method (ReflectliteValue.valueError "reflectlite.Value.Elem" 0) ReflectliteValue.elem) Tryz.func171 (by kernel_rfl) (by kernel_rfl) (by kernel_rfl) (by kernel_rfl)
 have h12:=@run_callFunc_extern Tryz.prog 172 _ ReflectliteValue.set Tryz.func172 (by kernel_rfl) (by kernel_rfl) (by kernel_rfl) (by kernel_rfl)
 have noAs:=kZ
 have mU:=jm
 have hasU:=gF
 have tN:=lV
 have tW:=lW
 have mA:=eN
 have aN:=iG
 have aW:=iH
 have vN:=kV
 have f6:=lX
 have f7:=tB
 have mK:=jj
 have mE:=ji
 have mI:=fw
 have k27:=nK
 have k25:=pY
 have e27:=nJ
 have i25:=jh
 have n8:=pX ⟨w.heap.size,0,none⟩ t ((w.alloc (.cells #[.pointer (some t)] 160)).alloc (.cells #[.pointer (some ⟨4,160,none⟩),.pointer (some ⟨w.heap.size,0,none⟩),.int .u64 150] 217)) (by simp)
 have hlt:0<w.heap.size:=by
  rcases Nat.lt_or_ge 0 w.heap.size with h|h
  ·exact h
  ·simp[World.cell?,Array.getElem?_eq_none h]at hg
 have hg2:((w.alloc (.cells #[.pointer (some t)] 160)).alloc (.cells #[.pointer (some ⟨4,160,none⟩),.pointer (some ⟨w.heap.size,0,none⟩),.int .u64 150] 217)).cell? ⟨0,0,none⟩= some (.iface 263 (.agg #[.pointer (some ⟨4,109,none⟩)])):=by
  rw[World.cell?_alloc_lt _ _ ⟨0,0,none⟩ (by simp only[World.size_alloc];omega),World.cell?_alloc_lt _ _ ⟨0,0,none⟩ hlt];exact hg
 have htl:t.block<w.heap.size:=by
  rcases Nat.lt_or_ge t.block w.heap.size with h|h
  ·exact h
  ·simp[World.cell?,Array.getElem?_eq_none h]at ht0
 have hhl:hb<w.heap.size:=by
  rcases Nat.lt_or_ge hb w.heap.size with h|h
  ·exact h
  ·simp[World.cell?,Array.getElem?_eq_none h]at hcause
 have hc3:(((w.alloc (.cells #[.pointer (some t)] 160)).alloc (.cells #[.pointer (some ⟨4,160,none⟩),.pointer (some ⟨w.heap.size,0,none⟩),.int .u64 150] 217)).alloc (.cells #[.pointer (some ⟨4,160,none⟩),.pointer (some ⟨w.heap.size,0,none⟩),.int .u64 150] 217)).cell? ⟨hb,1,none⟩= some (.iface 158 (.pointer (some e))):=by
  rw[World.cell?_alloc_lt _ _ ⟨hb,1,none⟩ (by simp;omega),World.cell?_alloc_lt _ _ ⟨hb,1,none⟩ (by simp;omega),World.cell?_alloc_lt _ _ ⟨hb,1,none⟩ hhl];exact hcause
 have el:=pW ⟨w.heap.size,0,none⟩ t (((w.alloc (.cells #[.pointer (some t)] 160)).alloc (.cells #[.pointer (some ⟨4,160,none⟩),.pointer (some ⟨w.heap.size,0,none⟩),.int .u64 150] 217)).alloc (.cells #[.pointer (some ⟨4,160,none⟩),.pointer (some ⟨w.heap.size,0,none⟩),.int .u64 150] 217)) (by rw[World.cell?_alloc_lt _ _ ⟨w.heap.size,0,none⟩ (by simp;omega)];simp)
 have st:=rl_set t ⟨w.heap.size+1+1+1,0,none⟩ e (.pointer none) ((((w.alloc (.cells #[.pointer (some t)] 160)).alloc (.cells #[.pointer (some ⟨4,160,none⟩),.pointer (some ⟨w.heap.size,0,none⟩),.int .u64 150] 217)).alloc (.cells #[.pointer (some ⟨4,160,none⟩),.pointer (some ⟨w.heap.size,0,none⟩),.int .u64 150] 217)).alloc (.cells #[.pointer (some e)] 158))
  (by rw[World.cell?_alloc_at _ _ _ _ (by simp)];rfl)
  (by rw[World.cell?_alloc_lt _ _ t (by simp;omega),World.cell?_alloc_lt _ _ t (by simp;omega),World.cell?_alloc_lt _ _ t (by simp;omega),World.cell?_alloc_lt _ _ t htl];exact ht0)
  (by rw[World.frozen?_alloc_old _ _ t (by simp;omega),World.frozen?_alloc_old _ _ t (by simp;omega),World.frozen?_alloc_old _ _ t (by simp;omega),World.frozen?_alloc_old _ _ t (Nat.ne_of_lt htl)];exact hf0)
 go_enter Tryz.func87,Tryz.ntmps87
 go_wp2
 refine wp_loop_rounds 2 ?_
 rw[rounds_succ]
 go_wp2
 rw[rounds_succ]
 go_wp2
 go_ret
 refine⟨rfl,?_⟩
 have hb0:t.block<=w.heap.size:=Nat.le_of_lt htl
 exact((((((Below.refl t.block w).alloc hb0 _).alloc (by simp only[World.size_alloc];omega) _).alloc (by simp only[World.size_alloc];omega) _).alloc (by simp only[World.size_alloc];omega) _)).setCell (Nat.le_refl _) _
end Go.Proofs.YthmdjhlhodpbhaaGreatDoor
namespace Go.Proofs.YthmdjhlhodpbhaaGreatDoor
open Go.RowKit
theorem vD{a b:Bool}(h:a=b):Ending.returned (.bool a)=.returned (.bool b):=by rw[h]
theorem rbetween_any(n a b:Int)(w:World):Calls Tryz.prog 60 #[.int .i64 n,.int .i64 a,.int .i64 b] w fun e w'=>e=.returned (.bool (eL n a b))/\w=w':=by
 go_enter Tryz.func60,Tryz.ntmps60
 go_wp2
 all_goals go_ret
 all_goals exact⟨vD (by unfold eL;simp;try omega),rfl⟩
theorem jO(n a b:Int)(w:World):Calls Tryz.prog 101 #[.int .i64 n,.int .i64 a,.int .i64 b] w fun e w'=>e=.returned (.bool (eL n a b))/\w=w':=by
 go_enter Tryz.func101,Tryz.ntmps101
 go_wp2
 all_goals go_ret
 all_goals exact⟨vD (by unfold eL;simp;try omega),rfl⟩
def jd(n g:Int):Int:=if eL n 0 g then 0 else 2
theorem jM(n g:Int)(w:World):Calls Tryz.prog 88 #[.int .i64 n,.int .i64 g] w fun e w'=>e=.returned (.int .i64 (jd n g))/\w=w':=by
 unfold jd
 cases hb:eL n 0 g
 all_goals
  go_enter Tryz.func88,Tryz.ntmps88
  go_wp2_with (go_at_call 101;refine(jO _ _ _ _).mono ?_;rintro e w' ⟨rfl,rfl⟩)
  go_ret
  exact⟨rfl,rfl⟩
theorem nU(n:Int)(w:World):Calls Tryz.prog 103 #[.int .i64 n] w fun e w'=>e=.returned (.int .i64 (jd n 1073741823))/\w=w':=by
 go_enter Tryz.func103,Tryz.ntmps103
 go_wp2_with (go_at_call 88;refine(jM _ _ _).mono ?_;rintro e w' ⟨rfl,rfl⟩)
 go_ret
 exact⟨rfl,rfl⟩
theorem jN(n:Int)(w:World):Calls Tryz.prog 47 #[.int .i64 n] w fun e w'=>e=.returned (.int .i64 (jd n 255))/\w=w':=by
 go_enter Tryz.func47,Tryz.ntmps47
 go_wp2_with (go_at_call 88;refine(jM _ _ _).mono ?_;rintro e w' ⟨rfl,rfl⟩)
 go_ret
 exact⟨rfl,rfl⟩
theorem ry(n:Int)(w:World):Calls Tryz.prog 66 #[.int .i64 n] w fun e w'=>e=.returned (.int .i64 (jd n 4294967295))/\w=w':=by
 go_enter Tryz.func66,Tryz.ntmps66
 go_wp2_with (go_at_call 88;refine(jM _ _ _).mono ?_;rintro e w' ⟨rfl,rfl⟩)
 go_ret
 exact⟨rfl,rfl⟩
def eD(c:Int):Int:=if c<64 then 1 else if c<128 then 2 else if c<192 then 4 else 0
theorem gU(c:Int)(w:World):Calls Tryz.prog 183 #[.int .u8 c] w fun e w'=>e=.returned (.int .i64 (eD c))/\w=w':=by
 unfold eD
 go_enter Tryz.func183,Tryz.ntmps183
 go_wp2
 all_goals go_ret
 all_goals (refine⟨?_,rfl⟩;repeat' split)<;>first|rfl|omega
theorem gn:(Tryz.prog.info? 5).map (fun i=>(i.zero,i.size,i.bytes))=some (some (.int .u8 0),1,1):=by kernel_rfl
theorem gW(l:List Int):∀u∈U8 l,u.oneCell'=true:=by
 intro u hu
 simp only[U8,List.mem_map]at hu
 obtain⟨x,_,rfl⟩:=hu
 rfl
theorem cJ(w:World)(e:TypeId)(cs:List Value)(hm:cs.length<=maxLen):∀(j:Nat) u,cs[j]? =some u->(w.alloc (.cells cs.toArray e)).cell? ((⟨w.heap.size,0,none⟩:Addr).add j)=some u:=
 (oP w e cs hm).cells rfl
theorem bz{w w1:World}{o:Obj}{row:Option Nat}(h:(w.alloc o).grownBy w1 row):w.grownBy w1 row:=
 ⟨h.os,h.tape,h.output,by have:=h.size;simp at this;omega,fun k hk hne=>(h.block k (by simp;omega) hne).trans (Below.heap_alloc w o k hk)⟩
theorem nY{w w1 w2:World}{row row2:Option Nat}(h:w.grownBy w1 row)(h2:w1.grownBy w2 row2)(hr:row2=row\/∀k,row2=some k->w.heap.size<=k):w.grownBy w2 row:=
 ⟨h2.os.trans h.os,h2.tape.trans h.tape,h2.output.trans h.output,Nat.le_trans h.size h2.size,fun k hk hne=>by
  have:k<w1.heap.size:=Nat.lt_of_lt_of_le hk h.size
  rw[h2.block k this (by rcases hr with rfl|hr;exact hne;intro e;have:=hr k e.symm;omega)]
  exact h.block k hk hne⟩
theorem fU{w w':World}(h:w.grownBy w' none):Below w.heap.size w w':=⟨h.os,h.tape,h.output,h.size,fun k hk=>h.block k hk (by simp)⟩
theorem iM{w w':World}(h:Below w.heap.size w w')(row:Option Nat):w.grownBy w' row:=⟨h.os,h.tape,h.output,h.size,fun k hk _=>h.block k hk⟩
theorem dM(m:Int)(h0:0<=m)(h1:m<=1073741823)(base:Nat)(v:Value)(n:Nat)(xs:List Value)(w:World)(hown:w.ownsRow base 5 1 v n xs)(hb:base<=w.heap.size)(hn:n<=70368744177664):
  Calls Tryz.prog 105 #[v,.int .i64 m] w fun e w'=>∃v',e=.returned v'/\w'.ownsRow base 5 1 v' (n+(az m).length) (xs++U8 (az m))/\w.grownBy w' v.ownBlock:=by
 obtain⟨i0,hi,hz0,hz1,hz2⟩:=info_parts gn
 by_cases a:m<64
 ·have e:az m=[m]:=by unfold az;rw[if_pos a]
  rw[e]
  go_enter Tryz.func105,Tryz.ntmps105
  go_wp2_with (at_builtin;refine wpList_append_own _ rfl _ _ 44 rfl base 5 i0 (.int .u8 0) 1 1 Tryz.underlying44 hi hz0 hz1 hz2 rfl (by decide) v n xs rfl (hown.alloc _) ⟨w.heap.size,0,none⟩ 1 1 (U8 [m]) rfl rfl (cJ w 5 (U8 [m]) (by simp[U8,maxLen])) (gW _) (by unfold maxLen;omega) (by omega) (by simp;omega) ?_;intro v' w1 hown' hgrow _)
  go_ret
  exact⟨_,rfl,hown',bz hgrow⟩
 by_cases b:m<16384
 ·have e:az m=[64+m/256,m%256]:=by unfold az;rw[if_neg a,if_pos b]
  rw[e]
  have hor:=or64 (m/256) (by omega) (by omega)
  go_enter Tryz.func105,Tryz.ntmps105
  go_wp2_with (at_builtin;refine wpList_append_own _ rfl _ _ 44 rfl base 5 i0 (.int .u8 0) 1 1 Tryz.underlying44 hi hz0 hz1 hz2 rfl (by decide) v n xs rfl (hown.alloc _) ⟨w.heap.size,0,none⟩ 2 2 (U8 [64+m/256,m%256]) rfl rfl (cJ w 5 (U8 [64+m/256,m%256]) (by simp[U8,maxLen])) (gW _) (by unfold maxLen;omega) (by omega) (by simp;omega) ?_;intro v' w1 hown' hgrow _)
  go_ret
  exact⟨_,rfl,hown',bz hgrow⟩
 ·have e:az m=[128+m/16777216,m/65536%256,m/256%256,m%256]:=by unfold az;rw[if_neg a,if_neg b]
  rw[e]
  have hor:=or128 (m/16777216) (by omega) (by omega)
  go_enter Tryz.func105,Tryz.ntmps105
  go_wp2_with (at_builtin;refine wpList_append_own _ rfl _ _ 44 rfl base 5 i0 (.int .u8 0) 1 1 Tryz.underlying44 hi hz0 hz1 hz2 rfl (by decide) v n xs rfl (hown.alloc _) ⟨w.heap.size,0,none⟩ 4 4 (U8 [128+m/16777216,m/65536%256,m/256%256,m%256]) rfl rfl (cJ w 5 (U8 [128+m/16777216,m/65536%256,m/256%256,m%256]) (by simp[U8,maxLen])) (gW _) (by unfold maxLen;omega) (by omega) (by simp;omega) ?_;intro v' w1 hown' hgrow _)
  go_ret
  exact⟨_,rfl,hown',bz hgrow⟩
theorem eF(m:Int)(h0:0<=m)(h1:m<4294967296)(base:Nat)(v:Value)(n:Nat)(xs:List Value)(w:World)(hown:w.ownsRow base 5 1 v n xs)(hb:base<=w.heap.size)(hn:n<=70368744177664):
  Calls Tryz.prog 127 #[v,.int .u32 m] w fun e w'=>∃v',e=.returned v'/\w'.ownsRow base 5 1 v' (n+4) (xs++U8 (bZ m))/\w.grownBy w' v.ownBlock:=by
 obtain⟨i0,hi,hz0,hz1,hz2⟩:=info_parts gn
 have e4:bZ m=[m%256,m/256%256,m/65536%256,m/16777216]:=by unfold bZ;rw[Int.emod_eq_of_lt (a:=m/16777216) (by omega) (by omega)]
 rw[e4]
 clear e4
 go_enter Tryz.func127,Tryz.ntmps127
 go_wp2_with (at_builtin;refine wpList_append_own _ rfl _ _ 44 rfl base 5 i0 (.int .u8 0) 1 1 Tryz.underlying44 hi hz0 hz1 hz2 rfl (by decide) v n xs rfl (hown.alloc _) ⟨w.heap.size,0,none⟩ 4 4 (U8 [m%256,m/256%256,m/65536%256,m/16777216]) rfl rfl (cJ w 5 (U8 [m%256,m/256%256,m/65536%256,m/16777216]) (by simp[U8,maxLen])) (gW _) (by unfold maxLen;omega) (by omega) (by simp;omega) ?_;intro v' w1 hown' hgrow _)
 go_ret
 exact⟨_,rfl,hown',bz hgrow⟩
theorem dp{w:World}{base:Nat}{e:TypeId}{v:Value}{n:Nat}{xs:List Value}(h:w.ownsRow base e 1 v n xs)(hn:0<n):∃g cap,v=.slice (some ⟨g,0,none⟩) n cap/\base<=g/\g<w.heap.size/\n<=cap:=by
 rcases h.2 with⟨_,h0⟩|⟨g,cap,cur,rfl,hb,hg,hnc,_⟩
 ·omega
 ·exact⟨g,cap,rfl,hb,(aLt hg),hnc⟩
theorem take_snoc{l:List Int}{k:Nat}(h:k<l.length):l.take (k+1)=l.take k++[l.getD k 0]:=by
 rw[List.take_succ_eq_append_getElem h];simp[List.getD,lGe h]
theorem vX(l:List Int)(hl:Bytes l)(b off cap:Nat)(w:World)(hm:l.length<=1000000)(hc:∀j,j<l.length->w.cell? ⟨b,off+j,none⟩= some (.int .u8 (l.getD j 0))):
  Calls Tryz.prog 128 #[.slice (some ⟨b,off,none⟩) l.length cap] w fun e w'=>e=.returned (.int .u32 (ng l))/\w=w':=by
 have HC:Hid (∀j,j<l.length->w.cell? ⟨b,off+j,none⟩= some (.int .u8 (l.getD j 0))):=hc
 clear hc
 go_enter Tryz.func128,Tryz.ntmps128
 go_wp2
 go_loop [3,8] (fun s i=>∃k:Nat,k<=l.length/\i=.int .i64 k/\s=.int .u32 (ng (l.take k))) (fun _ i=>l.length-(intOf i).toNat)
 case atStart=>exact⟨0,Nat.zero_le _,rfl,rfl⟩
 case round=>
  obtain⟨k,hk,rfl,rfl⟩:=hrel
  by_cases hlt:k<l.length
  ·have hcell:=HC.out k hlt
   have hsn:=sumL_snoc (l.take k) (l.getD k 0)
   rw[<-take_snoc hlt]at hsn
   have hcr:0<=l.getD k 0/\l.getD k 0<256:=hl _ (by simp[List.getD,lGe hlt])
   have hsr:=l5 (l.take k)
   generalize l.getD k 0=c at hcell hsn hcr
   generalize ng (l.take k)=s at hsn hsr⊢
   obtain⟨hc0,hc1⟩:=hcr
   obtain⟨hs0,hs1⟩:=hsr
   have hx:=u32_xor s c hs0 hs1 hc0 (by omega)
   have HS:Hid (ng (l.take (k+1))=iX s c):=hsn
   clear hsn
   go_wp2
   go_round
   case rel=>exact⟨k+1,by omega,by go_num,by rw[HS.out];rfl⟩
   case measure=>simp[intOf];omega
  ·obtain rfl:k=l.length:=by omega
   go_wp2
   go_ret
   exact⟨rfl,rfl⟩
theorem ch{w:World}{base base':Nat}{e:TypeId}{size:Nat}{v:Value}{n:Nat}{xs:List Value}(h:w.ownsRow base e size v n xs)(hb:base'<=base):w.ownsRow base' e size v n xs:=by
 obtain⟨h1,h2⟩:=h
 refine⟨h1,?_⟩
 rcases h2 with h2|⟨g,cap,cur,hv,hg,r⟩
 ·exact Or.inl h2
 ·exact Or.inr ⟨g,cap,cur,hv,by omega,r⟩
def putM(n:Int):List Int:=if eL n 0 1073741823 then az n else []
theorem vq{n:Int}(h:eL n 0 1073741823=true):putM n=az n:=by simp[putM,h]
theorem putM_no{n:Int}(h:eL n 0 1073741823=false):putM n=[]:=by simp[putM,h]
theorem kv{n g:Int}(h:eL n 0 g=true):jd n g=0:=by simp[jd,h]
theorem argE_no{n g:Int}(h:eL n 0 g=false):jd n g=2:=by simp[jd,h]
theorem aZ(n:Int):(az n).length<=4/\0<(az n).length:=by
 unfold az
 split
 ·simp
 ·split<;>simp
theorem qu(n:Int)(w:World):Calls Tryz.prog 58 #[.int .i64 n] w fun e w'=>∃v,e=.returned (.tuple #[v,.int .i64 (jd n 1073741823)])/\w'.ownsRow w.heap.size 5 1 v (putM n).length (U8 (putM n))/\Below w.heap.size w w':=by
 cases hb:eL n 0 1073741823
 ·rw[argE_no hb,putM_no hb]
  have he:=argE_no hb
  clear hb
  go_enter Tryz.func58,Tryz.ntmps58
  go_wp2_with (go_at_call 103;refine(nU _ _).mono ?_;rintro e w' ⟨rfl,rfl⟩)
  go_ret2
  exact⟨_,rfl,World.ownsRow_nil _ _ _ _,Below.refl _ _⟩
 ·rw[kv hb,vq hb]
  have he:=kv hb
  obtain⟨h0,h1⟩:=lk hb
  clear hb
  go_enter Tryz.func58,Tryz.ntmps58
  go_wp2_with (first |(go_at_call 103;refine(nU _ _).mono ?_;rintro e w' ⟨rfl,rfl⟩) |(go_at_call 105;refine(dM n h0 h1 w.heap.size _ 0 [] w (World.ownsRow_nil _ _ _ _) (Nat.le_refl _) (by decide)).mono ?_;rintro e w' ⟨v',rfl,hown,hg⟩))
  go_ret2
  simp only[Nat.zero_add,List.nil_append]at hown
  exact⟨_,rfl,hown,fU hg⟩
theorem dQ{w:World}{base g n cap:Nat}{l:List Int}(h:w.ownsRow base 5 1 (.slice (some ⟨g,0,none⟩) n cap) n (U8 l)):∀j,j<l.length->w.cell? ⟨g,0+j,none⟩= some (.int .u8 (l.getD j 0)):=by
 intro j hj
 have hl:l.length=n:=by have:=h.1;simpa[U8] using this
 rw[Nat.zero_add,h.cellAt j (by omega)]
 simp[U8,List.getD,lGe hj]
theorem mb(k a t:Int)(w:World)(k0:0<=k)(k1:k<4294967296)(a0:0<=a)(a1:a<256)(t0:0<=t)(t1:t<4294967296):
  Calls Tryz.prog 67 #[.int .i64 k,.int .i64 a,.int .i64 t] w fun e w'=>∃v,e=.returned v/\w'.ownsRow w.heap.size 5 1 v 9 (U8 (bF k a t))/\Below w.heap.size w w':=by
 obtain⟨i0,hi,hz0,hz1,hz2⟩:=info_parts gn
 go_enter Tryz.func67,Tryz.ntmps67
 go_wp2_with fail
 refine(eF t t0 t1 w.heap.size _ 1 (U8 [a]) _ (oP w 5 (U8 [a]) (by simp[U8,maxLen])) (by simp) (by decide)).mono ?_
 rintro e w1 ⟨v1,rfl,hown1,hg1⟩
 go_wp2_with fail
 refine(eF k k0 k1 w1.heap.size _ 0 [] w1 (World.ownsRow_nil _ _ _ _) (Nat.le_refl _) (by decide)).mono ?_
 rintro e w2 ⟨v2,rfl,hown2,hg2⟩
 simp only[Nat.zero_add,List.nil_append]at hown2
 obtain⟨g1,c1,rfl,hb1,hs1,hc1⟩:=dp hown1 (by decide)
 obtain⟨g2,c2,rfl,hb2,hs2,hc2⟩:=dp hown2 (by decide)
 have hk1:=hown1.kept hg2 (Or.inr (by simp[Value.ownBlock]))
 have HK:Hid (w2.ownsRow w.heap.size 5 1 (.slice (some ⟨g1,0,none⟩) (1+4) c1) (1+4) (U8 [a]++U8 (bZ t))):=hk1
 clear hk1 hown1
 have HG1:=ab hg1
 have HG2:=ab hg2
 clear hg1 hg2
 go_wp2_with (at_builtin;refine wpList_append_own _ rfl _ _ 44 rfl w1.heap.size 5 i0 (.int .u8 0) 1 1 Tryz.underlying44 hi hz0 hz1 hz2 rfl (by decide) (.slice (some ⟨g2,0,none⟩) 4 c2) 4 (U8 (bZ k)) rfl hown2 ⟨g1,0,none⟩ (1+4) c1 (U8 [a]++U8 (bZ t)) rfl (by simp[U8,bZ]) (HK.out.cells rfl) (by rw[<-lj];exact gW _) (by decide) (by decide) HG2.out.size ?_;intro v3 w3 hown3 hg3 _)
 have hg1:=HG1.out
 have hg2:=HG2.out
 obtain⟨g3,c3,rfl,hb3,hs3,hc3⟩:=dp hown3 (by decide)
 have e3:U8 (bZ k)++(U8 [a]++U8 (bZ t))=U8 (bZ k++gw a t):=by simp[U8,gw]
 rw[e3]at hown3
 have hf:Bytes (bZ k++gw a t):=(fT k).append (Bytes.cons ⟨a0,a1⟩ (fT t))
 have hlen:(bZ k++gw a t).length=4+(1+4):=by simp[bZ,gw]
 have hsum:=vX (bZ k++gw a t) hf g3 0 c3 w3 (by rw[hlen];decide) (dQ hown3)
 rw[hlen]at hsum
 refine hsum.mono ?_
 rintro e w4 ⟨rfl,rfl⟩
 have hr:=l5 (bZ k++gw a t)
 have hsz:g1<w2.heap.size:=Nat.lt_of_lt_of_le hs1 hg2.size
 have hk3:=HK.out.kept hg3 (Or.inr (by simp[Value.ownBlock];omega))
 go_wp2_with fail
 refine(eF _ hr.1 hr.2 w.heap.size _ (1+4) _ w3 hk3 (by have:=hg1.size;have:=hg2.size;have:=hg3.size;simp at *;omega) (by decide)).mono ?_
 rintro e w5 ⟨v5,rfl,hown5,hg5⟩
 go_wp2_with fail
 go_ret
 refine⟨_,rfl,?_,?_⟩
 ·have e5:U8 [a]++U8 (bZ t)++U8 (bZ (ng (bZ k++gw a t)))=U8 (bF k a t):=by simp[U8,bF,gw]
  rw[<-e5]
  exact hown5
 ·have b1:Below w.heap.size w w1:=(ag w _).grown hg1 (by simp) (fun g hg=>by simp[Value.ownBlock]at hg;omega)
  have b2:Below w.heap.size w w2:=b1.grown hg2 b1.size (fun g hg=>by simp[Value.ownBlock]at hg)
  have b3:Below w.heap.size w w3:=b2.grown hg3 b2.size (fun g hg=>by simp[Value.ownBlock]at hg;have:=b1.size;omega)
  exact b3.grown hg5 b3.size (fun g hg=>by simp[Value.ownBlock]at hg;omega)
theorem wProof_any(k a c:Int)(w:World)(k0:0<=k)(k1:k<4294967296)(a0:0<=a)(a1:a<256)(c0:0<=c)(cc:c<4294967296):
  Calls Tryz.prog 104 #[.int .i64 k,.int .i64 a,.int .i64 c] w fun e w'=>e=.returned (.int .i64 (ef k a c))/\Below w.heap.size w w':=by
 obtain⟨i0,hi,hz0,hz1,hz2⟩:=info_parts gn
 go_enter Tryz.func104,Tryz.ntmps104
 go_wp2_with fail
 refine(eF k k0 k1 w.heap.size _ 0 [] w (World.ownsRow_nil _ _ _ _) (Nat.le_refl _) (by decide)).mono ?_
 rintro e w1 ⟨v1,rfl,hown1,hg1⟩
 simp only[Nat.zero_add,List.nil_append]at hown1
 have hz:w.heap.size<=w1.heap.size:=hg1.size
 go_wp2_with (at_builtin;refine wpList_append_own _ rfl _ _ 44 rfl w.heap.size 5 i0 (.int .u8 0) 1 1 Tryz.underlying44 hi hz0 hz1 hz2 rfl (by decide) v1 4 (U8 (bZ k)) rfl (hown1.alloc _) ⟨w1.heap.size,0,none⟩ 2 2 (U8 [255,a]) rfl rfl (cJ w1 5 (U8 [255,a]) (by simp[U8,maxLen])) (gW _) (by decide) (by decide) (by simp;omega) ?_;intro v2 w2 hown2 hg2 _)
 have b2:Below w.heap.size w w2:=((fU hg1).alloc hz _).grown hg2 (by simp;omega) (fun g hg=>(hown1.lt g hg).1)
 refine(eF c c0 cc w.heap.size _ (4+2) _ w2 hown2 b2.size (by decide)).mono ?_
 rintro e w3 ⟨v3,rfl,hown3,hg3⟩
 have b3:Below w.heap.size w w3:=b2.grown hg3 b2.size (fun g hg=>(hown2.lt g hg).1)
 obtain⟨g3,c3,rfl,hb3,hs3,hc3⟩:=dp hown3 (by decide)
 have e3:U8 (bZ k)++U8 [255,a]++U8 (bZ c)=U8 (bZ k++[255,a]++bZ c):=by simp[U8]
 rw[e3]at hown3
 have hf:Bytes (bZ k++[255,a]++bZ c):=((fT k).append (Bytes.cons (by decide) (Bytes.cons ⟨a0,a1⟩ Bytes.nil))).append (fT c)
 have hlen:(bZ k++[255,a]++bZ c).length=4+2+4:=by simp[bZ]
 have hsum:=vX _ hf g3 0 c3 w3 (by rw[hlen];decide) (dQ hown3)
 rw[hlen]at hsum
 clear hg1 hg2 hg3 hown1 hown2 hown3
 go_wp2_with fail
 refine hsum.mono ?_
 rintro e w4 ⟨rfl,rfl⟩
 have hr:=l5 (bZ k++[255,a]++bZ c)
 have HP:Hid (ef k a c=ng (bZ k++[255,a]++bZ c)%1073741824):=rfl
 generalize ng (bZ k++[255,a]++bZ c)=s at hr HP⊢
 obtain⟨hr0,hr1⟩:=hr
 go_wp2_with fail
 go_ret
 exact⟨by rw[HP.out];rfl,b3⟩
structure Cfg where
 c0:Int
 c1:Int
 c2:Int
 c3:Int
 c4:Int
 c5:Int
 c6:Int
 c7:Int
 c8:Int
 c9:Int
theorem aF{w w':World}{base:Nat}{e:TypeId}{size:Nat}{v:Value}{n:Nat}{xs:List Value}(h:w.ownsRow base e size v n xs)(hb:Below w.heap.size w w'):w'.ownsRow base e size v n xs:=
 h.kept (iM hb none) (by cases v.ownBlock<;>simp)
theorem ai{w w1 w2:World}(h:Below w.heap.size w w1)(h2:Below w1.heap.size w1 w2):Below w.heap.size w w2:=h.trans (h2.mono h.size)
theorem ae{w w':World}{a:Addr}{v:Value}(h:w.cell? a=some v)(hb:Below w.heap.size w w'):w'.cell? a=some v:=by
 have:a.block<w.heap.size:=by
  rcases Nat.lt_or_ge a.block w.heap.size with h1|h1
  ·exact h1
  ·simp[World.cell?,Array.getElem?_eq_none h1]at h
 rw[hb.cell this];exact h
theorem aH{w:World}{base:Nat}{e:TypeId}{v:Value}{n:Nat}{xs:List Value}(h:w.ownsRow base e 1 v n xs):∃ao cap,v=.slice ao n cap:=by
 rcases h.2 with⟨rfl,rfl⟩|⟨g,cap,cur,rfl,_⟩
 ·exact⟨none,0,rfl⟩
 ·exact⟨_,_,rfl⟩
theorem im{w:World}{base:Nat}{e:TypeId}{v:Value}{n:Nat}{xs:List Value}(h:w.ownsRow base e 1 v n xs){g:Nat}(hg:v.ownBlock=some g):∃cur,w.heap[g]? =some (.cells cur e (0,0)):=by
 rcases h.2 with⟨rfl,rfl⟩|⟨g',cap,cur,rfl,_,hh,_⟩
 ·simp[Value.ownBlock]at hg
 ·simp[Value.ownBlock]at hg
  subst hg
  exact⟨cur,hh⟩
theorem qG{w:World}{b1:Nat}{e1 e2:TypeId}{v1:Value}{n1:Nat}{x1:List Value}{g:Nat}{cs:Array Value}{fr:Nat×Nat}(h1:w.ownsRow b1 e1 1 v1 n1 x1)(hg:w.heap[g]? =some (.cells cs e2 fr))(he:e1≠e2):v1.ownBlock≠some g:=by
 intro hv
 obtain⟨c1,e1'⟩:=im h1 hv
 rw[hg]at e1'
 simp only[Option.some.injEq,Obj.cells.injEq]at e1'
 exact he e1'.2.1.symm
end Go.Proofs.YthmdjhlhodpbhaaGreatDoor
