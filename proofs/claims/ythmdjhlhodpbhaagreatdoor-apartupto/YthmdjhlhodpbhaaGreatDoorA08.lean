/- Apart, 8 -/
import Derived.Lib.Overlaps
import Derived.Lib.AppendZeros
import Derived.Lib.AppendZerosOnto
import Derived.Laws.Externs
import Derived.Deep.DeepFit
import Derived.Test.YthmdjhlhodpbhaaGreatDoorA01
import Derived.Test.YthmdjhlhodpbhaaGreatDoorA05
set_option maxHeartbeats 16000000
set_option maxRecDepth 8000
namespace Go.Proofs.YthmdjhlhodpbhaaGreatDoor
open Go.RowKit
def zs2(n:Nat):List Value:=(List.replicate n [Value.int .i64 0,.slice none 0 0]).flatten
theorem dN(n:Nat):(zs2 n).length=n*2:=by simp[zs2]
theorem jC{w:World}{g n m c q:Nat}{cur:Array Value}{t:TypeId}{l':List bn}{R:List Value}(hg:w.heap[g]? =some (.cells cur t (0,0)))(hR:R.length=c*2)(hmc:m<=c)(hcm:c<=maxLen)(hl:l'.length=m)(htk:R.take (m*2)=aC l'):
  ((w.drewN q).setRow g R.toArray).ownsRow 0 t 2 (.slice (some ⟨g,0,none⟩) m c) m (aC l')/\w.grownBy ((w.drewN q).setRow g R.toArray) (Value.slice (some ⟨g,0,none⟩) n c).ownBlock:=
 ⟨⟨by rw[aE,hl],.inr ⟨g,c,_,rfl,Nat.zero_le _,setRow_heap (w.drewN q) g cur _ _ _ hg,hmc,hcm,by rw[List.size_toArray];exact hR,htk⟩⟩,
  ⟨rfl,rfl,rfl,by simp[World.setRow,World.drewN],fun k _ hk=>setRow_other (w.drewN q) g k _ (fun e=>hk (by simp[e,Value.ownBlock]))⟩⟩
theorem uD{cur cs zs:List Value}(hl:cs.length<=cur.length)(hc:2<=cs.length)(hz:zs.length=2):(ar (ar cur 0 (cs.drop 2)) (cs.length-2) zs).take (cs.length-2)=cs.drop 2:=by
 have hd:(cs.drop 2).length=cs.length-2:=List.length_drop
 have e0:=aG (l:=cur) (o:=0) (cs:=cs.drop 2) (by omega)
 apply List.ext_getElem?
 intro i
 rcases Nat.lt_or_ge i (cs.length-2) with hi|hi
 ·rw[List.getElem?_take_of_lt hi,di (by rw[e0,hz];omega),if_neg (by omega),di (by omega),if_pos (by omega),Nat.sub_zero]
 ·rw[List.getElem?_eq_none (by simp;omega),List.getElem?_eq_none (by simp;omega)]
def Shape(vs:List bn)(rl:List aO):Prop:=vs.length=rl.length/\∀(i:Nat) v r,vs[i]? =some v->rl[i]? =some r->v.1=r.1/\∃ao cap,v.2=.slice ao r.2.length cap/\r.2.length<=cap
theorem iq{α:Type}{p:α->Bool}:∀{l:List α} {k:Nat},k<=l.length->(∀(j:Nat) a,j<k->l[j]? =some a->p a=true)->(∀a,l[k]? =some a->p a=false)->(l.takeWhile p).length=k
 |[],k,hk,_,_=>by simp at hk;simp[hk]
 |a::l,0,_,_,h=>by
  have:=h a rfl
  simp[this]
 |a::l,k+1,hk,h1,h2=>by
  have h0:=h1 0 a (by omega) rfl
  rw[List.takeWhile_cons,h0]
  simp only[if_true,List.length_cons]
  rw[iq (by simpa using hk) (fun j b hj hb=>h1 (j+1) b (by omega) hb) (fun b hb=>h2 b hb)]
theorem jP{B:Nat}{w wr wq:World}(h:Below B w wr)(hq:Below wr.drew.heap.size wr.drew wq)(hB:B<=w.heap.size:=by simp):Below B w wq:=
 h.trans ((aq hq).mono (Nat.le_trans hB h.size))
theorem sy{rl:List aO}{a:aO}{k m:Nat}(hf:dX rl a=k)(hkm:k<=m)(hm:m<=rl.length)(h1:∀(j:Nat) r,k<=j->j<m->rl[j]? =some r->decide (r.1<=au a)=true)(h2:∀r,rl[m]? =some r->decide (r.1<=au a)=false):toR rl a=m:=by
 unfold toR
 rw[hf,iq (k:=m-k) (by simp;omega) (fun j r hj hr=>h1 (k+j) r (by omega) (by omega) (by rwa [List.getElem?_drop]at hr)) (fun r hr=>h2 r (by rw[List.getElem?_drop]at hr;rwa [show k+(m-k)=m from by omega]at hr))]
 omega
theorem ud:(Tryz.prog.info? 259).map (fun i=>(i.zero,i.size,i.bytes))=some (some (.agg #[.int .i64 0,.slice none 0 0]),2,32):=by kernel_rfl
theorem mg:(Tryz.prog.info? 259).map (·.size)=some 2:=by kernel_rfl
theorem fG(w:World):(Go.sizeOf 259).run Tryz.prog w=.ok 2 w:=by kernel_rfl
theorem x_overlaps(g vb o n1 c1 n2 c2:Nat)(w:World){a b:Array Value}{t1 t2:TypeId}(hne:vb≠g)(hg:w.heap[g]? =some (.cells a t1 (0,0)))(hv:w.heap[vb]? =some (.cells b t2 (0,0)))(ha:a.size≠0):
  (callFunc 242 #[.slice (some ⟨vb,0,none⟩) n1 c1,.slice (some ⟨g,o,none⟩) n2 c2]).run Tryz.prog w=.ok (.value (.bool false)) w:=by
 rw[run_callFunc_extern Tryz.func242 (by kernel_rfl) (by kernel_rfl) (by kernel_rfl) (e:=Extern.SlicesOverlaps.overlaps #[200,200] #[4]) (by kernel_rfl),
  Lib.run_overlaps_apart w 200 4 259 Tryz.underlying200 2 fG ⟨vb,0,none⟩ ⟨g,o,none⟩ n1 c1 n2 c2 hne t2 t1 b.size a.size (by simp[World.shape?,hv]) (by simp[World.shape?,hg]) ha (frozen_of_row w vb _ _ _ hv) (frozen_of_row w vb _ _ _ hv)]
 rfl
theorem rh(g n c i vb vc:Nat)(cur:Array Value)(xc cs:List Value)(w:World)(hg:w.heap[g]? =some (.cells cur 259 (0,0)))(hv:w.heap[vb]? =some (.cells xc.toArray 259 (0,0)))(hne:vb≠g)
  (hcl:cs.length=n*2) (hxl:xc.length=2) (htk:cur.toList.take (n*2)=cs) (hi:i<n) (hroom:n+1<=c) (hcs:cur.size=c*2) (hm:c<=maxLen) (h1:∀v∈cs,v.oneCell'=true) (h1x:∀v∈xc,v.oneCell'=true):
  Calls Tryz.prog 241 #[.slice (some ⟨g,0,none⟩) n c,.int .i64 i,.slice (some ⟨vb,0,none⟩) 1 vc] w fun e w'=>
   e=.returned (.slice (some ⟨g,0,none⟩) (n+1) c)/\∃q,w'=(w.drewN q).setRow g (ar (ar cur.toList ((i+1)*2) (cs.drop (i*2))) (i*2) xc).toArray:=by
 have hov:=fun o n1 c1 n2 c2=>x_overlaps g vb o n1 c1 n2 c2 w hne hg hv (by omega)
 unfold maxLen at hm
 have hw1:IntKind.i64.wrap ((i:Int)+1)=(i:Int)+1:=by rw[IntKind.wrap_i64];omega
 have hb1:(0:Int)<=(i:Int)+1:=by omega
 have hin:i<=n:=by omega
 have htn:((i:Int)+1).toNat=i+1:=by omega
 have hb2:¬(c=i+1):=by omega
 have hb3:(i:Int)<=(n:Int)+1:=by omega
 have hb4:¬(c=i):=by omega
 have u1:=run_underlying Tryz.underlying200
 have z1:=fG
 have hcur:n*2<=cur.toList.length:=by simp;omega
 have hdl:(cs.drop (i*2)).length=(n-i)*2:=by rw[List.length_drop,hcl];omega
 have hcp1:∀(W:World) (ty:TypeId) (dc sc:Nat),W.heap=w.heap->(Builtin.copy_ #[200,200] ty #[.slice (some ⟨g,(i+1)*2,none⟩) (n-i) dc,.slice (some ⟨g,i*2,none⟩) (n+1-i) sc]).run Tryz.prog W
   = .ok (goInt (Nat.min (n+1-i) (n-i))) (W.setRow g (ar cur.toList ((i+1)*2) (cs.drop (i*2))).toArray):=by
  intro W ty dc sc hW
  refine bB W 200 200 ty 259 g ((i+1)*2) (n-i) dc ⟨g,i*2,none⟩ (n+1-i) sc cur 259 (cs.drop (i*2)) 2 Tryz.underlying200 mg (by rw[hW];exact hg) ?_ ?_ ?_ ?_
  ·rw[hdl];simp only[Nat.min_def];split<;>omega
  ·intro j v hj
   have hj':=(lLt hj)
   rw[List.getElem?_drop,<-htk,List.getElem?_take_of_lt (by omega)]at hj
   rw[Addr.add_lit]
   simp only[World.cell?,hW,hg]
   simpa using hj
  ·rw[hdl,hcs];omega
  ·exact fun v hv=>h1 v (List.mem_of_mem_drop hv)
 have hcp2:∀(W:World) (ty:TypeId) (dc:Nat),W.heap=(w.setRow g (ar cur.toList ((i+1)*2) (cs.drop (i*2))).toArray).heap->(Builtin.copy_ #[200,200] ty #[.slice (some ⟨g,i*2,none⟩) (n+1-i) dc,.slice (some ⟨vb,0,none⟩) 1 vc]).run Tryz.prog W
   = .ok (goInt (Nat.min 1 (n+1-i))) (W.setRow g (ar (ar cur.toList ((i+1)*2) (cs.drop (i*2))) (i*2) xc).toArray):=by
  intro W ty dc hW
  have e1:=aG (l:=cur.toList) (o:=(i+1)*2) (cs:=cs.drop (i*2)) (by rw[hdl];simp;omega)
  have hgW:W.heap[g]? =some (.cells (ar cur.toList ((i+1)*2) (cs.drop (i*2))).toArray 259 (0,0)):=by rw[hW];exact setRow_heap w g cur _ _ _ hg
  have h2:=bB W 200 200 ty 259 g (i*2) (n+1-i) dc ⟨vb,0,none⟩ 1 vc _ 259 xc 2 Tryz.underlying200 mg hgW (by rw[hxl];simp only[Nat.min_def];split<;>omega) ?_ ?_ h1x
  ·simpa using h2
  ·intro j v hj
   rw[Addr.add_lit]
   have:W.heap[vb]? =w.heap[vb]?:=by rw[hW];exact setRow_other w g vb _ hne
   simp only[World.cell?,this,hv]
   simpa using hj
  ·simp only[List.size_toArray];rw[e1,hxl];simp;omega
 have HC1:=ab hcp1
 have HC2:=ab hcp2
 clear hcp1 hcp2
 go_enter Tryz.func241,Tryz.ntmps241
 go_wp2_with (simp only[hov])
 go_region_law (refine cq rfl (.tmp 73) (.tmp 76) 200 200 rfl (.slice (some ⟨g,(i+1)*2,none⟩) (n-i) (c-(i+1))) (.slice (some ⟨g,i*2,none⟩) (n+1-i) (c-i)) (by kernel_rfl) (by kernel_rfl) (HC1.out _ _ _ _ rfl) ?_;generalize hW1:World.setRow _ g _=W1;replace hW1:=ab hW1;refine Hid.out ?_;refine ab ?_)
 have HQ:Hid (W1.heap=(w.setRow g (ar cur.toList ((i+1)*2) (cs.drop (i*2))).toArray).heap):=by show _=_;rw[<-hW1.out];rfl
 go_wp2_with (refine dF rfl _ _ 200 200 rfl _ _ rfl rfl (HC2.out _ _ _ HQ.out) ?_;generalize hW2:World.setRow _ g _=W2;replace hW2:=ab hW2)
 go_ret
 refine⟨rfl,1,?_⟩
 rw[<-hW2.out,<-hW1.out,setRow_setRow]
 rfl
theorem tY(n vb vc:Nat)(lv:Value)(cs xc:List Value)(w:World)(hown:w.ownsRow 0 259 2 lv n cs)(hv:w.heap[vb]? =some (.cells xc.toArray 259 (0,0)))(hxl:xc.length=2)(h1x:∀v∈xc,v.oneCell'=true)(hn:n<=1000):
  Calls Tryz.prog 241 #[lv,.int .i64 n,.slice (some ⟨vb,0,none⟩) 1 vc] w fun e w'=>
   ∃lv',e=.returned lv'/\w'.ownsRow 0 259 2 lv' (n+1) (cs++xc)/\w.grownBy w' lv.ownBlock/\(lv'.ownBlock=lv.ownBlock\/∀g,lv'.ownBlock=some g->w.heap.size<=g):=by
 obtain⟨i0,hi,hz0,hz1,hz2⟩:=info_parts ud
 obtain⟨lv',w',hrun,r1,r2,r3⟩:=eJ (P:=Tryz.prog) w 0 200 200 259 i0 _ 2 32 Tryz.underlying200 hi hz0 hz1 hz2 rfl (by decide) lv n cs hown ⟨vb,0,none⟩ 1 vc xc (by omega) (fun j u hj=>by
  rw[Addr.add_lit]
  simp only[World.cell?,hv]
  simpa using hj) h1x (by unfold maxLen;omega) (by omega) (Nat.zero_le _)
 have HR:=ab hrun
 have R1:=ab r1
 have R2:=ab r2
 have R3:=ab r3
 obtain⟨ao,cap,rfl⟩:=bd hown
 obtain⟨ao',cap',rfl⟩:=bd r1
 clear hrun r1 r2 r3 hown hv
 cases ao with
 |none=>
  go_enter Tryz.func241,Tryz.ntmps241
  go_wp2_with (at_builtin;refine aS rfl _ _ 200 200 rfl _ _ rfl rfl HR.out ?_;refine Hid.out ?_)
  refine ab ?_
  go_wp2
  go_ret
  exact⟨_,rfl,R1.out,R2.out,R3.out⟩
 |some a=>
  go_enter Tryz.func241,Tryz.ntmps241
  go_wp2_with (at_builtin;refine aS rfl _ _ 200 200 rfl _ _ rfl rfl HR.out ?_;refine Hid.out ?_)
  all_goals
   refine ab ?_
   go_wp2
   go_ret
   exact⟨_,rfl,R1.out,R2.out,R3.out⟩
theorem rf(g n c i vb vc:Nat)(cur:Array Value)(xc cs:List Value)(w:World)(hg:w.heap[g]? =some (.cells cur 259 (0,0)))(hv:w.heap[vb]? =some (.cells xc.toArray 259 (0,0)))
  (hcl:cs.length=n*2) (hxl:xc.length=2) (htk:cur.toList.take (n*2)=cs) (hi:i<n) (hroom:c<n+1) (hnc:n<=c) (hn:n<=1000) (h1:∀v∈cs,v.oneCell'=true) (h1x:∀v∈xc,v.oneCell'=true):
  Calls Tryz.prog 241 #[.slice (some ⟨g,0,none⟩) n c,.int .i64 i,.slice (some ⟨vb,0,none⟩) 1 vc] w fun e w'=>
   ∃lv',e=.returned lv'/\w'.ownsRow w.heap.size 259 2 lv' (n+1) (cs.take (i*2)++xc++cs.drop (i*2))/\Below w.heap.size w w':=by
 obtain⟨i0,hi0,hz0,hz1,hz2⟩:=info_parts ud
 have hgl:g<w.heap.size:=(aLt hg)
 have hvl:vb<w.heap.size:=(aLt hv)
 have hcg:∀j v,cs[j]? =some v->w.cell? ⟨g,j,none⟩= some v:=fun j v hj=>by
  have hj':=(lLt hj)
  rw[<-htk,List.getElem?_take_of_lt (by omega)]at hj
  simp only[World.cell?,hg]
  simpa using hj
 have hcv:∀j v,xc[j]? =some v->w.cell? ⟨vb,j,none⟩= some v:=fun j v hj=>by
  simp only[World.cell?,hv]
  simpa using hj
 have hold:(Builtin.firstCells i0.size i (.slice (some ⟨g,0,none⟩) i c)).run Tryz.prog w.drew=.ok (cs.take (i*2)).toArray w.drew:=by
  rw[hz1]
  exact run_firstCells_some w.drew 2 i ⟨g,0,none⟩ i c (cs.take (i*2)) (by rw[List.length_take];omega) (fun j v hj=>by
   rw[Addr.add_lit,Nat.zero_add]
   rw[List.getElem?_take]at hj
   split at hj
   ·exact hcg j v hj
   ·cases hj)
 obtain⟨G,hG⟩:∃G,G=grownCap w (n+1) c 259:=⟨_,rfl⟩
 have hGn:n+1<=G:=by rw[hG];exact grownCap_ge w _ _ _
 have hGm:G<=maxLen:=by rw[hG];exact grownCap_le_maxLen w (n+1) c 259 (by unfold maxLen;omega)
 obtain⟨ROW,hROW⟩:∃ROW:Array Value,ROW=(cs.take (i*2)).toArray++Builtin.zeroCells (Value.agg #[.int .i64 0,.slice none 0 0]).cells (n+1-i)++Builtin.zeroCells (Value.agg #[.int .i64 0,.slice none 0 0]).cells (G-(n+1)):=⟨_,rfl⟩
 have hRs:ROW.size=G*2:=by
  rw[hROW]
  simp only[Array.size_append,List.size_toArray,size_zeroCells,List.length_take,hcl]
  rw[show(Value.agg #[.int .i64 0,.slice none 0 0]:Value).cells.size=2 from rfl]
  omega
 have hRt:∀j,j<i*2->ROW.toList[j]? =cs[j]?:=fun j hj=>by
  rw[hROW]
  simp only[Array.toList_append,List.append_assoc]
  rw[List.getElem?_append_left (by simp;omega),List.getElem?_take_of_lt hj]
 have hkk:(n:Int)+1-(i:Int)=((n+1-i:Nat):Int):=by omega
 have hik:i+(n+1-i)=n+1:=by omega
 have hrz:∀ty,(Builtin.append_ #[200,3] ty #[.slice (some ⟨g,0,none⟩) i c,.int .i64 ((n:Int)+1-(i:Int))]).run Tryz.prog w=.ok (.slice (some ⟨w.heap.size,0,none⟩) (n+1) G) (w.drew.alloc (.cells ROW 259)):=fun ty=>by
  have h:=Lib.run_append_grow_zeros w 200 3 ty 259 i0 _ .i64 .i64 Tryz.underlying200 Tryz.underlying3 hi0 hz0 (some ⟨g,0,none⟩) i c (cs.take (i*2)) hold (n+1-i) (by omega) (by omega) (by omega) (by omega) (by rw[hz2];omega) (by rw[hz2,hik];exact growslice_fits hroom (by omega))
  rw[hik,<-hG,<-hROW]at h
  rw[hkk]
  exact h
 have hdl:(cs.drop (i*2)).length=(n-i)*2:=by rw[List.length_drop,hcl];omega
 have HA:=ab hrz
 have HC1:Hid (∀(W:World) (ty:TypeId) (dc:Nat),W.heap=(w.alloc (.cells ROW 259)).heap->(Builtin.copy_ #[200,200] ty #[.slice (some ⟨w.heap.size,i*2,none⟩) (n+1-i) dc,.slice (some ⟨vb,0,none⟩) 1 vc]).run Tryz.prog W
   = .ok (goInt (Nat.min 1 (n+1-i))) (W.setRow w.heap.size (ar ROW.toList (i*2) xc).toArray)):=by
  intro W ty dc hW
  refine bB W 200 200 ty 259 w.heap.size (i*2) (n+1-i) dc ⟨vb,0,none⟩ 1 vc ROW 259 xc 2 Tryz.underlying200 mg (by rw[hW];exact heap_alloc_new w _) (by rw[hxl];simp only[Nat.min_def];split<;>omega) ?_ ?_ h1x
  ·intro j v hj
   rw[Addr.add_lit,Nat.zero_add]
   have:W.heap[vb]? =w.heap[vb]?:=by rw[hW];exact Below.heap_alloc _ _ _ hvl
   rw[<-hcv j v hj]
   simp only[World.cell?,this]
  ·rw[hxl,hRs];omega
 have e1:=aG (l:=ROW.toList) (o:=i*2) (cs:=xc) (by simp;omega)
 have HC2:Hid (∀(W:World) (ty:TypeId) (dc sc:Nat),W.heap=((w.alloc (.cells ROW 259)).setRow w.heap.size (ar ROW.toList (i*2) xc).toArray).heap->(Builtin.copy_ #[200,200] ty #[.slice (some ⟨w.heap.size,(i+1)*2,none⟩) (n-i) dc,.slice (some ⟨g,i*2,none⟩) (n-i) sc]).run Tryz.prog W
   = .ok (goInt (Nat.min (n-i) (n-i))) (W.setRow w.heap.size (ar (ar ROW.toList (i*2) xc) ((i+1)*2) (cs.drop (i*2))).toArray)):=by
  intro W ty dc sc hW
  have hgW:W.heap[w.heap.size]? =some (.cells (ar ROW.toList (i*2) xc).toArray 259 (0,0)):=by rw[hW];exact setRow_heap _ _ ROW _ _ _ (heap_alloc_new w _)
  have h2:=bB W 200 200 ty 259 w.heap.size ((i+1)*2) (n-i) dc ⟨g,i*2,none⟩ (n-i) sc _ 259 (cs.drop (i*2)) 2 Tryz.underlying200 mg hgW (by rw[hdl];simp only[Nat.min_def];split<;>omega) ?_ ?_ (fun v hv=>h1 v (List.mem_of_mem_drop hv))
  ·simpa using h2
  ·intro j v hj
   rw[List.getElem?_drop]at hj
   rw[Addr.add_lit]
   have:W.heap[g]? =w.heap[g]?:=by rw[hW,setRow_other _ _ _ _ (by omega)];exact Below.heap_alloc _ _ _ hgl
   rw[<-hcg _ v hj]
   simp only[World.cell?,this]
  ·simp only[List.size_toArray];rw[e1,hdl];simp;omega
 have hfin:(ar (ar ROW.toList (i*2) xc) ((i+1)*2) (cs.drop (i*2))).take ((n+1)*2)=cs.take (i*2)++xc++cs.drop (i*2):=by
  apply List.ext_getElem?
  intro j
  rcases Nat.lt_or_ge j ((n+1)*2) with hj|hj
  ·rw[List.getElem?_take_of_lt hj,di (by rw[e1,hdl];simp;omega),di (by simp;omega),List.append_assoc]
   rcases Nat.lt_or_ge j (i*2) with h1|h1
   ·rw[if_neg (by omega),if_neg (by omega),List.getElem?_append_left (by simp;omega),List.getElem?_take_of_lt h1]
    exact hRt j h1
   ·rw[List.getElem?_append_right (by simp;omega),List.length_take,Nat.min_eq_left (by omega)]
    rcases Nat.lt_or_ge j ((i+1)*2) with h2|h2
    ·rw[if_neg (by omega),if_pos (by omega),List.getElem?_append_left (by omega)]
    ·rw[if_pos (by rw[hdl];omega),List.getElem?_append_right (by omega)]
     congr 1
     omega
  ·rw[List.getElem?_eq_none (by simp;omega),List.getElem?_eq_none (by simp;omega)]
 have hlast:(ar (ar ROW.toList (i*2) xc) ((i+1)*2) (cs.drop (i*2))).length=G*2:=by rw[aG (by rw[e1,hdl];simp;omega),e1];simp;omega
 have HF:=ab hfin
 have HL:=ab hlast
 unfold maxLen at hGm
 have hw1:IntKind.i64.wrap ((i:Int)+1)=(i:Int)+1:=by rw[IntKind.wrap_i64];omega
 have hb1:(0:Int)<=(i:Int)+1:=by omega
 have hin:i<=n:=by omega
 have htn:((i:Int)+1).toNat=i+1:=by omega
 have hb2:¬(G=i+1):=by omega
 have hb3:(i:Int)<=(n:Int)+1:=by omega
 have hb4:¬(c=i):=by omega
 have hb5:¬(G=i):=by omega
 have hb6:(c:Int)<(n:Int)+1:=by omega
 have hb7:(i:Int)<=(n:Int):=by omega
 have u1:=run_underlying Tryz.underlying200
 have z1:=fG
 clear hold hROW hrz hkk hik hcg hcv hRt hfin hlast e1 hG
 go_enter Tryz.func241,Tryz.ntmps241
 go_wp2_with (first |(at_builtin;refine aS rfl _ _ 200 3 rfl _ _ rfl rfl (HA.out _) ?_;refine Hid.out ?_))
 refine ab ?_
 generalize hW1:(w.alloc (.cells ROW 259)).drew=W1
 have HQ:Hid (W1.heap=(w.alloc (.cells ROW 259)).heap):=by show _=_;rw[<-hW1];rfl
 replace hW1:=ab hW1
 go_wp2_with (refine dF rfl _ _ 200 200 rfl (.slice (some ⟨w.heap.size,i*2,none⟩) (n+1-i) (G-i)) (.slice (some ⟨vb,0,none⟩) 1 vc) (by kernel_rfl) (by kernel_rfl) (HC1.out W1 3 (G-i) HQ.out) ?_;refine Hid.out ?_)
 refine ab ?_
 generalize hW2:World.setRow _ w.heap.size _=W2
 replace hW2:=ab hW2
 have HQ2:Hid (∀m:World,m.heap=W2.heap->m.heap=((w.alloc (.cells ROW 259)).setRow w.heap.size (ar ROW.toList (i*2) xc).toArray).heap):=by
  intro m hm
  rw[hm,<-hW2.out,<-hW1.out]
  rfl
 go_wp2_with fail
 go_region_law (refine cq rfl (.tmp 50) (.tmp 53) 200 200 rfl (.slice (some ⟨w.heap.size,(i+1)*2,none⟩) (n-i) (G-(i+1))) (.slice (some ⟨g,i*2,none⟩) (n-i) (c-i)) (by kernel_rfl) (by kernel_rfl) (HC2.out _ _ _ _ (HQ2.out _ rfl)) ?_;generalize hW3:World.setRow _ w.heap.size _=W3;replace hW3:=ab hW3;refine Hid.out ?_;refine ab ?_)
 go_wp2_with fail
 go_ret
 have hW3':W3=(w.alloc (.cells ROW 259)).drew.drew.setRow w.heap.size (ar (ar ROW.toList (i*2) xc) ((i+1)*2) (cs.drop (i*2))).toArray:=by
  rw[<-hW3.out,<-hW2.out,<-hW1.out]
  exact setRow_setRow (w.alloc (.cells ROW 259)).drew.drew w.heap.size (ar ROW.toList (i*2) xc).toArray _
 have hgW:W3.heap[w.heap.size]? =some (.cells (ar (ar ROW.toList (i*2) xc) ((i+1)*2) (cs.drop (i*2))).toArray 259 (0,0)):=by rw[hW3'];exact setRow_heap _ _ ROW _ _ _ (show(w.alloc (.cells ROW 259)).drew.drew.heap[w.heap.size]? =_ from heap_alloc_new w _)
 refine⟨_,rfl,⟨by simp only[List.length_append,List.length_take,hdl,hxl,hcl];omega,.inr ⟨w.heap.size,G,_,rfl,Nat.le_refl _,hgW,hGn,by unfold maxLen;omega,?_,HF.out⟩⟩,?_⟩
 ·rw[List.size_toArray];exact HL.out
 ·rw[hW3']
  refine⟨rfl,rfl,rfl,by simp[World.setRow],fun k hk=>?_⟩
  rw[setRow_other _ _ _ _ (by omega)]
  exact Below.heap_alloc w _ _ hk
theorem tX(l:List bn)(x:bn)(i vb vc:Nat)(lv:Value)(w:World)(hown:w.ownsRow 0 259 2 lv l.length (aC l))(hv:w.heap[vb]? =some (.cells #[.int .i64 x.1,x.2] 259 (0,0)))(hne:lv.ownBlock≠some vb)(hi:i<=l.length)(hn:l.length<=1000)
  (h1:∀r∈l,r.2.oneCell'=true) (hx:x.2.oneCell'=true):
  Calls Tryz.prog 241 #[lv,.int .i64 i,.slice (some ⟨vb,0,none⟩) 1 vc] w fun e w'=>
   ∃lv',e=.returned lv'/\w'.ownsRow 0 259 2 lv' (l.length+1) (aC (l.take i++x::l.drop i))/\w.grownBy w' lv.ownBlock/\(lv'.ownBlock=lv.ownBlock\/∀g,lv'.ownBlock=some g->w.heap.size<=g):=by
 have hxo:∀v∈[Value.int .i64 x.1,x.2],v.oneCell'=true:=by
  intro v hv
  simp only[List.mem_cons,List.not_mem_nil,or_false]at hv
  rcases hv with rfl|rfl
  ·rfl
  ·exact hx
 have hfin:aC (l.take i++x::l.drop i)=(aC l).take (i*2)++[.int .i64 x.1,x.2]++(aC l).drop (i*2):=by rw[eG,de,iP,iO,List.append_assoc]
 rcases Nat.lt_or_eq_of_le hi with hlt|rfl
 ·rcases hown.2 with⟨_,h0⟩|⟨g,cap,cur,rfl,_,hg,hnc,hcm,hcs,htk⟩
  ·omega
  ·have hne':vb≠g:=fun e=>hne (by simp[Value.ownBlock,e])
   by_cases hroom:l.length+1<=cap
   ·refine(rh g l.length cap i vb vc cur [.int .i64 x.1,x.2] (aC l) w hg hv hne' (aE l) rfl htk hlt hroom hcs hcm (eR h1) hxo).mono ?_
    rintro e w' ⟨rfl,q,rfl⟩
    have e1:=aG (l:=cur.toList) (o:=(i+1)*2) (cs:=(aC l).drop (i*2)) (by rw[List.length_drop,aE];simp;omega)
    have e2:=aG (l:=ar cur.toList ((i+1)*2) ((aC l).drop (i*2))) (o:=i*2) (cs:=[.int .i64 x.1,x.2]) (by rw[e1];simp;omega)
    refine⟨_,rfl,⟨by rw[aE];simp;omega,.inr ⟨g,cap,_,rfl,Nat.zero_le _,setRow_heap (w.drewN q) g cur _ _ _ hg,hroom,hcm,?_,?_⟩⟩,⟨rfl,rfl,rfl,by simp[World.setRow,World.drewN],fun k _ hk=>setRow_other (w.drewN q) g k _ (fun e=>hk (by simp[e,Value.ownBlock]))⟩,Or.inl rfl⟩
    ·rw[List.size_toArray,e2,e1];simpa using hcs
    ·rw[hfin]
     have h3:=uZ (cur:=cur.toList) (cs:=aC l) (xc:=[.int .i64 x.1,x.2]) (a:=i*2) (by rw[aE];exact htk) (by rw[aE];omega) (by rw[aE];simp;omega)
     rw[aE]at h3
     rw[show(i+1)*2=i*2+[Value.int .i64 x.1,x.2].length from by simp;omega,show(l.length+1)*2=l.length*2+[Value.int .i64 x.1,x.2].length from by simp;omega]
     exact h3
   ·refine(rf g l.length cap i vb vc cur [.int .i64 x.1,x.2] (aC l) w hg hv (aE l) rfl htk hlt (by omega) hnc hn (eR h1) hxo).mono ?_
    rintro e w' ⟨lv',rfl,ho,hb⟩
    exact⟨lv',rfl,by rw[hfin];exact ch ho (Nat.zero_le _),iM hb _,Or.inr fun k hk=>(ho.lt k hk).1⟩
 ·refine(tY l.length vb vc lv (aC l) [.int .i64 x.1,x.2] w hown hv rfl hxo hn).mono ?_
  rintro e w' ⟨lv',rfl,ho,hg,ha⟩
  refine⟨lv',rfl,?_,hg,ha⟩
  rw[List.take_length,List.drop_length,eG]
  exact ho
theorem x_zero(w:World):(zeroValue 259).run Tryz.prog w=.ok (.agg #[.int .i64 0,.slice none 0 0]) w:=by kernel_rfl
theorem tZ(g o n c:Nat)(cur:Array Value)(W:World)(hg:W.heap[g]? =some (.cells cur 259 (0,0)))(hfit:o+n*2<=cur.size)(ty:TypeId):
  ∃W',(Builtin.clear_ #[200] ty #[.slice (some ⟨g,o,none⟩) n c]).run Tryz.prog W=.ok (.tuple #[]) W'/\W'=W.setRow g (ar cur.toList o (zs2 n)).toArray:=by
 rcases Nat.eq_zero_or_pos n with rfl|hn
 ·refine⟨W,?_,?_⟩
  ·simp[Builtin.clear_,run_underlying Tryz.underlying200]
  ·have:ar cur.toList o (zs2 0)=cur.toList:=by simp[ar,zs2]
   rw[this]
   exact(setRow_self W g cur _ _ hg).symm
 ·refine⟨_,?_,rfl⟩
  have h:=iI (P:=Tryz.prog) W 200 259 ty _ Tryz.underlying200 (x_zero W) g o n c hn cur 259 hg (by rw[show(Value.agg #[.int .i64 0,.slice none 0 0]:Value).cells.size=2 from rfl];exact hfit) (by
   intro v hv
   have hv':v∈[Value.int .i64 0,.slice none 0 0]:=hv
   simp only[List.mem_cons,List.not_mem_nil,or_false]at hv'
   rcases hv' with rfl|rfl<;>rfl)
  exact h
set_option maxRecDepth 100000 in
theorem rm(g n c i j vb vc:Nat)(cur:Array Value)(xc cs:List Value)(w:World)(hg:w.heap[g]? =some (.cells cur 259 (0,0)))(hv:w.heap[vb]? =some (.cells xc.toArray 259 (0,0)))
  (hcl:cs.length=n*2) (hxl:xc.length=2) (htk:cur.toList.take (n*2)=cs) (hij:i<j) (hj:j<n) (hnc:n<=c) (hcs:cur.size=c*2) (hn:n<=1000) (hm:c<=maxLen) (h1:∀v∈cs,v.oneCell'=true) (h1x:∀v∈xc,v.oneCell'=true):
  Calls Tryz.prog 239 #[.slice (some ⟨g,0,none⟩) n c,.int .i64 i,.int .i64 j,.slice (some ⟨vb,0,none⟩) 1 vc] w fun e w'=>
   e=.returned (.slice (some ⟨g,0,none⟩) (i+1+(n-j)) c)/\∃q,w'=(w.drewN q).setRow g (ar (ar (ar cur.toList (i*2) xc) ((i+1)*2) (cs.drop (j*2))) ((i+1+(n-j))*2) (zs2 (n-(i+1+(n-j))))).toArray:=by
 have hdl:(cs.drop (j*2)).length=(n-j)*2:=by rw[List.length_drop,hcl];omega
 have e1:=aG (l:=cur.toList) (o:=i*2) (cs:=xc) (by simp;omega)
 have e2:=aG (l:=ar cur.toList (i*2) xc) (o:=(i+1)*2) (cs:=cs.drop (j*2)) (by rw[e1,hdl];simp;omega)
 have HC1:Hid (∀(W:World) (ty:TypeId) (m dc:Nat),1<=m->W.heap=w.heap->(Builtin.copy_ #[200,200] ty #[.slice (some ⟨g,i*2,none⟩) m dc,.slice (some ⟨vb,0,none⟩) 1 vc]).run Tryz.prog W
   = .ok (goInt 1) (W.setRow g (ar cur.toList (i*2) xc).toArray)):=by
  intro W ty m dc hm hW
  have e:Nat.min 1 m=1:=by simp only[Nat.min_def];split<;>omega
  have h2:=bB W 200 200 ty 259 g (i*2) m dc ⟨vb,0,none⟩ 1 vc cur 259 xc 2 Tryz.underlying200 mg (by rw[hW];exact hg) (by rw[hxl,e]) ?_ ?_ h1x
  ·rw[e]at h2;exact h2
  ·intro k v hk
   rw[Addr.add_lit,Nat.zero_add]
   simp only[World.cell?,hW,hv]
   simpa using hk
  ·rw[hxl,hcs];omega
 have HC2:Hid (∀(W:World) (ty:TypeId) (m dc sc:Nat),m=n-j->W.heap=(w.setRow g (ar cur.toList (i*2) xc).toArray).heap->(Builtin.copy_ #[200,200] ty #[.slice (some ⟨g,(i+1)*2,none⟩) m dc,.slice (some ⟨g,j*2,none⟩) (n-j) sc]).run Tryz.prog W
   = .ok (goInt (n-j:Nat)) (W.setRow g (ar (ar cur.toList (i*2) xc) ((i+1)*2) (cs.drop (j*2))).toArray)):=by
  intro W ty m dc sc hm hW
  have e:Nat.min (n-j) m=n-j:=by rw[hm];exact Nat.min_self _
  have hgW:W.heap[g]? =some (.cells (ar cur.toList (i*2) xc).toArray 259 (0,0)):=by rw[hW];exact setRow_heap _ _ cur _ _ _ hg
  have h2:=bB W 200 200 ty 259 g ((i+1)*2) m dc ⟨g,j*2,none⟩ (n-j) sc _ 259 (cs.drop (j*2)) 2 Tryz.underlying200 mg hgW (by rw[hdl,e]) ?_ ?_ (fun v hv=>h1 v (List.mem_of_mem_drop hv))
  ·rw[e]at h2
   simpa using h2
  ·intro k v hk
   have hk':=(lLt hk)
   rw[List.getElem?_drop,<-htk,List.getElem?_take_of_lt (by omega)]at hk
   rw[Addr.add_lit]
   simp only[World.cell?,hgW]
   rw[List.getElem?_toArray,di (by simp;omega),if_neg (show ¬(i*2<=j*2+k/\j*2+k<i*2+xc.length) from by omega)]
   exact hk
  ·simp only[List.size_toArray];rw[e1,hdl];simp;omega
 have HC3:Hid (∀(W:World) (ty:TypeId) (o m dc:Nat),(o=(i+1+(n-j))*2\/m=0)->m=n-(i+1+(n-j))->W.heap=(w.setRow g (ar (ar cur.toList (i*2) xc) ((i+1)*2) (cs.drop (j*2))).toArray).heap->(Builtin.clear_ #[200] ty #[.slice (some ⟨g,o,none⟩) m dc]).run Tryz.prog W
   = .ok (.tuple #[]) (W.setRow g (ar (ar (ar cur.toList (i*2) xc) ((i+1)*2) (cs.drop (j*2))) ((i+1+(n-j))*2) (zs2 (n-(i+1+(n-j))))).toArray)):=by
  intro W ty o m dc ho hm hW
  have hgW:W.heap[g]? =some (.cells (ar (ar cur.toList (i*2) xc) ((i+1)*2) (cs.drop (j*2))).toArray 259 (0,0)):=by rw[hW];exact setRow_heap _ _ cur _ _ _ hg
  rcases ho with ho|ho
  ·subst ho hm
   obtain⟨W',h1,rfl⟩:=tZ g ((i+1+(n-j))*2) (n-(i+1+(n-j))) dc _ W hgW (by rw[List.size_toArray,e2,e1];simp;omega) ty
   exact h1
  ·subst ho
   have e3:ar (ar (ar cur.toList (i*2) xc) ((i+1)*2) (cs.drop (j*2))) ((i+1+(n-j))*2) (zs2 (n-(i+1+(n-j))))=ar (ar cur.toList (i*2) xc) ((i+1)*2) (cs.drop (j*2)):=by
    rw[<-hm]
    generalize ar (ar cur.toList (i*2) xc) ((i+1)*2) (cs.drop (j*2))=q
    simp[ar,zs2]
   rw[e3,setRow_self W g _ _ _ hgW]
   simp[Builtin.clear_,run_underlying Tryz.underlying200]
 unfold maxLen at hm
 have hw1:IntKind.i64.wrap ((i:Int)+1)=(i:Int)+1:=by rw[IntKind.wrap_i64];omega
 have hb1:(0:Int)<=(i:Int)+1:=by omega
 have htn:((i:Int)+1).toNat=i+1:=by omega
 have hb2:¬(c=i+1):=by omega
 have hb4:¬(c=i):=by omega
 have hb5:¬(c=j):=by omega
 have hbq:((i:Int)==(j:Int))=false:=beq_eq_false_iff_ne.2 (by omega)
 have hbr:((j:Int)==(n:Int))=false:=beq_eq_false_iff_ne.2 (by omega)
 have hwT:IntKind.i64.wrap ((i:Int)+1+((n-j:Nat):Int))=(i:Int)+1+((n-j:Nat):Int):=by rw[IntKind.wrap_i64];omega
 have hT2:¬((c:Int)<(i:Int)+1+((n-j:Nat):Int)):=by omega
 have hT3:(i:Int)+1+((n-j:Nat):Int)<=(c:Int):=by omega
 have hT4:(i:Int)+1+((n-j:Nat):Int)<=(n:Int):=by omega
 have hbi:(i:Int)<=(c:Int):=by omega
 have hbj:(j:Int)<=(n:Int):=by omega
 have hbij:(i:Int)<=(j:Int):=by omega
 have hbjc:(j:Int)<=(c:Int):=by omega
 have hbq1:(i:Int)+1<=(i:Int)+1+((n-j:Nat):Int):=by omega
 have hbi1j:(i:Int)+1<=(j:Int):=by omega
 have u1:=run_underlying Tryz.underlying200
 have z1:=fG
 clear e1 e2
 go_enter Tryz.func239,Tryz.ntmps239
 go_wp2_with fail
 go_quiet (fail)
 generalize hW0:w.drewN _=W0
 have HQ0:Hid (W0.heap=w.heap):=by show _=_;rw[<-hW0];rfl
 replace hW0:=ab hW0
 go_wp2_with (refine dF rfl _ _ 200 200 rfl _ _ rfl rfl (HC1.out W0 _ _ _ (by omega) HQ0.out) ?_;refine Hid.out ?_)
 refine ab ?_
 generalize hW1:World.setRow W0 g _=W1
 have HQ1:Hid (∀m:World,m.heap=W1.heap->m.heap=(w.setRow g (ar cur.toList (i*2) xc).toArray).heap):=by
  intro m hm
  rw[hm,<-hW1]
  simp only[World.setRow,HQ0.out]
 replace hW1:=ab hW1
 go_wp2_with fail
 go_region_law (refine cq rfl (.tmp 103) (.tmp 106) 200 200 rfl (.slice (some ⟨g,(i+1)*2,none⟩) (n-j) (c-(i+1))) (.slice (some ⟨g,j*2,none⟩) (n-j) (c-j)) (by kernel_rfl) (by kernel_rfl) (HC2.out _ _ _ _ _ rfl (HQ1.out _ rfl)) ?_;generalize hW2:World.setRow _ g _=W2;replace hW2:=ab hW2;refine Hid.out ?_;refine ab ?_)
 have HQ2:Hid (∀m:World,m.heap=W2.heap->m.heap=(w.setRow g (ar (ar cur.toList (i*2) xc) ((i+1)*2) (cs.drop (j*2))).toArray).heap):=by
  intro m hm
  rw[hm,<-hW2.out]
  exact(kX (HQ1.out _ rfl) g _).trans (congrArg World.heap (setRow_setRow w g _ _))
 have hfin:Hid (∃q,W2.setRow g (ar (ar (ar cur.toList (i*2) xc) ((i+1)*2) (cs.drop (j*2))) ((i+1+(n-j))*2) (zs2 (n-(i+1+(n-j))))).toArray=(w.drewN q).setRow g (ar (ar (ar cur.toList (i*2) xc) ((i+1)*2) (cs.drop (j*2))) ((i+1+(n-j))*2) (zs2 (n-(i+1+(n-j))))).toArray):=by
  refine⟨nq+1,?_⟩
  rw[<-hW2.out,<-hW1.out,<-hW0.out,setRow_setRow]
  exact setRow_setRow (w.drewN (nq+1)) g (ar cur.toList (i*2) xc).toArray _
 by_cases hcT:c=i+1+(n-j)
 all_goals
  go_wp2_with (refine bV rfl _ 200 rfl _ rfl (HC3.out W2 _ _ _ _ (by omega) (by omega) (HQ2.out _ rfl)) ?_;refine Hid.out ?_)
  refine ab ?_
  go_wp2_with fail
  go_ret
  obtain⟨q,hq⟩:=hfin.out
  exact⟨by first|rfl |(rw[hcT];rfl),q,hq⟩
set_option maxRecDepth 100000 in
theorem qp(g n c i vb vc:Nat)(cur:Array Value)(xc:List Value)(w:World)(hg:w.heap[g]? =some (.cells cur 259 (0,0)))(hv:w.heap[vb]? =some (.cells xc.toArray 259 (0,0)))
  (hxl:xc.length=2) (hij:i<n) (hnc:n<=c) (hcs:cur.size=c*2) (hn:n<=1000) (hm:c<=maxLen) (h1x:∀v∈xc,v.oneCell'=true):
  Calls Tryz.prog 239 #[.slice (some ⟨g,0,none⟩) n c,.int .i64 i,.int .i64 n,.slice (some ⟨vb,0,none⟩) 1 vc] w fun e w'=>
   e=.returned (.slice (some ⟨g,0,none⟩) (i+1) c)/\w'=w.setRow g (ar (ar cur.toList (i*2) xc) ((i+1)*2) (zs2 (n-(i+1)))).toArray:=by
 obtain⟨i0,hi0,hz0,hz1,hz2⟩:=info_parts ud
 have e1:=aG (l:=cur.toList) (o:=i*2) (cs:=xc) (by simp;omega)
 have HA:Hid (∀ty,(Builtin.append_ #[200,200] ty #[.slice (some ⟨g,0,none⟩) i c,.slice (some ⟨vb,0,none⟩) 1 vc]).run Tryz.prog w=.ok (.slice (some ⟨g,0,none⟩) (i+1) c) (w.setRow g (ar cur.toList (i*2) xc).toArray)):=by
  intro ty
  have h:=run_append_room (P:=Tryz.prog) w 200 ty 259 i0 Tryz.underlying200 hi0 g i c cur hg ⟨vb,0,none⟩ 1 vc xc (by rw[hz1,hxl]) (fun j u hj=>by
   rw[Addr.add_lit]
   simp only[World.cell?,hv]
   simpa using hj) h1x (by omega) (by rw[hz1,hxl,hcs];omega)
  rw[hz1]at h
  exact h
 have hgW:(w.setRow g (ar cur.toList (i*2) xc).toArray).heap[g]? =some (.cells (ar cur.toList (i*2) xc).toArray 259 (0,0)):=setRow_heap _ _ cur _ _ _ hg
 have HC3:Hid (∀(W:World) (ty:TypeId) (dc:Nat),W=w.setRow g (ar cur.toList (i*2) xc).toArray->(Builtin.clear_ #[200] ty #[.slice (some ⟨g,(i+1)*2,none⟩) (n-(i+1)) dc]).run Tryz.prog W
   = .ok (.tuple #[]) (w.setRow g (ar (ar cur.toList (i*2) xc) ((i+1)*2) (zs2 (n-(i+1)))).toArray)):=by
  intro W ty dc hW
  obtain⟨W',h1,h2⟩:=tZ g ((i+1)*2) (n-(i+1)) dc _ W (by rw[hW];exact hgW) (by rw[List.size_toArray,e1];simp;omega) ty
  rw[h1,h2,hW,setRow_setRow]
 have hlast:i+1=n->w.setRow g (ar cur.toList (i*2) xc).toArray=w.setRow g (ar (ar cur.toList (i*2) xc) ((i+1)*2) (zs2 (n-(i+1)))).toArray:=by
  intro h
  congr 2
  rw[<-h]
  generalize ar cur.toList (i*2) xc=q
  simp[ar,zs2]
 replace hlast:=ab hlast
 unfold maxLen at hm
 have hbq:((i:Int)==(n:Int))=false:=beq_eq_false_iff_ne.2 (by omega)
 have hb4:¬(c=i):=by omega
 have hbi:(i:Int)<=(c:Int):=by omega
 have hbin:(i:Int)<=(n:Int):=by omega
 have hbn:(n:Int)<=(c:Int):=by omega
 have hw1:IntKind.i64.wrap ((i:Int)+1)=(i:Int)+1:=by rw[IntKind.wrap_i64];omega
 have hb1:(0:Int)<=(i:Int)+1:=by omega
 have htn:((i:Int)+1).toNat=i+1:=by omega
 have u1:=run_underlying Tryz.underlying200
 have z1:=fG
 clear e1 hgW
 by_cases hlt:i+1<n
 ·have hb2:¬(c=i+1):=by omega
  have hb3:(i:Int)+1<(n:Int):=by omega
  have hb5:(i:Int)+1<=(n:Int):=by omega
  go_enter Tryz.func239,Tryz.ntmps239
  go_wp2_with (at_builtin;refine aS rfl _ _ 200 200 rfl _ _ rfl rfl (HA.out _) ?_;refine Hid.out ?_)
  refine ab ?_
  generalize hW1:World.setRow w g _=W1
  replace hW1:=ab hW1
  go_wp2_with (refine bV rfl _ 200 rfl _ rfl (HC3.out W1 _ _ hW1.out.symm) ?_;refine Hid.out ?_)
  refine ab ?_
  go_wp2_with fail
  go_ret
  exact⟨rfl,rfl⟩
 ·have hb3:¬((i:Int)+1<(n:Int)):=by omega
  go_enter Tryz.func239,Tryz.ntmps239
  go_wp2_with (at_builtin;refine aS rfl _ _ 200 200 rfl _ _ rfl rfl (HA.out _) ?_;refine Hid.out ?_)
  refine ab ?_
  generalize hW1:World.setRow w g _=W1
  replace hW1:=ab hW1
  go_wp2_with fail
  go_ret
  exact⟨rfl,by rw[<-hW1.out];exact hlast.out (by omega)⟩
set_option maxRecDepth 100000 in
theorem rk{v:Value}{lv:Value}{n i:Nat}{w:World}{R:Value->World->Prop}(hlv:∃ao cap,lv=.slice ao n cap/\i<=n/\n<=cap/\cap<=9223372036854775807/\(ao=none->n=0/\cap=0)/\∀a,ao=some a->∃g,a =⟨g,0,none⟩)
  (H:Calls Tryz.prog 241 #[lv,.int .i64 i,v] w fun e w'=>∃lv',e=.returned lv'/\R lv' w'):Calls Tryz.prog 239 #[lv,.int .i64 i,.int .i64 i,v] w fun e w'=>∃lv',e=.returned lv'/\R lv' w':=by
 obtain⟨ao,cap,rfl,hi,hnc,hcm,hnone,hsome⟩:=hlv
 have HH:=ab H
 clear H
 have u1:=run_underlying Tryz.underlying200
 have z1:=fG
 cases ao with
 |none=>
  obtain⟨rfl,rfl⟩:=hnone rfl
  obtain rfl:i=0:=by omega
  clear hnone hsome
  have H0:Hid (Calls Tryz.prog 241 #[.slice none 0 0,.int .i64 0,v] w fun e w'=>∃lv',e=.returned lv'/\R lv' w'):=HH.out
  clear HH
  go_enter Tryz.func239,Tryz.ntmps239
  go_wp2_with fail
  refine H0.out.mono ?_
  rintro e w' ⟨v',rfl,hq⟩
  have HQQ:=ab hq
  clear hq
  go_wp2_with fail
  go_ret
  exact⟨_,rfl,HQQ.out⟩
 |some a=>
  obtain⟨g,rfl⟩:=hsome a rfl
  clear hnone hsome
  have hbi:(i:Int)<=(cap:Int):=by omega
  by_cases hci:cap=i
  ·subst hci
   go_enter Tryz.func239,Tryz.ntmps239
   go_wp2_with fail
   refine HH.out.mono ?_
   rintro e w' ⟨v',rfl,hq⟩
   have HQQ:=ab hq
   clear hq
   go_wp2_with fail
   go_ret
   exact⟨_,rfl,HQQ.out⟩
  ·go_enter Tryz.func239,Tryz.ntmps239
   go_wp2_with fail
   refine HH.out.mono ?_
   rintro e w' ⟨v',rfl,hq⟩
   have HQQ:=ab hq
   clear hq
   go_wp2_with fail
   go_ret
   exact⟨_,rfl,HQQ.out⟩
theorem rj(l:List bn)(x:bn)(i j vb vc:Nat)(lv:Value)(w:World)(hown:w.ownsRow 0 259 2 lv l.length (aC l))(hv:w.heap[vb]? =some (.cells #[.int .i64 x.1,x.2] 259 (0,0)))(hne:lv.ownBlock≠some vb)(hij:i<=j)(hj:j<=l.length)(hn:l.length<=1000)
  (h1:∀r∈l,r.2.oneCell'=true) (hx:x.2.oneCell'=true):
  Calls Tryz.prog 239 #[lv,.int .i64 i,.int .i64 j,.slice (some ⟨vb,0,none⟩) 1 vc] w fun e w'=>
   ∃lv',e=.returned lv'/\w'.ownsRow 0 259 2 lv' (l.take i++x::l.drop j).length (aC (l.take i++x::l.drop j))/\w.grownBy w' lv.ownBlock/\(lv'.ownBlock=lv.ownBlock\/∀g,lv'.ownBlock=some g->w.heap.size<=g):=by
 have hxo:∀v∈[Value.int .i64 x.1,x.2],v.oneCell'=true:=by
  intro v hv
  simp only[List.mem_cons,List.not_mem_nil,or_false]at hv
  rcases hv with rfl|rfl
  ·rfl
  ·exact hx
 rcases Nat.lt_or_eq_of_le hij with hlt|rfl
 ·rcases hown.2 with⟨_,h0⟩|⟨g,cap,cur,rfl,_,hg,hnc,hcm,hcs,htk⟩
  ·omega
  ·have hfin:aC (l.take i++x::l.drop j)=(aC l).take (i*2)++[.int .i64 x.1,x.2]++(aC l).drop (j*2):=by rw[eG,de,iP,iO,List.append_assoc]
   have hlen:(l.take i++x::l.drop j).length=i+1+(l.length-j):=by simp;omega
   have h3:=vC (cur:=cur.toList) (cs:=aC l) (xc:=[.int .i64 x.1,x.2]) (zs:=zs2 (l.length-(i+1+(l.length-j)))) (a:=i*2) (b:=j*2) (by rw[aE];exact htk) (by simp;omega) (by rw[aE];omega) (by rw[aE];simp;omega) (by rw[dN];simp;omega)
   rw[aE,<-hfin,show i*2+[Value.int .i64 x.1,x.2].length=(i+1)*2 from by simp;omega]at h3
   have e1:=aG (l:=cur.toList) (o:=i*2) (cs:=[.int .i64 x.1,x.2]) (by simp;omega)
   have e2:=aG (l:=ar cur.toList (i*2) [.int .i64 x.1,x.2]) (o:=(i+1)*2) (cs:=(aC l).drop (j*2)) (by rw[e1,List.length_drop,aE];simp;omega)
   rcases Nat.lt_or_eq_of_le hj with hjl|rfl
   ·refine(rm g l.length cap i j vb vc cur [.int .i64 x.1,x.2] (aC l) w hg hv (aE l) rfl htk hlt hjl hnc hcs hn hcm (eR h1) hxo).mono ?_
    rintro e w' ⟨rfl,q,rfl⟩
    rw[hlen]
    have h4:=jC (w:=w) (n:=l.length) (m:=i+1+(l.length-j)) (c:=cap) (q:=q) (R:=ar (ar (ar cur.toList (i*2) [.int .i64 x.1,x.2]) ((i+1)*2) ((aC l).drop (j*2))) ((i+1+(l.length-j))*2) (zs2 (l.length-(i+1+(l.length-j))))) hg
     (by rw[aG (by rw[e2,e1,dN];simp;omega),e2,e1];simpa using hcs) (by omega) hcm hlen (by rw[show(i+1+(l.length-j))*2=(i+1)*2+(l.length*2-j*2) from by omega];exact h3)
    exact⟨_,rfl,h4.1,h4.2,Or.inl rfl⟩
   ·refine(qp g l.length cap i vb vc cur [.int .i64 x.1,x.2] w hg hv rfl hlt hnc hcs hn hcm hxo).mono ?_
    rintro e w' ⟨rfl,rfl⟩
    have ed:(aC l).drop (l.length*2)=[]:=List.drop_eq_nil_of_le (by rw[aE];exact Nat.le_refl _)
    have eo:ar (ar cur.toList (i*2) [.int .i64 x.1,x.2]) ((i+1)*2) []=ar cur.toList (i*2) [.int .i64 x.1,x.2]:=by
     generalize ar cur.toList (i*2) [.int .i64 x.1,x.2]=q
     simp[ar]
    rw[ed,eo]at h3
    rw[Nat.sub_self,Nat.add_zero]at h3 hlen
    rw[Nat.sub_self,Nat.add_zero]at h3
    rw[hlen]
    have h4:=jC (w:=w) (n:=l.length) (m:=i+1) (c:=cap) (q:=0) (R:=ar (ar cur.toList (i*2) [.int .i64 x.1,x.2]) ((i+1)*2) (zs2 (l.length-(i+1)))) hg
     (by rw[aG (by rw[e1,dN];simp;omega),e1];simpa using hcs) (by omega) hcm hlen h3
    exact⟨_,rfl,h4.1,h4.2,Or.inl rfl⟩
 ·refine rk (n:=l.length) ?_ ((tX l x i vb vc lv w hown hv hne hj hn h1 hx).mono ?_)
  ·rcases hown.2 with⟨rfl,h0⟩|⟨g,cap,cur,rfl,_,hg,hnc,hcm,hcs,htk⟩
   ·exact⟨none,0,by rw[h0],by omega,by omega,by omega,fun _=>⟨h0,rfl⟩,fun a h=>by cases h⟩
   ·refine⟨_,cap,rfl,hj,hnc,by unfold maxLen at hcm;omega,fun h=>(by cases h),fun a h=>⟨g,?_⟩⟩
    cases h
    rfl
  ·rintro e w' ⟨lv',rfl,ho,hg,ha⟩
   refine⟨lv',rfl,?_,hg,ha⟩
   have:(l.take i++x::l.drop i).length=l.length+1:=by simp;omega
   rw[this]
   exact ho
end Go.Proofs.YthmdjhlhodpbhaaGreatDoor
