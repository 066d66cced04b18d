/- Comes, part 11 -/
import Derived.Test.YthmdjhlhodpbhaaGreatDoorM07
set_option maxHeartbeats 16000000
set_option maxRecDepth 8000
namespace Go.Proofs.YthmdjhlhodpbhaaGreatDoor
open Go.RowKit
open _root_.List renaming getElem?_eq_some_iff → bm, getElem?_take_of_lt → bi, getElem?_eq_getElem → am, size_toArray → dj, mem_of_mem_drop → dp, mem_of_getElem? → bT, length_drop → bt, getElem?_drop → cJ, getElem?_append_left → aw, mem_of_mem_take → bZ, append_assoc → br, length_replicate → aE, length_take → bq, getElem?_append_right → aF, not_mem_nil → dy, getElem?_eq_none → bj, mem_cons → cI
open _root_.Array renaming getElem?_eq_some_iff → aO
open Go.World renaming cell? → aX, setRow → dk, size_setCell → bN, cell?_of_block → cF
open Go.IntKind renaming wrap_i64 → di
open Go.Addr renaming add_lit → dq
open _root_.Nat renaming lt_of_lt_of_le → cq, zero_le → aI, le_refl → ay, lt_or_ge → aD, lt_or_eq_of_le → du, sub_self → dv, min_def → dt, zero_add → aJ, min → dC
open Go.Value renaming slice → cX, int → a8, agg → dE
open Go.Builtin renaming copy_ → bH, clear_ → bI, append_ → bF, firstCells → dL, zeroCells → bk
open _root_.Or renaming inl → a_
open _root_.Go.Proofs.Tryz
open _root_.Go.Proofs.Tryz renaming prog → ae
open Go.Value renaming int → af, slice → aj, pointer → ai
open Go.IntKind renaming i64 → ag
variable {w w' w2 w3:World}{lv iX:Value}{i rb off j:Nat}{cs:Array Value}{t:TypeId}
theorem Hy:(ae.info? 279).map (fun i=>(i.zero,i.size,i.bytes))=some (some (.agg #[af ag 0,aj none 0 0]),2,32):=by kernel_rfl
theorem yM:(ae.info? 279).map (·.size)=some 2:=by kernel_rfl
theorem pD(w:World):(Go.sizeOf 279).run ae w=.ok 2 w:=by kernel_rfl
theorem M7(g vb o n1 c1 n2 c2:Nat)(w:World){a b:Array Value}{t1 t2:TypeId}(js:vb≠g)(hg:w.heap[g]? =some (.cells a t1 (0,0)))(hv:w.heap[vb]? =some (.cells b t2 (0,0)))(ha:a.size≠0):
  (callFunc 201 #[aj (some ⟨vb,0,none⟩) n1 c1,aj (some ⟨g,o,none⟩) n2 c2]).run ae w=.ok (.value (.bool false)) w:=by
 rw[run_callFunc_extern func201 (by kernel_rfl) (by kernel_rfl) (by kernel_rfl) (e:=Extern.SlicesOverlaps.overlaps #[129,129] #[4]) (by kernel_rfl),
  Lib.run_overlaps_apart w 129 4 279 underlying129 2 pD ⟨vb,0,none⟩ ⟨g,o,none⟩ n1 c1 n2 c2 js t2 t1 b.size a.size (by simp[World.shape?,hv]) (by simp[World.shape?,hg]) ha (frozen_of_row w vb _ _ _ hv) (frozen_of_row w vb _ _ _ hv)]
 rfl
theorem EG(g n c i vb vc:Nat)(cur:Array Value)(xc cs:List Value)(w:World)(hg:w.heap[g]? =some (.cells cur 279 (0,0)))(hv:w.heap[vb]? =some (.cells xc.toArray 279 (0,0)))(js:vb≠g)
  (mx:cs.length=n*2) (xV:xc.length=2) (pd:cur.toList.take (n*2)=cs) (hi:i<n) (mJ:n+1<=c) (lF:cur.size=c*2) (hm:c<=maxLen) (h1:∀v∈cs,v.oneCell'=true) (Gt:∀v∈xc,v.oneCell'=true):
  Calls ae 200 #[aj (some ⟨g,0,none⟩) n c,af ag i,aj (some ⟨vb,0,none⟩) 1 vc] w fun e w'=>
   e=.returned (aj (some ⟨g,0,none⟩) (n+1) c)/\∃q,w'=(w.drewN q).setRow g (gW (gW cur.toList ((i+1)*2) (cs.drop (i*2))) (i*2) xc).toArray:=by
 have Cb:=fun o n1 c1 n2 c2=>M7 g vb o n1 c1 n2 c2 w js hg hv (by omega)
 unfold maxLen at hm;have sk:IntKind.i64.wrap ((i:Int)+1)=(i:Int)+1:=by rw[di];omega
 have im:(0:Int)<=(i:Int)+1:=by omega
 have nz:i<=n:=by omega
 have YO:((i:Int)+1).toNat=i+1:=by omega
 have iT:¬(c=i+1):=by omega
 have mw:(i:Int)<=(n:Int)+1:=by omega
 have vK:¬(c=i):=by omega
 have u1:=run_underlying underlying129;have z1:=pD;have Se:n*2<=cur.toList.length:=by simp;omega
 have rX:(cs.drop (i*2)).length=(n-i)*2:=by rw[bt,mx];omega
 have Sc:∀(W:World) (ty:TypeId) (dc sc:Nat),W.heap=w.heap->(bH #[129,129] ty #[aj (some ⟨g,(i+1)*2,none⟩) (n-i) dc,aj (some ⟨g,i*2,none⟩) (n+1-i) sc]).run ae W
   = .ok (goInt (dC (n+1-i) (n-i))) (W.setRow g (gW cur.toList ((i+1)*2) (cs.drop (i*2))).toArray):=by
  intro W ty dc sc hW;refine jV W 129 129 ty 279 g ((i+1)*2) (n-i) dc ⟨g,i*2,none⟩ (n+1-i) sc cur 279 (cs.drop (i*2)) 2 underlying129 yM (by rw[hW];exact hg) ?_ ?_ ?_ ?_
  ·rw[rX];simp only[dt];split<;>omega
  ·intro j v hj;have Jq:=(bm.1 hj).1;rw[cJ,<-pd,bi (by omega)]at hj;rw[dq];simp only[aX,hW,hg];simpa using hj
  ·rw[rX,lF];omega
  ·exact fun v hv=>h1 v (dp hv)
 have Sd:∀(W:World) (ty:TypeId) (dc:Nat),W.heap=(w.setRow g (gW cur.toList ((i+1)*2) (cs.drop (i*2))).toArray).heap->(bH #[129,129] ty #[aj (some ⟨g,i*2,none⟩) (n+1-i) dc,aj (some ⟨vb,0,none⟩) 1 vc]).run ae W
   = .ok (goInt (dC 1 (n+1-i))) (W.setRow g (gW (gW cur.toList ((i+1)*2) (cs.drop (i*2))) (i*2) xc).toArray):=by
  intro W ty dc hW;have e1:=iD (l:=cur.toList) (o:=(i+1)*2) (cs:=cs.drop (i*2)) (by rw[rX];simp;omega);have xR:W.heap[g]? =some (.cells (gW cur.toList ((i+1)*2) (cs.drop (i*2))).toArray 279 (0,0)):=by rw[hW];exact setRow_heap w g cur _ _ _ hg
  have h2:=jV W 129 129 ty 279 g (i*2) (n+1-i) dc ⟨vb,0,none⟩ 1 vc _ 279 xc 2 underlying129 yM xR (by rw[xV];simp only[dt];split<;>omega) ?_ ?_ Gt
  ·simpa using h2
  ·intro j v hj;rw[dq];have:W.heap[vb]? =w.heap[vb]?:=by rw[hW];exact setRow_other w g vb _ js
   simp only[aX,this,hv];simpa using hj
  ·simp only[dj];rw[e1,xV];simp;omega
 have Ac:=gE Sc;have Ai:=gE Sd;clear Sc Sd;go_enter func200,ntmps200;go_wp2_with (simp only[Cb])
 go_region_law (refine kW rfl (.tmp 73) (.tmp 76) 129 129 rfl (aj (some ⟨g,(i+1)*2,none⟩) (n-i) (c-(i+1))) (aj (some ⟨g,i*2,none⟩) (n+1-i) (c-i)) (by kernel_rfl) (by kernel_rfl) (Ac.out _ _ _ _ rfl) ?_;generalize oX:dk _ g _=W1;replace oX:=gE oX;refine Hid.out ?_;refine gE ?_)
 have HQ:Hid (W1.heap=(w.setRow g (gW cur.toList ((i+1)*2) (cs.drop (i*2))).toArray).heap):=by show _=_;rw[<-oX.out];rfl
 go_wp2_with (refine mT rfl _ _ 129 129 rfl _ _ rfl rfl (Ai.out _ _ _ HQ.out) ?_;generalize yn:dk _ g _=W2;replace yn:=gE yn);go_ret;refine⟨rfl,1,?_⟩;rw[<-yn.out,<-oX.out,setRow_setRow]
 rfl
theorem Hu(n vb vc:Nat)(lv:Value)(cs xc:List Value)(w:World)(gY:w.ownsRow 0 279 2 lv n cs)(hv:w.heap[vb]? =some (.cells xc.toArray 279 (0,0)))(xV:xc.length=2)(Gt:∀v∈xc,v.oneCell'=true)(hn:n<=1000):
  Calls ae 200 #[lv,af ag n,aj (some ⟨vb,0,none⟩) 1 vc] w fun e w'=>
   ∃iX,e=.returned iX/\w'.ownsRow 0 279 2 iX (n+1) (cs++xc)/\w.grownBy w' lv.ownBlock/\(iX.ownBlock=lv.ownBlock\/∀g,iX.ownBlock=some g->w.heap.size<=g):=by
 obtain⟨i0,hi,mB,kS,ln⟩:=info_parts Hy
 obtain⟨iX,w',kk,r1,r2,r3⟩:=lJ (P:=ae) w 0 129 129 279 i0 _ 2 32 underlying129 hi mB kS ln rfl (by decide) lv n cs gY ⟨vb,0,none⟩ 1 vc xc (by omega) (fun j u hj=>by
  rw[dq];simp only[aX,hv];simpa using hj) Gt (by unfold maxLen;omega) (by omega) (aI _)
 have HR:=gE kk;have R1:=gE r1;have R2:=gE r2;have R3:=gE r3;obtain⟨ao,cap,rfl⟩:=iA gY;obtain⟨ao',n_,rfl⟩:=iA r1;clear kk r1 r2 r3 gY hv
 cases ao with
 |none=>
  go_enter func200,ntmps200;go_wp2_with (at_builtin;refine iY rfl _ _ 129 129 rfl _ _ rfl rfl HR.out ?_;refine Hid.out ?_);refine gE ?_
  go_wp2
  go_ret;exact⟨_,rfl,R1.out,R2.out,R3.out⟩
 |some a=>
  go_enter func200,ntmps200;go_wp2_with (at_builtin;refine iY rfl _ _ 129 129 rfl _ _ rfl rfl HR.out ?_;refine Hid.out ?_)
  all_goals
   refine gE ?_
   go_wp2
   go_ret;exact⟨_,rfl,R1.out,R2.out,R3.out⟩
theorem EF(g n c i vb vc:Nat)(cur:Array Value)(xc cs:List Value)(w:World)(hg:w.heap[g]? =some (.cells cur 279 (0,0)))(hv:w.heap[vb]? =some (.cells xc.toArray 279 (0,0)))
  (mx:cs.length=n*2) (xV:xc.length=2) (pd:cur.toList.take (n*2)=cs) (hi:i<n) (mJ:c<n+1) (s_:n<=c) (hn:n<=1000) (h1:∀v∈cs,v.oneCell'=true) (Gt:∀v∈xc,v.oneCell'=true):
  Calls ae 200 #[aj (some ⟨g,0,none⟩) n c,af ag i,aj (some ⟨vb,0,none⟩) 1 vc] w fun e w'=>
   ∃iX,e=.returned iX/\w'.ownsRow w.heap.size 279 2 iX (n+1) (cs.take (i*2)++xc++cs.drop (i*2))/\Below w.heap.size w w':=by
 obtain⟨i0,nO,mB,kS,ln⟩:=info_parts Hy;have Fq:g<w.heap.size:=(aO.1 hg).1;have Ft:vb<w.heap.size:=(aO.1 hv).1
 have X1:∀j v,cs[j]? =some v->w.cell? ⟨g,j,none⟩= some v:=fun j v hj=>by
  have Jq:=(bm.1 hj).1;rw[<-pd,bi (by omega)]at hj;simp only[aX,hg];simpa using hj
 have zy:∀j v,xc[j]? =some v->w.cell? ⟨vb,j,none⟩= some v:=fun j v hj=>by
  simp only[aX,hv];simpa using hj
 have hold:(dL i0.size i (aj (some ⟨g,0,none⟩) i c)).run ae w.drew=.ok (cs.take (i*2)).toArray w.drew:=by
  rw[kS]
  exact run_firstCells_some w.drew 2 i ⟨g,0,none⟩ i c (cs.take (i*2)) (by rw[bq];omega) (fun j v hj=>by
   rw[dq,aJ];rw[List.getElem?_take]at hj
   split at hj
   ·exact X1 j v hj
   ·cases hj)
 obtain⟨G,hG⟩:∃G,G=grownCap w (n+1) c 279:=⟨_,rfl⟩;have hGn:n+1<=G:=by rw[hG];exact grownCap_ge w _ _ _
 have hGm:G<=maxLen:=by rw[hG];exact grownCap_le_maxLen w (n+1) c 279 (by unfold maxLen;omega)
 obtain⟨qw,Gu⟩:∃qw:Array Value,qw=(cs.take (i*2)).toArray++bk (dE #[af ag 0,aj none 0 0]).cells (n+1-i)++bk (dE #[af ag 0,aj none 0 0]).cells (G-(n+1)):=⟨_,rfl⟩
 have ZN:qw.size=G*2:=by
  rw[Gu];simp only[Array.size_append,dj,size_zeroCells,bq,mx];rw[show(dE #[af ag 0,aj none 0 0]:Value).cells.size=2 from rfl];omega
 have hRt:∀j,j<i*2->qw.toList[j]? =cs[j]?:=fun j hj=>by
  rw[Gu];simp only[Array.toList_append,br];rw[aw (by simp;omega),bi hj]
 have hkk:(n:Int)+1-(i:Int)=((n+1-i:Nat):Int):=by omega
 have Sj:i+(n+1-i)=n+1:=by omega
 have hrz:∀ty,(bF #[129,3] ty #[aj (some ⟨g,0,none⟩) i c,af ag ((n:Int)+1-(i:Int))]).run ae w=.ok (aj (some ⟨w.heap.size,0,none⟩) (n+1) G) (w.drew.alloc (.cells qw 279)):=fun ty=>by
  have h:=Lib.run_append_grow_zeros w 129 3 ty 279 i0 _ .i64 .i64 underlying129 underlying3 nO mB (some ⟨g,0,none⟩) i c (cs.take (i*2)) hold (n+1-i) (by omega) (by omega) (by omega) (by omega) (by rw[ln];omega) (by rw[ln,Sj];exact growslice_fits mJ (by omega));rw[Sj,<-hG,<-Gu]at h;rw[hkk];exact h
 have rX:(cs.drop (i*2)).length=(n-i)*2:=by rw[bt,mx];omega
 have HA:=gE hrz
 have Ac:Hid (∀(W:World) (ty:TypeId) (dc:Nat),W.heap=(w.alloc (.cells qw 279)).heap->(bH #[129,129] ty #[aj (some ⟨w.heap.size,i*2,none⟩) (n+1-i) dc,aj (some ⟨vb,0,none⟩) 1 vc]).run ae W
   = .ok (goInt (dC 1 (n+1-i))) (W.setRow w.heap.size (gW qw.toList (i*2) xc).toArray)):=by
  intro W ty dc hW;refine jV W 129 129 ty 279 w.heap.size (i*2) (n+1-i) dc ⟨vb,0,none⟩ 1 vc qw 279 xc 2 underlying129 yM (by rw[hW];exact heap_alloc_new w _) (by rw[xV];simp only[dt];split<;>omega) ?_ ?_ Gt
  ·intro j v hj;rw[dq,aJ];have:W.heap[vb]? =w.heap[vb]?:=by rw[hW];exact Below.heap_alloc _ _ _ Ft
   rw[<-zy j v hj];simp only[aX,this]
  ·rw[xV,ZN];omega
 have e1:=iD (l:=qw.toList) (o:=i*2) (cs:=xc) (by simp;omega)
 have Ai:Hid (∀(W:World) (ty:TypeId) (dc sc:Nat),W.heap=((w.alloc (.cells qw 279)).setRow w.heap.size (gW qw.toList (i*2) xc).toArray).heap->(bH #[129,129] ty #[aj (some ⟨w.heap.size,(i+1)*2,none⟩) (n-i) dc,aj (some ⟨g,i*2,none⟩) (n-i) sc]).run ae W
   = .ok (goInt (dC (n-i) (n-i))) (W.setRow w.heap.size (gW (gW qw.toList (i*2) xc) ((i+1)*2) (cs.drop (i*2))).toArray)):=by
  intro W ty dc sc hW;have xR:W.heap[w.heap.size]? =some (.cells (gW qw.toList (i*2) xc).toArray 279 (0,0)):=by rw[hW];exact setRow_heap _ _ qw _ _ _ (heap_alloc_new w _)
  have h2:=jV W 129 129 ty 279 w.heap.size ((i+1)*2) (n-i) dc ⟨g,i*2,none⟩ (n-i) sc _ 279 (cs.drop (i*2)) 2 underlying129 yM xR (by rw[rX];simp only[dt];split<;>omega) ?_ ?_ (fun v hv=>h1 v (dp hv))
  ·simpa using h2
  ·intro j v hj;rw[cJ]at hj;rw[dq];have:W.heap[g]? =w.heap[g]?:=by rw[hW,setRow_other _ _ _ _ (by omega)];exact Below.heap_alloc _ _ _ Fq
   rw[<-X1 _ v hj];simp only[aX,this]
  ·simp only[dj];rw[e1,rX];simp;omega
 have lI:(gW (gW qw.toList (i*2) xc) ((i+1)*2) (cs.drop (i*2))).take ((n+1)*2)=cs.take (i*2)++xc++cs.drop (i*2):=by
  apply List.ext_getElem?
  intro j;rcases aD j ((n+1)*2) with hj|hj
  ·rw[bi hj,ms (by rw[e1,rX];simp;omega),ms (by simp;omega),br];rcases aD j (i*2) with h1|h1
   ·rw[if_neg (by omega),if_neg (by omega),aw (by simp;omega),bi h1];exact hRt j h1
   ·rw[aF (by simp;omega),bq,Nat.min_eq_left (by omega)];rcases aD j ((i+1)*2) with h2|h2
    ·rw[if_neg (by omega),if_pos (by omega),aw (by omega)]
    ·rw[if_pos (by rw[rX];omega),aF (by omega)]
     congr 1
     omega
  ·rw[bj (by simp;omega),bj (by simp;omega)]
 have rq:(gW (gW qw.toList (i*2) xc) ((i+1)*2) (cs.drop (i*2))).length=G*2:=by rw[iD (by rw[e1,rX];simp;omega),e1];simp;omega
 have HF:=gE lI;have HL:=gE rq;unfold maxLen at hGm;have sk:IntKind.i64.wrap ((i:Int)+1)=(i:Int)+1:=by rw[di];omega
 have im:(0:Int)<=(i:Int)+1:=by omega
 have nz:i<=n:=by omega
 have YO:((i:Int)+1).toNat=i+1:=by omega
 have iT:¬(G=i+1):=by omega
 have mw:(i:Int)<=(n:Int)+1:=by omega
 have vK:¬(c=i):=by omega
 have wG:¬(G=i):=by omega
 have wb:(c:Int)<(n:Int)+1:=by omega
 have R0:(i:Int)<=(n:Int):=by omega
 have u1:=run_underlying underlying129;have z1:=pD;clear hold Gu hrz hkk Sj X1 zy hRt lI rq e1 hG;go_enter func200,ntmps200;go_wp2_with (first |(at_builtin;refine iY rfl _ _ 129 3 rfl _ _ rfl rfl (HA.out _) ?_;refine Hid.out ?_));refine gE ?_;generalize oX:(w.alloc (.cells qw 279)).drew=W1;have HQ:Hid (W1.heap=(w.alloc (.cells qw 279)).heap):=by show _=_;rw[<-oX];rfl
 replace oX:=gE oX;go_wp2_with (refine mT rfl _ _ 129 129 rfl (aj (some ⟨w.heap.size,i*2,none⟩) (n+1-i) (G-i)) (aj (some ⟨vb,0,none⟩) 1 vc) (by kernel_rfl) (by kernel_rfl) (Ac.out W1 3 (G-i) HQ.out) ?_;refine Hid.out ?_);refine gE ?_;generalize yn:dk _ w.heap.size _=W2;replace yn:=gE yn
 have Xu:Hid (∀m:World,m.heap=W2.heap->m.heap=((w.alloc (.cells qw 279)).setRow w.heap.size (gW qw.toList (i*2) xc).toArray).heap):=by
  intro m hm;rw[hm,<-yn.out,<-oX.out]
  rfl
 go_wp2_with fail
 go_region_law (refine kW rfl (.tmp 50) (.tmp 53) 129 129 rfl (aj (some ⟨w.heap.size,(i+1)*2,none⟩) (n-i) (G-(i+1))) (aj (some ⟨g,i*2,none⟩) (n-i) (c-i)) (by kernel_rfl) (by kernel_rfl) (Ai.out _ _ _ _ (Xu.out _ rfl)) ?_;generalize zt:dk _ w.heap.size _=W3;replace zt:=gE zt;refine Hid.out ?_;refine gE ?_)
 go_wp2_with fail;go_ret
 have RU:W3=(w.alloc (.cells qw 279)).drew.drew.setRow w.heap.size (gW (gW qw.toList (i*2) xc) ((i+1)*2) (cs.drop (i*2))).toArray:=by
  rw[<-zt.out,<-yn.out,<-oX.out];exact setRow_setRow (w.alloc (.cells qw 279)).drew.drew w.heap.size (gW qw.toList (i*2) xc).toArray _
 have xR:W3.heap[w.heap.size]? =some (.cells (gW (gW qw.toList (i*2) xc) ((i+1)*2) (cs.drop (i*2))).toArray 279 (0,0)):=by rw[RU];exact setRow_heap _ _ qw _ _ _ (show(w.alloc (.cells qw 279)).drew.drew.heap[w.heap.size]? =_ from heap_alloc_new w _)
 refine⟨_,rfl,⟨by simp only[List.length_append,bq,rX,xV,mx];omega,.inr ⟨w.heap.size,G,_,rfl,ay _,xR,hGn,by unfold maxLen;omega,?_,HF.out⟩⟩,?_⟩
 ·rw[dj];exact HL.out
 ·rw[RU];refine⟨rfl,rfl,rfl,by simp[dk],fun k hk=>?_⟩;rw[setRow_other _ _ _ _ (by omega)];exact Below.heap_alloc w _ _ hk
theorem Ht(l:List jT)(x:jT)(i vb vc:Nat)(lv:Value)(w:World)(gY:w.ownsRow 0 279 2 lv l.length (iz l))(hv:w.heap[vb]? =some (.cells #[af ag x.1,x.2] 279 (0,0)))(js:lv.ownBlock≠some vb)(hi:i<=l.length)(hn:l.length<=1000)
  (h1:∀r∈l,r.2.oneCell'=true) (hx:x.2.oneCell'=true):
  Calls ae 200 #[lv,af ag i,aj (some ⟨vb,0,none⟩) 1 vc] w fun e w'=>
   ∃iX,e=.returned iX/\w'.ownsRow 0 279 2 iX (l.length+1) (iz (l.take i++x::l.drop i))/\w.grownBy w' lv.ownBlock/\(iX.ownBlock=lv.ownBlock\/∀g,iX.ownBlock=some g->w.heap.size<=g):=by
 have Pv:∀v∈[a8 .i64 x.1,x.2],v.oneCell'=true:=by
  intro v hv;simp only[cI,dy,or_false]at hv;rcases hv with rfl|rfl
  ·rfl
  ·exact hx
 have lI:iz (l.take i++x::l.drop i)=(iz l).take (i*2)++[af ag x.1,x.2]++(iz l).drop (i*2):=by rw[oi,mW,tq,tp,br]
 rcases du hi with jp|rfl
 ·rcases gY.2 with⟨_,h0⟩|⟨g,cap,cur,rfl,_,hg,s_,nN,lF,pd⟩
  ·omega
  ·have Yr:vb≠g:=fun e=>js (by simp[Value.ownBlock,e])
   by_cases mJ:l.length+1<=cap
   ·refine(EG g l.length cap i vb vc cur [af ag x.1,x.2] (iz l) w hg hv Yr (iy l) rfl pd jp mJ lF nN (pH h1) Pv).mono ?_;rintro e w' ⟨rfl,q,rfl⟩;have e1:=iD (l:=cur.toList) (o:=(i+1)*2) (cs:=(iz l).drop (i*2)) (by rw[bt,iy];simp;omega);have e2:=iD (l:=gW cur.toList ((i+1)*2) ((iz l).drop (i*2))) (o:=i*2) (cs:=[af ag x.1,x.2]) (by rw[e1];simp;omega);refine⟨_,rfl,⟨by rw[iy];simp;omega,.inr ⟨g,cap,_,rfl,aI _,setRow_heap (w.drewN q) g cur _ _ _ hg,mJ,nN,?_,?_⟩⟩,⟨rfl,rfl,rfl,by simp[dk,World.drewN],fun k _ hk=>setRow_other (w.drewN q) g k _ (fun e=>hk (by simp[e,Value.ownBlock]))⟩,a_ rfl⟩
    ·rw[dj,e2,e1];simpa using lF
    ·rw[lI];have h3:=JL (cur:=cur.toList) (cs:=iz l) (xc:=[af ag x.1,x.2]) (a:=i*2) (by rw[iy];exact pd) (by rw[iy];omega) (by rw[iy];simp;omega);rw[iy]at h3;rw[show(i+1)*2=i*2+[a8 .i64 x.1,x.2].length from by simp;omega,show(l.length+1)*2=l.length*2+[a8 .i64 x.1,x.2].length from by simp;omega];exact h3
   ·refine(EF g l.length cap i vb vc cur [af ag x.1,x.2] (iz l) w hg hv (iy l) rfl pd jp (by omega) s_ hn (pH h1) Pv).mono ?_;rintro e w' ⟨iX,rfl,ho,hb⟩;exact⟨iX,rfl,by rw[lI];exact iE ho (aI _),oG hb _,Or.inr fun k hk=>(ho.lt k hk).1⟩
 ·refine(Hu l.length vb vc lv (iz l) [af ag x.1,x.2] w gY hv rfl Pv hn).mono ?_;rintro e w' ⟨iX,rfl,ho,hg,ha⟩;refine⟨iX,rfl,?_,hg,ha⟩;rw[List.take_length,List.drop_length,oi];exact ho
theorem Zm(w:World):(zeroValue 279).run ae w=.ok (.agg #[af ag 0,aj none 0 0]) w:=by kernel_rfl
theorem Hv(g o n c:Nat)(cur:Array Value)(W:World)(hg:W.heap[g]? =some (.cells cur 279 (0,0)))(xD:o+n*2<=cur.size)(ty:TypeId):
  ∃W',(bI #[129] ty #[aj (some ⟨g,o,none⟩) n c]).run ae W=.ok (.tuple #[]) W'/\W'=W.setRow g (gW cur.toList o (vW n)).toArray:=by
 rcases Nat.eq_zero_or_pos n with rfl|hn
 ·refine⟨W,?_,?_⟩
  ·simp[bI,run_underlying underlying129]
  ·have:gW cur.toList o (vW 0)=cur.toList:=by simp[gW,vW]
   rw[this];exact(setRow_self W g cur _ _ hg).symm
 ·refine⟨_,?_,rfl⟩
  have h:=sQ (P:=ae) W 129 279 ty _ underlying129 (Zm W) g o n c hn cur 279 hg (by rw[show(dE #[af ag 0,aj none 0 0]:Value).cells.size=2 from rfl];exact xD) (by
   intro v hv;have YP:v∈[a8 .i64 0,aj none 0 0]:=hv;simp only[cI,dy,or_false]at YP;rcases YP with rfl|rfl<;>rfl)
  exact h
set_option maxRecDepth 100000 in
theorem EJ(g n c i j vb vc:Nat)(cur:Array Value)(xc cs:List Value)(w:World)(hg:w.heap[g]? =some (.cells cur 279 (0,0)))(hv:w.heap[vb]? =some (.cells xc.toArray 279 (0,0)))
  (mx:cs.length=n*2) (xV:xc.length=2) (pd:cur.toList.take (n*2)=cs) (xU:i<j) (hj:j<n) (s_:n<=c) (lF:cur.size=c*2) (hn:n<=1000) (hm:c<=maxLen) (h1:∀v∈cs,v.oneCell'=true) (Gt:∀v∈xc,v.oneCell'=true):
  Calls ae 178 #[aj (some ⟨g,0,none⟩) n c,af ag i,af ag j,aj (some ⟨vb,0,none⟩) 1 vc] w fun e w'=>
   e=.returned (aj (some ⟨g,0,none⟩) (i+1+(n-j)) c)/\∃q,w'=(w.drewN q).setRow g (gW (gW (gW cur.toList (i*2) xc) ((i+1)*2) (cs.drop (j*2))) ((i+1+(n-j))*2) (vW (n-(i+1+(n-j))))).toArray:=by
 have rX:(cs.drop (j*2)).length=(n-j)*2:=by rw[bt,mx];omega
 have e1:=iD (l:=cur.toList) (o:=i*2) (cs:=xc) (by simp;omega);have e2:=iD (l:=gW cur.toList (i*2) xc) (o:=(i+1)*2) (cs:=cs.drop (j*2)) (by rw[e1,rX];simp;omega)
 have Ac:Hid (∀(W:World) (ty:TypeId) (m dc:Nat),1<=m->W.heap=w.heap->(bH #[129,129] ty #[aj (some ⟨g,i*2,none⟩) m dc,aj (some ⟨vb,0,none⟩) 1 vc]).run ae W
   = .ok (goInt 1) (W.setRow g (gW cur.toList (i*2) xc).toArray)):=by
  intro W ty m dc hm hW;have e:dC 1 m=1:=by simp only[dt];split<;>omega
  have h2:=jV W 129 129 ty 279 g (i*2) m dc ⟨vb,0,none⟩ 1 vc cur 279 xc 2 underlying129 yM (by rw[hW];exact hg) (by rw[xV,e]) ?_ ?_ Gt
  ·rw[e]at h2;exact h2
  ·intro k v hk;rw[dq,aJ];simp only[aX,hW,hv];simpa using hk
  ·rw[xV,lF];omega
 have Ai:Hid (∀(W:World) (ty:TypeId) (m dc sc:Nat),m=n-j->W.heap=(w.setRow g (gW cur.toList (i*2) xc).toArray).heap->(bH #[129,129] ty #[aj (some ⟨g,(i+1)*2,none⟩) m dc,aj (some ⟨g,j*2,none⟩) (n-j) sc]).run ae W
   = .ok (goInt (n-j:Nat)) (W.setRow g (gW (gW cur.toList (i*2) xc) ((i+1)*2) (cs.drop (j*2))).toArray)):=by
  intro W ty m dc sc hm hW;have e:dC (n-j) m=n-j:=by rw[hm];exact Nat.min_self _
  have xR:W.heap[g]? =some (.cells (gW cur.toList (i*2) xc).toArray 279 (0,0)):=by rw[hW];exact setRow_heap _ _ cur _ _ _ hg
  have h2:=jV W 129 129 ty 279 g ((i+1)*2) m dc ⟨g,j*2,none⟩ (n-j) sc _ 279 (cs.drop (j*2)) 2 underlying129 yM xR (by rw[rX,e]) ?_ ?_ (fun v hv=>h1 v (dp hv))
  ·rw[e]at h2;simpa using h2
  ·intro k v hk;have Vf:=(bm.1 hk).1;rw[cJ,<-pd,bi (by omega)]at hk;rw[dq];simp only[aX,xR];rw[List.getElem?_toArray,ms (by simp;omega),if_neg (show ¬(i*2<=j*2+k/\j*2+k<i*2+xc.length) from by omega)];exact hk
  ·simp only[dj];rw[e1,rX];simp;omega
 have Cp:Hid (∀(W:World) (ty:TypeId) (o m dc:Nat),(o=(i+1+(n-j))*2\/m=0)->m=n-(i+1+(n-j))->W.heap=(w.setRow g (gW (gW cur.toList (i*2) xc) ((i+1)*2) (cs.drop (j*2))).toArray).heap->(bI #[129] ty #[aj (some ⟨g,o,none⟩) m dc]).run ae W
   = .ok (.tuple #[]) (W.setRow g (gW (gW (gW cur.toList (i*2) xc) ((i+1)*2) (cs.drop (j*2))) ((i+1+(n-j))*2) (vW (n-(i+1+(n-j))))).toArray)):=by
  intro W ty o m dc ho hm hW;have xR:W.heap[g]? =some (.cells (gW (gW cur.toList (i*2) xc) ((i+1)*2) (cs.drop (j*2))).toArray 279 (0,0)):=by rw[hW];exact setRow_heap _ _ cur _ _ _ hg
  rcases ho with ho|ho
  ·subst ho hm;obtain⟨W',h1,rfl⟩:=Hv g ((i+1+(n-j))*2) (n-(i+1+(n-j))) dc _ W xR (by rw[dj,e2,e1];simp;omega) ty;exact h1
  ·subst ho
   have e3:gW (gW (gW cur.toList (i*2) xc) ((i+1)*2) (cs.drop (j*2))) ((i+1+(n-j))*2) (vW (n-(i+1+(n-j))))=gW (gW cur.toList (i*2) xc) ((i+1)*2) (cs.drop (j*2)):=by
    rw[<-hm];generalize gW (gW cur.toList (i*2) xc) ((i+1)*2) (cs.drop (j*2))=q;simp[gW,vW]
   rw[e3,setRow_self W g _ _ _ xR];simp[bI,run_underlying underlying129]
 unfold maxLen at hm;have sk:IntKind.i64.wrap ((i:Int)+1)=(i:Int)+1:=by rw[di];omega
 have im:(0:Int)<=(i:Int)+1:=by omega
 have YO:((i:Int)+1).toNat=i+1:=by omega
 have iT:¬(c=i+1):=by omega
 have vK:¬(c=i):=by omega
 have wG:¬(c=j):=by omega
 have qt:((i:Int)==(j:Int))=false:=beq_eq_false_iff_ne.2 (by omega);have mq:((j:Int)==(n:Int))=false:=beq_eq_false_iff_ne.2 (by omega);have hwT:IntKind.i64.wrap ((i:Int)+1+((n-j:Nat):Int))=(i:Int)+1+((n-j:Nat):Int):=by rw[di];omega
 have UZ:¬((c:Int)<(i:Int)+1+((n-j:Nat):Int)):=by omega
 have hT3:(i:Int)+1+((n-j:Nat):Int)<=(c:Int):=by omega
 have hT4:(i:Int)+1+((n-j:Nat):Int)<=(n:Int):=by omega
 have hbi:(i:Int)<=(c:Int):=by omega
 have Ik:(j:Int)<=(n:Int):=by omega
 have XV:(i:Int)<=(j:Int):=by omega
 have acr:(j:Int)<=(c:Int):=by omega
 have acs:(i:Int)+1<=(i:Int)+1+((n-j:Nat):Int):=by omega
 have aaR:(i:Int)+1<=(j:Int):=by omega
 have u1:=run_underlying underlying129;have z1:=pD;clear e1 e2;go_enter func178,ntmps178;go_wp2_with fail
 go_quiet (fail)
 generalize tu:w.drewN _=W0;have HQ0:Hid (W0.heap=w.heap):=by show _=_;rw[<-tu];rfl
 replace tu:=gE tu;go_wp2_with (refine mT rfl _ _ 129 129 rfl _ _ rfl rfl (Ac.out W0 _ _ _ (by omega) HQ0.out) ?_;refine Hid.out ?_);refine gE ?_;generalize oX:dk W0 g _=W1
 have Uy:Hid (∀m:World,m.heap=W1.heap->m.heap=(w.setRow g (gW cur.toList (i*2) xc).toArray).heap):=by
  intro m hm;rw[hm,<-oX];simp only[dk,HQ0.out]
 replace oX:=gE oX;go_wp2_with fail
 go_region_law (refine kW rfl (.tmp 103) (.tmp 106) 129 129 rfl (aj (some ⟨g,(i+1)*2,none⟩) (n-j) (c-(i+1))) (aj (some ⟨g,j*2,none⟩) (n-j) (c-j)) (by kernel_rfl) (by kernel_rfl) (Ai.out _ _ _ _ _ rfl (Uy.out _ rfl)) ?_;generalize yn:dk _ g _=W2;replace yn:=gE yn;refine Hid.out ?_;refine gE ?_)
 have Xu:Hid (∀m:World,m.heap=W2.heap->m.heap=(w.setRow g (gW (gW cur.toList (i*2) xc) ((i+1)*2) (cs.drop (j*2))).toArray).heap):=by
  intro m hm;rw[hm,<-yn.out];exact(xe (Uy.out _ rfl) g _).trans (congrArg World.heap (setRow_setRow w g _ _))
 have lI:Hid (∃q,W2.setRow g (gW (gW (gW cur.toList (i*2) xc) ((i+1)*2) (cs.drop (j*2))) ((i+1+(n-j))*2) (vW (n-(i+1+(n-j))))).toArray=(w.drewN q).setRow g (gW (gW (gW cur.toList (i*2) xc) ((i+1)*2) (cs.drop (j*2))) ((i+1+(n-j))*2) (vW (n-(i+1+(n-j))))).toArray):=by
  refine⟨nq+1,?_⟩;rw[<-yn.out,<-oX.out,<-tu.out,setRow_setRow];exact setRow_setRow (w.drewN (nq+1)) g (gW cur.toList (i*2) xc).toArray _
 by_cases hcT:c=i+1+(n-j)
 all_goals
  go_wp2_with (refine lC rfl _ 129 rfl _ rfl (Cp.out W2 _ _ _ _ (by omega) (by omega) (Xu.out _ rfl)) ?_;refine Hid.out ?_);refine gE ?_;go_wp2_with fail;go_ret;obtain⟨q,hq⟩:=lI.out;exact⟨by first|rfl |(rw[hcT];rfl),q,hq⟩
set_option maxRecDepth 100000 in
theorem DH(g n c i vb vc:Nat)(cur:Array Value)(xc:List Value)(w:World)(hg:w.heap[g]? =some (.cells cur 279 (0,0)))(hv:w.heap[vb]? =some (.cells xc.toArray 279 (0,0)))
  (xV:xc.length=2) (xU:i<n) (s_:n<=c) (lF:cur.size=c*2) (hn:n<=1000) (hm:c<=maxLen) (Gt:∀v∈xc,v.oneCell'=true):
  Calls ae 178 #[aj (some ⟨g,0,none⟩) n c,af ag i,af ag n,aj (some ⟨vb,0,none⟩) 1 vc] w fun e w'=>
   e=.returned (aj (some ⟨g,0,none⟩) (i+1) c)/\w'=w.setRow g (gW (gW cur.toList (i*2) xc) ((i+1)*2) (vW (n-(i+1)))).toArray:=by
 obtain⟨i0,nO,mB,kS,ln⟩:=info_parts Hy;have e1:=iD (l:=cur.toList) (o:=i*2) (cs:=xc) (by simp;omega)
 have HA:Hid (∀ty,(bF #[129,129] ty #[aj (some ⟨g,0,none⟩) i c,aj (some ⟨vb,0,none⟩) 1 vc]).run ae w=.ok (aj (some ⟨g,0,none⟩) (i+1) c) (w.setRow g (gW cur.toList (i*2) xc).toArray)):=by
  intro ty
  have h:=run_append_room (P:=ae) w 129 ty 279 i0 underlying129 nO g i c cur hg ⟨vb,0,none⟩ 1 vc xc (by rw[kS,xV]) (fun j u hj=>by
   rw[dq];simp only[aX,hv];simpa using hj) Gt (by omega) (by rw[kS,xV,lF];omega)
  rw[kS]at h;exact h
 have xR:(w.setRow g (gW cur.toList (i*2) xc).toArray).heap[g]? =some (.cells (gW cur.toList (i*2) xc).toArray 279 (0,0)):=setRow_heap _ _ cur _ _ _ hg
 have Cp:Hid (∀(W:World) (ty:TypeId) (dc:Nat),W=w.setRow g (gW cur.toList (i*2) xc).toArray->(bI #[129] ty #[aj (some ⟨g,(i+1)*2,none⟩) (n-(i+1)) dc]).run ae W
   = .ok (.tuple #[]) (w.setRow g (gW (gW cur.toList (i*2) xc) ((i+1)*2) (vW (n-(i+1)))).toArray)):=by
  intro W ty dc hW;obtain⟨W',h1,h2⟩:=Hv g ((i+1)*2) (n-(i+1)) dc _ W (by rw[hW];exact xR) (by rw[dj,e1];simp;omega) ty;rw[h1,h2,hW,setRow_setRow]
 have rq:i+1=n->w.setRow g (gW cur.toList (i*2) xc).toArray=w.setRow g (gW (gW cur.toList (i*2) xc) ((i+1)*2) (vW (n-(i+1)))).toArray:=by
  intro h
  congr 2
  rw[<-h];generalize gW cur.toList (i*2) xc=q;simp[gW,vW]
 replace rq:=gE rq;unfold maxLen at hm;have qt:((i:Int)==(n:Int))=false:=beq_eq_false_iff_ne.2 (by omega);have vK:¬(c=i):=by omega
 have hbi:(i:Int)<=(c:Int):=by omega
 have acq:(i:Int)<=(n:Int):=by omega
 have O4:(n:Int)<=(c:Int):=by omega
 have sk:IntKind.i64.wrap ((i:Int)+1)=(i:Int)+1:=by rw[di];omega
 have im:(0:Int)<=(i:Int)+1:=by omega
 have YO:((i:Int)+1).toNat=i+1:=by omega
 have u1:=run_underlying underlying129;have z1:=pD;clear e1 xR;by_cases jp:i+1<n
 ·have iT:¬(c=i+1):=by omega
  have mw:(i:Int)+1<(n:Int):=by omega
  have wG:(i:Int)+1<=(n:Int):=by omega
  go_enter func178,ntmps178;go_wp2_with (at_builtin;refine iY rfl _ _ 129 129 rfl _ _ rfl rfl (HA.out _) ?_;refine Hid.out ?_);refine gE ?_;generalize oX:dk w g _=W1;replace oX:=gE oX;go_wp2_with (refine lC rfl _ 129 rfl _ rfl (Cp.out W1 _ _ oX.out.symm) ?_;refine Hid.out ?_);refine gE ?_;go_wp2_with fail;go_ret;exact⟨rfl,rfl⟩
 ·have mw:¬((i:Int)+1<(n:Int)):=by omega
  go_enter func178,ntmps178;go_wp2_with (at_builtin;refine iY rfl _ _ 129 129 rfl _ _ rfl rfl (HA.out _) ?_;refine Hid.out ?_);refine gE ?_;generalize oX:dk w g _=W1;replace oX:=gE oX;go_wp2_with fail;go_ret;exact⟨rfl,by rw[<-oX.out];exact rq.out (by omega)⟩
set_option maxRecDepth 100000 in
theorem EI{v:Value}{n:Nat}{R:Value->World->Prop}(Fs:∃ao cap,lv=.slice ao n cap/\i<=n/\n<=cap/\cap<=9223372036854775807/\(ao=none->n=0/\cap=0)/\∀a,ao=some a->∃g,a =⟨g,0,none⟩)
  (H:Calls ae 200 #[lv,af ag i,v] w fun e w'=>∃iX,e=.returned iX/\R iX w'):Calls ae 178 #[lv,af ag i,af ag i,v] w fun e w'=>∃iX,e=.returned iX/\R iX w':=by
 obtain⟨ao,cap,rfl,hi,s_,nN,vL,qu⟩:=Fs;have HH:=gE H;clear H;have u1:=run_underlying underlying129;have z1:=pD
 cases ao with
 |none=>
  obtain⟨rfl,rfl⟩:=vL rfl;obtain rfl:i=0:=by omega
  clear vL qu;have H0:Hid (Calls ae 200 #[aj none 0 0,af ag 0,v] w fun e w'=>∃iX,e=.returned iX/\R iX w'):=HH.out;clear HH;go_enter func178,ntmps178;go_wp2_with fail;refine H0.out.mono ?_;rintro e w' ⟨v',rfl,hq⟩;have Rj:=gE hq;clear hq;go_wp2_with fail;go_ret;exact⟨_,rfl,Rj.out⟩
 |some a=>
  obtain⟨g,rfl⟩:=qu a rfl;clear vL qu;have hbi:(i:Int)<=(cap:Int):=by omega
  by_cases LL:cap=i
  ·subst LL;go_enter func178,ntmps178;go_wp2_with fail;refine HH.out.mono ?_;rintro e w' ⟨v',rfl,hq⟩;have Rj:=gE hq;clear hq;go_wp2_with fail;go_ret;exact⟨_,rfl,Rj.out⟩
  ·go_enter func178,ntmps178;go_wp2_with fail;refine HH.out.mono ?_;rintro e w' ⟨v',rfl,hq⟩;have Rj:=gE hq;clear hq;go_wp2_with fail;go_ret;exact⟨_,rfl,Rj.out⟩
theorem EH(l:List jT)(x:jT)(i j vb vc:Nat)(lv:Value)(w:World)(gY:w.ownsRow 0 279 2 lv l.length (iz l))(hv:w.heap[vb]? =some (.cells #[af ag x.1,x.2] 279 (0,0)))(js:lv.ownBlock≠some vb)(xU:i<=j)(hj:j<=l.length)(hn:l.length<=1000)
  (h1:∀r∈l,r.2.oneCell'=true) (hx:x.2.oneCell'=true):
  Calls ae 178 #[lv,af ag i,af ag j,aj (some ⟨vb,0,none⟩) 1 vc] w fun e w'=>
   ∃iX,e=.returned iX/\w'.ownsRow 0 279 2 iX (l.take i++x::l.drop j).length (iz (l.take i++x::l.drop j))/\w.grownBy w' lv.ownBlock/\(iX.ownBlock=lv.ownBlock\/∀g,iX.ownBlock=some g->w.heap.size<=g):=by
 have Pv:∀v∈[a8 .i64 x.1,x.2],v.oneCell'=true:=by
  intro v hv;simp only[cI,dy,or_false]at hv;rcases hv with rfl|rfl
  ·rfl
  ·exact hx
 rcases du xU with jp|rfl
 ·rcases gY.2 with⟨_,h0⟩|⟨g,cap,cur,rfl,_,hg,s_,nN,lF,pd⟩
  ·omega
  ·have lI:iz (l.take i++x::l.drop j)=(iz l).take (i*2)++[af ag x.1,x.2]++(iz l).drop (j*2):=by rw[oi,mW,tq,tp,br]
   have i8:(l.take i++x::l.drop j).length=i+1+(l.length-j):=by simp;omega
   have h3:=Kh (cur:=cur.toList) (cs:=iz l) (xc:=[af ag x.1,x.2]) (zs:=vW (l.length-(i+1+(l.length-j)))) (a:=i*2) (b:=j*2) (by rw[iy];exact pd) (by simp;omega) (by rw[iy];omega) (by rw[iy];simp;omega) (by rw[oW];simp;omega);rw[iy,<-lI,show i*2+[a8 .i64 x.1,x.2].length=(i+1)*2 from by simp;omega]at h3;have e1:=iD (l:=cur.toList) (o:=i*2) (cs:=[af ag x.1,x.2]) (by simp;omega);have e2:=iD (l:=gW cur.toList (i*2) [af ag x.1,x.2]) (o:=(i+1)*2) (cs:=(iz l).drop (j*2)) (by rw[e1,bt,iy];simp;omega);rcases du hj with qp|rfl
   ·refine(EJ g l.length cap i j vb vc cur [af ag x.1,x.2] (iz l) w hg hv (iy l) rfl pd jp qp s_ lF hn nN (pH h1) Pv).mono ?_;rintro e w' ⟨rfl,q,rfl⟩;rw[i8]
    have h4:=wU (w:=w) (n:=l.length) (m:=i+1+(l.length-j)) (c:=cap) (q:=q) (R:=gW (gW (gW cur.toList (i*2) [af ag x.1,x.2]) ((i+1)*2) ((iz l).drop (j*2))) ((i+1+(l.length-j))*2) (vW (l.length-(i+1+(l.length-j))))) hg
     (by rw[iD (by rw[e2,e1,oW];simp;omega),e2,e1];simpa using lF) (by omega) nN i8 (by rw[show(i+1+(l.length-j))*2=(i+1)*2+(l.length*2-j*2) from by omega];exact h3)
    exact⟨_,rfl,h4.1,h4.2,a_ rfl⟩
   ·refine(DH g l.length cap i vb vc cur [af ag x.1,x.2] w hg hv rfl jp s_ lF hn nN Pv).mono ?_;rintro e w' ⟨rfl,rfl⟩;have ed:(iz l).drop (l.length*2)=[]:=List.drop_eq_nil_of_le (by rw[iy];exact ay _)
    have eo:gW (gW cur.toList (i*2) [af ag x.1,x.2]) ((i+1)*2) []=gW cur.toList (i*2) [af ag x.1,x.2]:=by
     generalize gW cur.toList (i*2) [af ag x.1,x.2]=q;simp[gW]
    rw[ed,eo]at h3;rw[dv,Nat.add_zero]at h3 i8;rw[dv,Nat.add_zero]at h3;rw[i8]
    have h4:=wU (w:=w) (n:=l.length) (m:=i+1) (c:=cap) (q:=0) (R:=gW (gW cur.toList (i*2) [af ag x.1,x.2]) ((i+1)*2) (vW (l.length-(i+1)))) hg
     (by rw[iD (by rw[e1,oW];simp;omega),e1];simpa using lF) (by omega) nN i8 h3
    exact⟨_,rfl,h4.1,h4.2,a_ rfl⟩
 ·refine EI (n:=l.length) ?_ ((Ht l x i vb vc lv w gY hv js hj hn h1 hx).mono ?_)
  ·rcases gY.2 with⟨rfl,h0⟩|⟨g,cap,cur,rfl,_,hg,s_,nN,lF,pd⟩
   ·exact⟨none,0,by rw[h0],by omega,by omega,by omega,fun _=>⟨h0,rfl⟩,fun a h=>by cases h⟩
   ·refine⟨_,cap,rfl,hj,s_,by unfold maxLen at nN;omega,fun h=>(by cases h),fun a h=>⟨g,?_⟩⟩
    cases h
    rfl
  ·rintro e w' ⟨iX,rfl,ho,hg,ha⟩;refine⟨iX,rfl,?_,hg,ha⟩;have:(l.take i++x::l.drop i).length=l.length+1:=by simp;omega
   rw[this];exact ho
theorem Hs(g n c:Nat)(cur:Array Value)(cs:List Value)(w:World)(hg:w.heap[g]? =some (.cells cur 279 (0,0)))(mx:cs.length=n*2)(pd:cur.toList.take (n*2)=cs)(NP:0<n)(s_:n<=c)(lF:cur.size=c*2)(hn:n<=1000)(hm:c<=maxLen)(h1:∀v∈cs,v.oneCell'=true):
  Calls ae 180 #[aj (some ⟨g,0,none⟩) n c,af ag 0,af ag 1] w fun e w'=>
   e=.returned (aj (some ⟨g,0,none⟩) (n-1) c)/\∃q,w'=(w.drewN q).setRow g (gW (gW cur.toList 0 (cs.drop 2)) ((n-1)*2) (vW 1)).toArray:=by
 obtain⟨i0,nO,mB,kS,ln⟩:=info_parts Hy;have rX:(cs.drop 2).length=(n-1)*2:=by rw[bt,mx];omega
 have e1:=iD (l:=cur.toList) (o:=0) (cs:=cs.drop 2) (by rw[rX];simp;omega)
 have HA:Hid (∀(W:World) (ty:TypeId) (o dc:Nat),W.heap=w.heap->(o=2\/n=1)->(bF #[129,129] ty #[aj (some ⟨g,0,none⟩) 0 c,aj (some ⟨g,o,none⟩) (n-1) dc]).run ae W=.ok (aj (some ⟨g,0,none⟩) (n-1) c) (W.setRow g (gW cur.toList 0 (cs.drop 2)).toArray)):=by
  intro W ty o dc hW ho;have xR:W.heap[g]? =some (.cells cur 279 (0,0)):=by rw[hW];exact hg
  have h:=run_append_room (P:=ae) W 129 ty 279 i0 underlying129 nO g 0 c cur xR ⟨g,o,none⟩ (n-1) dc (cs.drop 2) (by rw[kS,rX]) (fun j u hj=>by
   have Jq:=(bm.1 hj).1;have ho':o=2:=by omega
   subst ho';rw[cJ,<-pd,bi (by omega)]at hj;rw[dq];simp only[aX,xR];simpa using hj) (fun v hv=>h1 v (dp hv)) (by omega) (by rw[rX,lF];omega)
  rw[Nat.zero_mul,aJ]at h;exact h
 have Cp:Hid (∀(W:World) (ty:TypeId) (dc:Nat),W.heap=(w.setRow g (gW cur.toList 0 (cs.drop 2)).toArray).heap->(bI #[129] ty #[aj (some ⟨g,(n-1)*2,none⟩) (n-(n-1)) dc]).run ae W
   = .ok (.tuple #[]) (W.setRow g (gW (gW cur.toList 0 (cs.drop 2)) ((n-1)*2) (vW 1)).toArray)):=by
  intro W ty dc hW;have e:n-(n-1)=1:=by omega
  rw[e];obtain⟨W',h1,rfl⟩:=Hv g ((n-1)*2) 1 dc _ W (by rw[hW];exact setRow_heap _ _ cur _ _ _ hg) (by rw[dj,e1];simp;omega) ty;exact h1
 unfold maxLen at hm;have im:(1:Int)<=(n:Int):=by omega
 have iT:(1:Int)<=(c:Int):=by omega
 have mw:(n:Int)<=(c:Int):=by omega
 have vK:¬(c=n-1):=by omega
 have wG:((n-1:Nat):Int)<=(n:Int):=by omega
 have wb:¬(c=0):=by omega
 have u1:=run_underlying underlying129;have z1:=pD;clear e1;by_cases km:c=1
 ·obtain rfl:n=1:=by omega
  subst km;go_enter func180,ntmps180;go_wp2_with fail
  go_region_law (refine vT rfl (.tmp 22) (.tmp 25) 129 129 rfl (aj (some ⟨g,0,none⟩) 0 1) (aj (some ⟨g,0,none⟩) 0 0) (by kernel_rfl) (by kernel_rfl) (HA.out _ _ 0 0 rfl (by simp)) ?_;generalize oX:dk _ g _=W1;replace oX:=gE oX;refine Hid.out ?_;refine gE ?_)
  have Uy:Hid (∀m:World,m.heap=W1.heap->m.heap=(w.setRow g (gW cur.toList 0 (cs.drop 2)).toArray).heap):=by
   intro m hm;rw[hm,<-oX.out]
   rfl
  go_wp2_with (refine lC rfl _ 129 rfl _ rfl (Cp.out W1 _ _ (Uy.out _ rfl)) ?_;refine Hid.out ?_);refine gE ?_;go_wp2_with fail;go_ret;refine⟨rfl,1,?_⟩;rw[<-oX.out];exact setRow_setRow (w.drewN 1) g (gW cur.toList 0 (cs.drop 2)).toArray _
 ·go_enter func180,ntmps180;go_wp2_with fail
  go_region_law (refine vT rfl (.tmp 22) (.tmp 25) 129 129 rfl (aj (some ⟨g,0,none⟩) 0 c) (aj (some ⟨g,2,none⟩) (n-1) (c-1)) (by kernel_rfl) (by kernel_rfl) (HA.out _ _ 2 (c-1) rfl (a_ rfl)) ?_;generalize oX:dk _ g _=W1;replace oX:=gE oX;refine Hid.out ?_;refine gE ?_)
  have Uy:Hid (∀m:World,m.heap=W1.heap->m.heap=(w.setRow g (gW cur.toList 0 (cs.drop 2)).toArray).heap):=by
   intro m hm;rw[hm,<-oX.out]
   rfl
  go_wp2_with (refine lC rfl _ 129 rfl _ rfl (Cp.out W1 _ _ (Uy.out _ rfl)) ?_;refine Hid.out ?_);refine gE ?_;go_wp2_with fail;go_ret;refine⟨rfl,1,?_⟩;rw[<-oX.out];exact setRow_setRow (w.drewN 1) g (gW cur.toList 0 (cs.drop 2)).toArray _
theorem Hr(r:jT)(l:List jT)(lv:Value)(w:World)(gY:w.ownsRow 0 279 2 lv (r::l).length (iz (r::l)))(hn:(r::l).length<=1000)(h1:∀q∈r::l,q.2.oneCell'=true):
  Calls ae 180 #[lv,af ag 0,af ag 1] w fun e w'=>
   ∃iX,e=.returned iX/\w'.ownsRow 0 279 2 iX l.length (iz l)/\w.grownBy w' lv.ownBlock/\iX.ownBlock=lv.ownBlock:=by
 rcases gY.2 with⟨_,h0⟩|⟨g,cap,cur,rfl,_,hg,s_,nN,lF,pd⟩
 ·simp at h0
 ·have hl:=iy (r::l);refine(Hs g (r::l).length cap cur (iz (r::l)) w hg hl pd (by simp) s_ lF hn nN (pH h1)).mono ?_;rintro e w' ⟨rfl,q,rfl⟩;have hd:(iz (r::l)).drop 2=iz l:=by rw[mW];rfl
  have h3:=RM (cur:=cur.toList) (cs:=iz (r::l)) (zs:=vW 1) (by rw[hl];simp at s_⊢;omega) (by rw[hl];simp;omega) (by rw[oW]);have i8:(r::l).length-1=l.length:=by simp
  rw[hl,show(r::l).length*2-2=l.length*2 from by simp;omega,hd]at h3;rw[i8,hd];have mx:=iy l;have Pp:l.length+1<=cap:=by simpa using s_
  have e1:=iD (l:=cur.toList) (o:=0) (cs:=iz l) (by rw[mx];simp;omega);have h4:=wU (w:=w) (n:=(r::l).length) (m:=l.length) (c:=cap) (q:=q) (R:=gW (gW cur.toList 0 (iz l)) (l.length*2) (vW 1)) hg (by rw[iD (by rw[e1,oW];simp;omega),e1];simpa using lF) (by omega) nN rfl h3;exact⟨_,rfl,h4.1,h4.2,rfl⟩
theorem o7(f:Int)(n cap:Nat)(ao:Option Addr)(w:World)(hf:-4611686018427387904<=f/\f<=4611686018427387904)(hn:n<=4611686018427387):
  Calls ae 176 #[.agg #[af ag f,.slice ao n cap]] w fun e w'=>e=.returned (af ag (f+n))/\Below w.heap.size w w':=by
 obtain⟨h0,h1⟩:=hf;go_enter func176,ntmps176
 go_wp2
 go_ret;exact⟨rfl,gH w _⟩
theorem EE(f first behind:Int)(n cap p1 p2:Nat)(ao:Option Addr)(w:World)(hf:-4611686018427387904<=f/\f<=4611686018427387904)(hn:n<=4611686018427387)(h1:w.cell? ⟨p1,0,none⟩= some (af ag first))(h2:w.cell? ⟨p2,0,none⟩= some (af ag behind)):
  Calls ae 175 #[.agg #[af ag f,.slice ao n cap],ai (some ⟨p1,0,none⟩),ai (some ⟨p2,0,none⟩)] w fun e w'=>e=.returned (.bool (decide (f<=first)&&decide (behind<=f+n)))/\Below w.heap.size w w':=by
 have sj:=jh h1;have rC:=jh h2;have HB:Hid (∀W,Calls ae 176 #[.agg #[af ag f,.slice ao n cap]] W fun e w'=>e=.returned (af ag (f+n))/\Below W.heap.size W w'):=fun W=>o7 f n cap ao W hf hn
 have HA:Hid (∀W w':World,Below W.heap.size W w'->(W.cell? ⟨p1,0,none⟩= some (af ag first)/\W.cell? ⟨p2,0,none⟩= some (af ag behind)/\W.cell? ⟨w.heap.size,0,none⟩= some (af ag f)/\W.cell? ⟨w.heap.size,1,none⟩= some (.slice ao n cap))->
   (w'.cell? ⟨p1,0,none⟩= some (af ag first)/\w'.cell? ⟨p2,0,none⟩= some (af ag behind)/\w'.cell? ⟨w.heap.size,0,none⟩= some (af ag f)/\w'.cell? ⟨w.heap.size,1,none⟩= some (.slice ao n cap))):=
  fun W w' hb h=>⟨gF h.1 hb,gF h.2.1 hb,gF h.2.2.1 hb,gF h.2.2.2 hb⟩
 by_cases uV:f<=first
 ·have hd:decide (f<=first)=true:=by simpa using uV
  go_enter func175,ntmps175;go_wp2_with fail
  go_region_held3 (fun w'=>w'.cell? ⟨p1,0,none⟩= some (af ag first)/\w'.cell? ⟨p2,0,none⟩= some (af ag behind)/\w'.cell? ⟨w.heap.size,0,none⟩= some (af ag f)/\w'.cell? ⟨w.heap.size,1,none⟩= some (.slice ao n cap)) (first|assumption|go_keep) (first
   |(go_at_call 176;refine(HB.out _).mono ?_;rintro e wq ⟨rfl,qt⟩;have yU:=HA.out _ _ qt (by assumption)))
  go_wp2_with fail;go_ret;exact⟨by rw[hd];rfl,gI (gH w _) (ib qt)⟩
 ·have hd:decide (f<=first)=false:=by simpa using uV
  go_enter func175,ntmps175;go_wp2_with fail
  go_quiet (fail)
  go_wp2_with fail;go_ret;refine⟨by rw[hd];rfl,?_⟩;exact gK (gH w _) _
theorem BU(vs:List jT)(rl:List iK)(lv:Value)(first behind:Int)(p1 p2:Nat)(w:World)(gY:w.ownsRow 0 279 2 lv vs.length (iz vs))(rD:o_ vs rl)(hb:∀r∈rl,-4611686018427387904<=r.1/\r.1<=4611686018427387904/\r.2.length<=4611686018427387)(hn:vs.length<=1000)
  (h1:w.cell? ⟨p1,0,none⟩= some (af ag first)) (h2:w.cell? ⟨p2,0,none⟩= some (af ag behind)):
  Calls ae 199 #[lv,.func (.func 175) #[] #[ai (some ⟨p1,0,none⟩),ai (some ⟨p2,0,none⟩)]] w fun e w'=>
   (∃k:Int,e=.returned (af ag k)/\(0<=k↔(rl.any fun r=>decide (r.1<=first)&&decide (behind<=h_ r))=true))/\Below w.heap.size w w':=by
 obtain⟨ao,cap,rfl⟩:=iA gY;have HO:=gE gY;have HS:=gE rD;have HB:=gE hb;clear gY rD hb;go_enter func199,ntmps199;go_wp2_with fail
 go_loopw [8] (fun i wr=>∃k:Nat,k<=vs.length/\i=af ag k/\Below w.heap.size w wr/\Hid (∀(j:Nat) r,j<k->rl[j]? =some r->(decide (r.1<=first)&&decide (behind<=h_ r))=false)) (fun i _=>vs.length-(intOf i).toNat)
 case atStart=>exact⟨0,aI _,rfl,Below.refl _ _,fun j r hj=>by omega⟩
 case round=>
  obtain⟨k,hk,rfl,mq,ka⟩:=hrel;by_cases jp:k<vs.length
  ·obtain⟨v,hv⟩:∃v,vs[k]? =some v:=⟨_,am jp⟩;obtain⟨r,hr⟩:∃r,rl[k]? =some r:=⟨_,am (by rw[<-HS.out.1];exact jp)⟩;obtain⟨e1,uZ,tK,e2,Jh⟩:=HS.out.2 k v r hv hr;obtain⟨v1,v2⟩:=v;simp only at e1 e2;subst e1 e2;have gY:=iB HO.out mq;rcases gY.2 with⟨_,h0⟩|⟨g,n_,cur,e3,_,hg,s_,nN,lF,pd⟩
   ·omega
   simp only[Value.slice.injEq]at e3;obtain⟨rfl,_,rfl⟩:=e3;obtain⟨q1,q2⟩:=o0 hv;have c1:wr.cell? ⟨g,k*2,none⟩= some (af ag r.1):=by rw[gY.cellAt (k*2) (by omega)];exact q1
   have c2:wr.cell? ⟨g,k*2+1,none⟩= some (.slice uZ r.2.length tK):=by rw[gY.cellAt (k*2+1) (by omega)];exact q2
   have O3:=HB.out r (bT hr);have HC:=gE (EE r.1 first behind r.2.length tK p1 p2 uZ wr ⟨O3.1,O3.2.1⟩ O3.2.2 (gF h1 mq) (gF h2 mq));have HR:=gE hr;have uW:=gE mq;have HN:=gE ka;clear gY hg pd lF nN q1 q2 O3 hr hv ka;go_wp2_with fail;refine HC.out.mono ?_;rintro e w1 ⟨rfl,im⟩;have pg:=gE (gI uW.out im);clear im HC uW mq c1 c2
   cases hc:(decide (r.1<=first)&&decide (behind<=r.1+(r.2.length:Int)))
   ·go_wp2_with fail
    go_roundw
    case rel=>
     refine⟨k+1,by omega,by go_num,pg.out,fun j r' hj oq=>?_⟩;rcases aD j k with h3|h3
     ·exact HN.out j r' h3 oq
     ·obtain rfl:j=k:=by omega
      obtain rfl:=Option.some.inj (HR.out.symm.trans oq);exact hc
    case measure=>simp[intOf];omega
   ·go_wp2_with fail;go_ret;refine⟨⟨k,rfl,?_⟩,pg.out⟩;refine⟨fun _=>?_,fun _=>by omega⟩;rw[List.any_eq_true];exact⟨r,bT HR.out,hc⟩
  ·obtain rfl:k=vs.length:=by omega
   have HN:=gE ka;have uW:=gE mq;clear ka mq;go_wp2_with fail;go_ret;refine⟨⟨-1,rfl,?_⟩,uW.out⟩;refine⟨fun h=>by omega,fun h=>?_⟩;rw[List.any_eq_true]at h;obtain⟨r,hr,h3⟩:=h;obtain⟨j,hj,rfl⟩:=List.getElem_of_mem hr;have:=HN.out j rl[j] (by rw[HS.out.1];exact hj) (am hj);rw[this]at h3
   cases h3
theorem DG(vs:List jT)(rl:List iK)(lv:Value)(first behind:Int)(p1 p2:Nat)(w:World)(gY:w.ownsRow 0 279 2 lv vs.length (iz vs))(rD:o_ vs rl)(hb:∀r∈rl,-4611686018427387904<=r.1/\r.1<=4611686018427387904/\r.2.length<=4611686018427387)(hn:vs.length<=1000)
  (h1:w.cell? ⟨p1,0,none⟩= some (af ag first)) (h2:w.cell? ⟨p2,0,none⟩= some (af ag behind)):
  Calls ae 174 #[lv,.func (.func 175) #[] #[ai (some ⟨p1,0,none⟩),ai (some ⟨p2,0,none⟩)]] w fun e w'=>
   e=.returned (.bool (rl.any fun r=>decide (r.1<=first)&&decide (behind<=h_ r)))/\Below w.heap.size w w':=by
 have HI:=gE (BU vs rl lv first behind p1 p2 w gY rD hb hn h1 h2);clear gY rD hb hn h1 h2;go_enter func174,ntmps174;go_wp2_with fail;refine HI.out.mono ?_;rintro e w1 ⟨⟨k,rfl,hk⟩,im⟩;have HK:=gE hk;clear hk HI
 have Sk:decide (0<=k)=(rl.any fun r=>decide (r.1<=first)&&decide (behind<=h_ r)):=by
  rw[Bool.eq_iff_iff,decide_eq_true_iff];exact HK.out
 replace Sk:=gE Sk;go_wp2_with fail;go_ret;refine⟨?_,im⟩;rw[<-Sk.out]
 rfl
theorem Hq(vs:List jT)(rl:List iK)(lv:Value)(first behind:Int)(rb off:Nat)(w:World)(hc:w.cell? ⟨rb,off,none⟩= some lv)(gY:w.ownsRow 0 279 2 lv vs.length (iz vs))(rD:o_ vs rl)(hb:∀r∈rl,-4611686018427387904<=r.1/\r.1<=4611686018427387904/\r.2.length<=4611686018427387)(hn:vs.length<=1000):
  Calls ae 148 #[ai (some ⟨rb,off,none⟩),af ag first,af ag behind] w fun e w'=>e=.returned (.bool (kh rl first behind))/\Below w.heap.size w w':=by
 have jp:=jh hc;obtain⟨ao,cap,rfl⟩:=iA gY;have pg:Below w.heap.size w ((w.alloc (.cells #[af ag first] 3)).alloc (.cells #[af ag behind] 3)):=(gH w _).alloc (by simp) _;have HI:=gE (DG vs rl _ first behind w.heap.size (w.heap.size+1) _ (iB gY pg) rD hb hn (by simp) (by simp));have HB:=gE pg;clear gY rD hb hn pg;by_cases uV:behind<=first
 ·have hd:decide (behind<=first)=true:=by simpa using uV
  go_enter func148,ntmps148;go_wp2_with fail;go_ret;exact⟨by unfold kh;rw[hd];rfl,HB.out⟩
 ·have hd:decide (behind<=first)=false:=by simpa using uV
  go_enter func148,ntmps148;go_wp2_with fail;refine HI.out.mono ?_;rintro e w1 ⟨rfl,im⟩;have pg:=gE (gI HB.out im);clear im HI HB;go_wp2_with fail;go_ret;exact⟨by unfold kh;rw[hd,Bool.false_or];rfl,pg.out⟩
abbrev uR(rb off g b0 k:Nat)(lv:Value)(f:Int)(iv:Value)(a:Int)(av:Value)(w:World):Prop:=
 w.cell? ⟨rb,off,none⟩= some lv/\w.cell? ⟨g,k*2,none⟩= some (af ag f)/\w.cell? ⟨g,k*2+1,none⟩= some iv/\w.cell? ⟨b0,0,none⟩= some (af ag a)/\w.cell? ⟨b0,1,none⟩= some av
theorem uR.below{g b0 k:Nat}{f:Int}{iv:Value}{a:Int}{av:Value}(h:uR rb off g b0 k lv f iv a av w)(hb:Below w.heap.size w w'):uR rb off g b0 k lv f iv a av w':=
 ⟨gF h.1 hb,gF h.2.1 hb,gF h.2.2.1 hb,gF h.2.2.2.1 hb,gF h.2.2.2.2 hb⟩
theorem DI(vs:List jT)(rl:List iK)(lv:Value)(a:iK)(aa:Option Addr)(ac:Nat)(rb off:Nat)(w:World)(hc:w.cell? ⟨rb,off,none⟩= some lv)(gY:w.ownsRow 0 279 2 lv vs.length (iz vs))(rD:o_ vs rl)(hb:∀r∈rl,-4611686018427387904<=r.1/\r.1<=4611686018427387904/\r.2.length<=4611686018427387)(hn:vs.length<=1000)
  (ha:-4611686018427387904<=a.1/\a.1<=4611686018427387904/\a.2.length<=4611686018427387):
  Calls ae 177 #[ai (some ⟨rb,off,none⟩),.agg #[af ag a.1,.slice aa a.2.length ac]] w fun e w'=>e=.returned (.tuple #[af ag (nQ rl a),af ag (Ci rl a)])/\Below w.heap.size w w':=by
 obtain⟨ao,cap,rfl⟩:=iA gY;have jp:=jh hc;have pg:Below w.heap.size w (w.alloc (.cells #[af ag a.1,.slice aa a.2.length ac] 279)):=gH w _;have i8:=rD.1
 have HK:Hid (∀(k:Nat) (wr:World),k<vs.length->Below (w.heap.size+1) (w.alloc (.cells #[af ag a.1,.slice aa a.2.length ac] 279)) wr->∃g r ri rc,ao=some ⟨g,0,none⟩/\rl[k]? =some r/\uR rb off g w.heap.size k (.slice ao vs.length cap) r.1 (.slice ri r.2.length rc) a.1 (.slice aa a.2.length ac) wr/\-4611686018427387904<=r.1/\r.1<=4611686018427387904/\r.2.length<=4611686018427387):=by
  intro k wr hk mq;have lS:Below w.heap.size w wr:=gI pg (by simpa using mq);obtain⟨v,hv⟩:∃v,vs[k]? =some v:=⟨_,am hk⟩;obtain⟨r,hr⟩:∃r,rl[k]? =some r:=⟨_,am (by rw[<-i8];exact hk)⟩;obtain⟨e1,uZ,tK,e2,_⟩:=rD.2 k v r hv hr;obtain⟨v1,v2⟩:=v;simp only at e1 e2;subst e1 e2;have je:=iB gY lS;rcases je.2 with⟨_,h0⟩|⟨g,n_,cur,e3,_,hg,s_,nN,lF,pd⟩
  ·omega
  simp only[Value.slice.injEq]at e3;obtain⟨rfl,_,rfl⟩:=e3;obtain⟨q1,q2⟩:=o0 hv;have O3:=hb r (bT hr);refine⟨g,r,uZ,tK,rfl,hr,⟨gF hc lS,?_,?_,?_,?_⟩,O3⟩
  ·rw[je.cellAt (k*2) (by omega)];exact q1
  ·rw[je.cellAt (k*2+1) (by omega)];exact q2
  ·rw[mq.cell (by simp)];simp
  ·rw[mq.cell (by simp)];simp
 have HL:Hid (∀wr,Below (w.heap.size+1) (w.alloc (.cells #[af ag a.1,.slice aa a.2.length ac] 279)) wr->wr.cell? ⟨rb,off,none⟩= some (.slice ao vs.length cap)):=by
  intro wr mq;exact gF hc (gI pg (by simpa using mq))
 have Ul:=gE ha;have qX:=gE i8;have Ie:=gE pg;clear gY rD hb hc i8 pg ha;go_enter func177,ntmps177;go_wp2_with fail
 go_loopw [6] (fun i wr=>∃k:Nat,k<=vs.length/\i=af ag k/\Below (w.heap.size+1) (w.alloc (.cells #[af ag a.1,.slice aa a.2.length ac] 279)) wr/\Hid (∀(j:Nat) r,j<k->rl[j]? =some r->decide (h_ r<a.1)=true)) (fun i _=>vs.length-(intOf i).toNat)
 case atStart=>exact⟨0,aI _,rfl,Below.refl _ _,fun j r hj=>by omega⟩
 case round=>
  obtain⟨k,hk,rfl,mq,ka⟩:=hrel;by_cases yu:k<vs.length
  ·obtain⟨g,r,ri,rc,rfl,hr,hT,rG,ue,vi⟩:=HK.out k wr yu mq;have hd:decide ((k:Int)<(vs.length:Int))=true:=by simp;omega
   have HX:Hid (∀W,Calls ae 176 #[.agg #[af ag r.1,.slice ri r.2.length rc]] W fun e w'=>e=.returned (af ag (r.1+r.2.length))/\Below W.heap.size W w'):=fun W=>o7 r.1 r.2.length rc ri W ⟨rG,ue⟩ vi
   obtain⟨t1,t2,t3,t4,t5⟩:=id hT;have uW:=gE mq;have HN:=gE ka;have HR:=gE hr;clear mq ka hr;go_wp2_with fail
   go_region_held3 (fun w'=>w'.cell? ⟨rb,off,none⟩= some (aj (some ⟨g,0,none⟩) vs.length cap)/\w'.cell? ⟨g,k*2,none⟩= some (af ag r.1)/\w'.cell? ⟨g,k*2+1,none⟩= some (.slice ri r.2.length rc)/\w'.cell? ⟨w.heap.size,0,none⟩= some (af ag a.1)/\w'.cell? ⟨w.heap.size,1,none⟩= some (.slice aa a.2.length ac)) (first|assumption|go_keep) (first
    |(go_at_call 176;refine(HX.out _).mono ?_;rintro e wq ⟨rfl,qt⟩;have yU:=uR.below (by assumption) qt))
   have yb:=gE (u_ uW.out qt);clear qt yU hT t1 t2 t3 t4 t5 HX uW;by_cases km:r.1+(r.2.length:Int)<a.1
   ·go_wp2_with fail
    go_roundw
    case rel=>
     refine⟨k+1,by omega,by go_num,yb.out,fun j r' hj oq=>?_⟩;rcases aD j k with h3|h3
     ·exact HN.out j r' h3 oq
     ·obtain rfl:j=k:=by omega
      obtain rfl:=Option.some.inj (HR.out.symm.trans oq);exact decide_eq_true km
    case measure=>simp[intOf];omega
   ·have HF:Hid (nQ rl a=k):=sy (by rw[<-qX.out];exact hk) HN.out (fun r' oq=>by
     obtain rfl:=Option.some.inj (HR.out.symm.trans oq);exact decide_eq_false (by unfold h_;exact km))
    clear HN HR;go_wp2_with fail
    go_loopw [7] (fun i wr=>∃m:Nat,k<=m/\m<=vs.length/\i=af ag m/\Below (w.heap.size+1) (w.alloc (.cells #[af ag a.1,.slice aa a.2.length ac] 279)) wr/\Hid (∀(j:Nat) r,k<=j->j<m->rl[j]? =some r->decide (r.1<=h_ a)=true)) (fun i _=>vs.length-(intOf i).toNat)
    case atStart=>exact⟨k,ay _,hk,rfl,yb.out,fun j r h1 h2=>by omega⟩
    case round=>
     obtain⟨m,T5,hm,rfl,tO,yv⟩:=hrel;by_cases B_:m<vs.length
     ·obtain⟨g2,r2,ri2,rc2,e2,LY,UZ,yX,uD,Cd⟩:=HK.out m wr B_ tO
      first|subst e2 |(obtain rfl:=Addr.mk.inj (Option.some.inj e2) |>.1)
      have NH:decide ((m:Int)<(vs.length:Int))=true:=(by simp;omega);have Iw:Hid (∀W,Calls ae 176 #[.agg #[af ag a.1,.slice aa a.2.length ac]] W fun e w'=>e=.returned (af ag (a.1+a.2.length))/\Below W.heap.size W w'):=fun W=>o7 a.1 a.2.length ac aa W ⟨Ul.out.1,Ul.out.2.1⟩ Ul.out.2.2
      obtain⟨u1,u2,u3,u4,u5⟩:=id UZ;have Co:=gE tO;have It:=gE yv;have V8:=gE LY;clear tO yv LY;go_wp2_with fail
      go_region_held3 (fun w'=>w'.cell? ⟨rb,off,none⟩= some (aj (some ⟨g,0,none⟩) vs.length cap)/\w'.cell? ⟨g,m*2,none⟩= some (af ag r2.1)/\w'.cell? ⟨g,m*2+1,none⟩= some (.slice ri2 r2.2.length rc2)/\w'.cell? ⟨w.heap.size,0,none⟩= some (af ag a.1)/\w'.cell? ⟨w.heap.size,1,none⟩= some (.slice aa a.2.length ac)) (first|assumption|go_keep) (first
       |(go_at_call 176;refine(Iw.out _).mono ?_;rintro e wq2 ⟨rfl,LI⟩;have XQ:=uR.below (by assumption) LI))
      have Q':=gE (u_ Co.out LI);clear LI XQ UZ u1 u2 u3 u4 u5 Iw;by_cases nr:r2.1<=a.1+(a.2.length:Int)
      ·go_wp2_with fail
       go_roundw
       case rel=>
        refine⟨m+1,by omega,by omega,by go_num,Q'.out,fun j r' h1 h2 oq=>?_⟩;rcases aD j m with h3|h3
        ·exact It.out j r' h1 h3 oq
        ·obtain rfl:j=m:=by omega
         obtain rfl:=Option.some.inj (V8.out.symm.trans oq);exact decide_eq_true nr
       case measure=>simp[intOf];omega
      ·have HT:Hid (Ci rl a=m):=FT HF.out T5 (by rw[<-qX.out];exact hm) It.out (fun r' oq=>by
        obtain rfl:=Option.some.inj (V8.out.symm.trans oq);exact decide_eq_false (by unfold h_;exact nr))
       go_wp2_with fail
       go_ret2
       exact⟨by rw[HF.out,HT.out];rfl,gI Ie.out (by simpa using Q'.out)⟩
     ·obtain rfl:m=vs.length:=by omega
      have NH:decide (((vs.length:Nat):Int)<(vs.length:Int))=false:=by simp
      have rC:=HL.out wr tO;have Co:=gE tO
      have HT:Hid (Ci rl a=vs.length):=FT HF.out T5 (by rw[<-qX.out];exact hm) yv (fun r' oq=>by
       have:=(bm.1 oq).1;have:=qX.out;omega)
      clear tO yv;go_wp2_with fail
      go_quiet (fail)
      go_wp2_with fail
      go_ret2
      exact⟨by rw[HF.out,HT.out];rfl,gI Ie.out (by simpa using gK Co.out _)⟩
  ·obtain rfl:k=vs.length:=by omega
   have hd:decide (((vs.length:Nat):Int)<(vs.length:Int))=false:=by simp
   have sj:=HL.out wr mq
   have HF:Hid (nQ rl a=vs.length):=sy (by rw[<-qX.out];exact hk) ka (fun r' oq=>by
    have:=(bm.1 oq).1;have:=qX.out;omega)
   have Nj:=gE mq;clear mq ka;go_wp2_with fail
   go_quiet (fail)
   have yb:=gE (gK Nj.out nq);clear Nj;go_wp2_with fail
   go_loopw [7] (fun i wr=>∃m:Nat,vs.length<=m/\m<=vs.length/\i=af ag m/\Below (w.heap.size+1) (w.alloc (.cells #[af ag a.1,.slice aa a.2.length ac] 279)) wr/\Hid (∀(j:Nat) r,vs.length<=j->j<m->rl[j]? =some r->decide (r.1<=h_ a)=true)) (fun i _=>vs.length-(intOf i).toNat)
   case atStart=>exact⟨vs.length,ay _,hk,rfl,yb.out,fun j r h1 h2=>by omega⟩
   case round=>
    obtain⟨m,T5,hm,rfl,tO,yv⟩:=hrel;obtain rfl:m=vs.length:=by omega
    have NH:decide (((vs.length:Nat):Int)<(vs.length:Int))=false:=by simp
    have rC:=HL.out wr tO;have Co:=gE tO
    have HT:Hid (Ci rl a=vs.length):=FT HF.out T5 (by rw[<-qX.out];exact hm) yv (fun r' oq=>by
     have:=(bm.1 oq).1;have:=qX.out;omega)
    clear tO yv;go_wp2_with fail
    go_quiet (fail)
    go_wp2_with fail
    go_ret2
    exact⟨by rw[HF.out,HT.out];rfl,gI Ie.out (by simpa using gK Co.out _)⟩
theorem Fw:(ae.info? 230).map (fun i=>(i.zero,i.size,i.bytes))=some (some (.agg #[]),0,0):=by kernel_rfl
theorem PR(n:Nat)(hn:n<=4611686018427)(u:World):(Instr.makeSlice 232 (af ag (n:Int)) (af ag (n:Int))).run ae u=.ok (aj (some ⟨u.heap.size,0,none⟩) n n) (u.alloc (.cells #[] 230)):=by
 obtain⟨i0,nO,mB,kS,ln⟩:=info_parts Fw;have h:=run_make (P:=ae) u 232 230 i0 (.agg #[]) underlying232 nO mB .i64 .i64 (n:Int) (n:Int) (by omega) (Int.le_refl _) (by rw[ln];omega) (by omega);have e:((n:Nat):Int).toNat=n:=by omega
 have e3:madeCells (dE #[]).cells 0=#[]:=Array.eq_empty_of_size_eq_zero (by simp[madeCells]);rw[e,kS,Nat.mul_zero,e3]at h;exact h
theorem OO(d s:Option Addr)(dl dc sl sc:Nat)(ty:TypeId)(W:World):(bH #[232,232] ty #[.slice d dl dc,.slice s sl sc]).run ae W=.ok (goInt (dC sl dl)) W:=by
 obtain⟨i0,nO,mB,kS,ln⟩:=info_parts Fw
 have hf:(dL i0.size (dC sl dl) (.slice s sl sc)).run ae W=.ok #[] W:=by
  cases s with
  |none=>exact run_firstCells_none (P:=ae) W i0.size _ sl sc
  |some a=>exact run_firstCells_some (P:=ae) W i0.size _ a sl sc [] (by rw[kS];simp) (fun j v h=>by simp at h)
 cases d with
 |none=>simp[bH,run_underlying underlying232,Builtin.lenOf,sizeOf,typeInfo,nO,hf]
 |some a=>simp[bH,run_underlying underlying232,Builtin.lenOf,sizeOf,typeInfo,nO,hf,storeCells]
theorem M6(a:iK)(av tv:Value)(vs:List jT)(M:List iK)(w:World)(ha:∃aa ac,av=.slice aa a.2.length ac)(ha0:0<a.2.length)(hp:UC w tv vs)(rD:o_ vs M)(pA:∀r∈M,0<r.2.length)
  (hb:∀r∈a::M,0<=r.1/\h_ r<=1099511627776) (hn:vs.length<=1000):
  Calls ae 179 #[.agg #[af ag a.1,av],tv] w fun e w'=>∃J n,e=.returned (.agg #[af ag (oe a M).1,aj (some ⟨J,0,none⟩) n n])/\n=(oe a M).2.length/\w.heap.size<=J/\Below w.heap.size w w':=by
 obtain⟨ta,tc,rfl,hpk⟩:=hp;obtain⟨aa,ac,rfl⟩:=ha;have hA:=hb a (by simp);have hAb:h_ a=a.1+a.2.length:=rfl;have HX:Hid (∀W,Calls ae 176 #[.agg #[af ag a.1,.slice aa a.2.length ac]] W fun e w'=>e=.returned (af ag (a.1+a.2.length))/\Below W.heap.size W w'):=fun W=>o7 a.1 a.2.length ac aa W (by omega) (by omega)
 have HA:Hid (∀W w':World,Below W.heap.size W w'->(W.cell? ⟨w.heap.size,0,none⟩= some (af ag a.1)/\W.cell? ⟨w.heap.size,1,none⟩= some (.slice aa a.2.length ac))->(w'.cell? ⟨w.heap.size,0,none⟩= some (af ag a.1)/\w'.cell? ⟨w.heap.size,1,none⟩= some (.slice aa a.2.length ac))):=
  fun W w' hb h=>⟨gF h.1 hb,gF h.2 hb⟩
 go_enter func179,ntmps179;go_wp2_with fail
 go_region_held3 (fun w'=>w'.cell? ⟨w.heap.size,0,none⟩= some (af ag a.1)/\w'.cell? ⟨w.heap.size,1,none⟩= some (.slice aa a.2.length ac)) (first|assumption|go_keep) (first
  |(go_at_call 176;refine(HX.out _).mono ?_;rintro e wq ⟨rfl,qt⟩;have yU:=HA.out _ _ qt (by assumption)))
 have ZL:Below w.heap.size w wq:=gI ((gH w _).alloc (by simp) _) (ib qt)
 have hR:wq.heap[w.heap.size+1]? =some (.cells #[af ag 0,aj none 0 0] 279 (0,0)):=by
  rw[qt.block (w.heap.size+1) (by simp[World.drew])];have:=heap_alloc_new (w.alloc (.cells #[af ag a.1,.slice aa a.2.length ac] 279)) (.cells #[af ag 0,aj none 0 0] 279);simpa[World.drew] using this
 obtain⟨s0,s1⟩:=yU;have hWs:w.heap.size+2<=wq.heap.size:=by have:=qt.size;simpa[World.drew] using this
 have HBq:=gE ZL;have HR:=gE hR;have DZ:=gE s0;have K0:=gE s1
 have HK:Hid (∀(k:Nat) (wr:World),k<vs.length->Below wq.heap.size wq wr->∃g o r rv rc,ta=some ⟨g,o,none⟩/\M[k]? =some r/\wr.cell? ⟨g,o+k*2,none⟩= some (af ag r.1)/\wr.cell? ⟨g,o+k*2+1,none⟩= some (.slice rv r.2.length rc)/\0<=r.1/\h_ r<=1099511627776/\0<r.2.length):=by
  intro k wr hk mq;have lS:Below w.heap.size w wr:=gI HBq.out mq;obtain⟨v,hv⟩:∃v,vs[k]? =some v:=⟨_,am hk⟩;obtain⟨r,hr⟩:∃r,M[k]? =some r:=⟨_,am (by rw[<-rD.1];exact hk)⟩;obtain⟨e1,uZ,tK,e2,_⟩:=rD.2 k v r hv hr;obtain⟨g,o,e3,c1,c2⟩:=hpk k v hv;have h5:=hb r (by simp[bT hr]);rw[e2]at c2;rw[e1]at c1;exact⟨g,o,r,uZ,tK,e3,hr,gF c1 lS,gF c2 lS,h5.1,h5.2,pA r (bT hr)⟩
 have qX:=gE rD.1
 have HLo:Hid (∀k,0<=qb a (M.take k)/\qb a (M.take k)<=a.1/\h_ a<=wd a (M.take k)/\wd a (M.take k)<=1099511627776):=by
  intro k;have h1:=AF (M:=M.take k) a;have h2:=Ay (M:=M.take k) a;refine⟨?_,h1.1,h2.1,?_⟩
  ·rcases GM (M:=M.take k) a with h|⟨q,hq,h⟩
   ·rw[h];exact hA.1
   ·rw[h];exact(hb q (by simp[bZ hq])).1
  ·rcases GC (M:=M.take k) a with h|⟨q,hq,h⟩
   ·rw[h];exact hA.2
   ·rw[h];exact(hb q (by simp[bZ hq])).2
 clear hpk rD pA hb qt ZL hR s0 s1 HX HA;go_wp2_with fail
 go_loopw [5,6,18] (fun s5 s6 i wr=>∃k:Nat,k<=vs.length/\i=af ag k/\s5=af ag (qb a (M.take k))/\s6=af ag (wd a (M.take k))/\Below wq.heap.size wq wr) (fun _ _ i _=>vs.length-(intOf i).toNat)
 case atStart=>exact⟨0,aI _,rfl,rfl,rfl,Below.refl _ _⟩
 case round=>
  obtain⟨k,hk,rfl,rfl,rfl,mq⟩:=hrel;have hL:=HLo.out k;by_cases yu:k<vs.length
  ·obtain⟨g,o,r,rv,rc,rfl,hr,c1,c2,rG,ue,vi⟩:=HK.out k wr yu mq;have Ae:h_ r=r.1+r.2.length:=rfl;have HX:Hid (∀W,Calls ae 176 #[.agg #[af ag r.1,.slice rv r.2.length rc]] W fun e w'=>e=.returned (af ag (r.1+r.2.length))/\Below W.heap.size W w'):=fun W=>o7 r.1 r.2.length rc rv W (by omega) (by omega)
   have HA:Hid (∀W w':World,Below W.heap.size W w'->(W.cell? ⟨wr.heap.size,0,none⟩= some (af ag r.1)/\W.cell? ⟨wr.heap.size,1,none⟩= some (.slice rv r.2.length rc))->(w'.cell? ⟨wr.heap.size,0,none⟩= some (af ag r.1)/\w'.cell? ⟨wr.heap.size,1,none⟩= some (.slice rv r.2.length rc))):=
    fun W w' hb h=>⟨gF h.1 hb,gF h.2 hb⟩
   have HT:Hid (M.take (k+1)=M.take k++[r]):=pN hr;have uW:=gE mq;clear mq hr;generalize LW:qb a (M.take k)=lo at hL;generalize LQ:wd a (M.take k)=hi at hL;have HLO:=gE LW;have HHI:=gE LQ;clear LW LQ;obtain⟨l1,l2,l3,l4⟩:=hL;go_wp2_with fail;rcases Int.lt_or_le r.1 lo with qq|qq<;>rcases Int.lt_or_le hi (r.1+(r.2.length:Int)) with tx|tx
   all_goals go_region_held3 (fun w'=>w'.cell? ⟨wr.heap.size,0,none⟩= some (af ag r.1)/\w'.cell? ⟨wr.heap.size,1,none⟩= some (.slice rv r.2.length rc)) (first|assumption|go_keep) (first
    |(go_at_call 176;refine(HX.out _).mono ?_;rintro e wz ⟨rfl,T0⟩;have ZO:=HA.out _ _ T0 (by assumption)))
   all_goals
    have XK:Below wq.heap.size wq wz:=gI uW.out (gI (gH wr _) (ib T0));replace XK:=gE XK;clear T0 ZO HX HA;go_wp2_with fail
    go_roundw
    case rel=>
     refine⟨k+1,by omega,by go_num,congrArg (a8 .i64) ?_,congrArg (a8 .i64) ?_,XK.out⟩
     ·rw[HT.out,JP,HLO.out]<;>omega
     ·rw[HT.out,Jo,HHI.out];unfold h_;omega
    case measure=>simp[intOf];omega
  ·obtain rfl:k=vs.length:=by omega
   have UX:M.take vs.length=M:=List.take_of_length_le (by rw[qX.out];exact ay _);rw[UX]at hL⊢;have s0r:=gF DZ.out mq;have s1r:=gF K0.out mq;have uW:=gE mq;have jp:qb a M<wd a M:=by omega
   have HJ1:Hid ((oe a M).1=qb a M):=rfl;have Rf:Hid ((oe a M).2=uG (qb a M) (kZ (List.replicate (wd a M-qb a M).toNat 0) (a.1-qb a M).toNat a.2) M):=rfl;have BZ:Hid (∀r∈M,qb a M<=r.1/\h_ r<=wd a M):=fun r hr=>⟨(AF (M:=M) a).2 r hr,(Ay (M:=M) a).2 r hr⟩
   clear mq UX;generalize qb a M=lo at hL jp HJ1 Rf BZ⊢;generalize wd a M=hi at hL jp Rf BZ⊢;obtain⟨l1,l2,l3,l4⟩:=hL;obtain⟨n,uC⟩:∃n:Nat,hi-lo=n:=⟨(hi-lo).toNat,by omega⟩;have sk:IntKind.i64.wrap (hi-lo)=(n:Int):=by rw[di];omega
   have ku:(hi-lo).toNat=n:=by omega
   have HJl:Hid ((oe a M).2.length=n):=by
    show _=_;rw[Rf.out,wR,nJ]
    ·simp[ku]
    ·simp only[aE];omega
    ·intro q hq;have h5:=BZ.out q hq;unfold h_ at h5;rw[nJ (by simp only[aE];omega)];simp only[aE];omega
   have QT:=PR n (by omega);have Wo:=OO;have s0m:((wr.alloc (.cells #[] 230)).alloc (.cells #[af ag lo,aj (some ⟨wr.heap.size,0,none⟩) n n] 279)).cell? ⟨w.heap.size,0,none⟩= some (af ag a.1):=gF s0r ((gH wr _).alloc (by simp) _);have s1m:((wr.alloc (.cells #[] 230)).alloc (.cells #[af ag lo,aj (some ⟨wr.heap.size,0,none⟩) n n] 279)).cell? ⟨w.heap.size,1,none⟩= some (.slice aa a.2.length ac):=gF s1r ((gH wr _).alloc (by simp) _);clear s0r s1r;replace Wo:=gE Wo;go_wp2_with fail;have O1:Below wr.heap.size wr ((wr.alloc (.cells #[] 230)).alloc (.cells #[af ag lo,aj (some ⟨wr.heap.size,0,none⟩) n n] 279)):=(gH wr _).alloc (by simp) _
   have h9:((wr.alloc (.cells #[] 230)).alloc (.cells #[af ag lo,aj (some ⟨wr.heap.size,0,none⟩) n n] 279)).heap[wr.heap.size+1]? =some (.cells #[af ag lo,aj (some ⟨wr.heap.size,0,none⟩) n n] 279 (0,0)):=by
    have:=heap_alloc_new (wr.alloc (.cells #[] 230)) (.cells #[af ag lo,aj (some ⟨wr.heap.size,0,none⟩) n n] 279);simpa using this
   generalize (wr.alloc (.cells #[] 230)).alloc (.cells #[af ag lo,aj (some ⟨wr.heap.size,0,none⟩) n n] 279)=W2 at O1 h9 s0m s1m⊢;have Wb:W2.cell? ⟨wr.heap.size+1,1,none⟩= some (aj (some ⟨wr.heap.size,0,none⟩) n n):=by simp[aX,h9]
   obtain⟨d,hd⟩:∃d:Nat,a.1-lo=d:=⟨(a.1-lo).toNat,by omega⟩;have uf:IntKind.i64.wrap (a.1-lo)=(d:Int):=by rw[di];omega
   have vQ:IntKind.i64.wrap (d:Int)=(d:Int):=by rw[di];omega
   have acA:(d:Int)<=(n:Int):=by omega
   have acB:¬(n=d):=by omega
   have H9:=gE h9;have Ni:=gE O1;clear h9 O1 QT
   go_region_held3 (fun w'=>w'.cell? ⟨wr.heap.size+1,1,none⟩= some (aj (some ⟨wr.heap.size,0,none⟩) n n)/\w'.cell? ⟨w.heap.size,0,none⟩= some (af ag a.1)/\w'.cell? ⟨w.heap.size,1,none⟩= some (.slice aa a.2.length ac)) (first|assumption|go_keep) (first
    |(refine kW rfl (.tmp 43) (.tmp 45) 232 232 rfl (aj (some ⟨wr.heap.size,0,none⟩) (n-d) (n-d)) (.slice aa a.2.length ac) (by kernel_rfl) (by kernel_rfl) (Wo.out _ _ _ _ _ _ _ _) ?_))
   have mw:Below wq.heap.size wq W2.drew:=gK (gI uW.out Ni.out) 1;have h93:W2.drew.heap[wr.heap.size+1]? =some (.cells #[af ag lo,aj (some ⟨wr.heap.size,0,none⟩) n n] 279 (0,0)):=H9.out;have hJw:wq.heap.size<=wr.heap.size:=uW.out.size;generalize W2.drew=W3 at *
   generalize wr.heap.size=J at *
   have H3:=gE (And.intro mw h93);clear H9 Ni s0m s1m Wb mw h93 uW;go_wp2_with fail
   go_loopw [49] (fun i wr=>∃k:Nat,k<=vs.length/\i=af ag k/\Hid (Below wq.heap.size wq wr/\wr.heap[J+1]? =some (.cells #[af ag lo,aj (some ⟨J,0,none⟩) n n] 279 (0,0)))) (fun i _=>vs.length-(intOf i).toNat)
   case atStart=>exact⟨0,aI _,rfl,H3.out⟩
   case round=>
    obtain⟨k,hk,rfl,hI⟩:=hrel;obtain⟨mq,O0⟩:=hI.out;have Wb:wr.cell? ⟨J+1,1,none⟩= some (aj (some ⟨J,0,none⟩) n n):=by simp[aX,O0]
    by_cases yu:k<vs.length
    ·obtain⟨g,o,r,rv,rc,rfl,hr,c1,c2,rG,ue,vi⟩:=HK.out k wr yu mq;have nz:=BZ.out r (bT hr);have Ae:h_ r=r.1+r.2.length:=rfl;obtain⟨d2,NH⟩:∃d2:Nat,r.1-lo=d2:=⟨(r.1-lo).toNat,by omega⟩;have Q0:IntKind.i64.wrap (r.1-lo)=(d2:Int):=by rw[di];omega
     have NV:IntKind.i64.wrap (d2:Int)=(d2:Int):=by rw[di];omega
     have Z9:(d2:Int)<=(n:Int):=by omega
     have Z_:¬(n=d2):=by omega
     have sY:Below wr.heap.size wr (wr.alloc (.cells #[af ag r.1,.slice rv r.2.length rc] 279)):=gH wr _;have h9l:J+1<wr.heap.size:=(aO.1 O0).1;have XF:(wr.alloc (.cells #[af ag r.1,.slice rv r.2.length rc] 279)).cell? ⟨J+1,1,none⟩= some (aj (some ⟨J,0,none⟩) n n):=gF Wb sY
     have H4:Hid (Below wq.heap.size wq (wr.alloc (.cells #[af ag r.1,.slice rv r.2.length rc] 279)).drew/\(wr.alloc (.cells #[af ag r.1,.slice rv r.2.length rc] 279)).drew.heap[J+1]? =some (.cells #[af ag lo,aj (some ⟨J,0,none⟩) n n] 279 (0,0))):=
      ⟨gK (gI mq sY) 1,(sY.block _ h9l).trans O0⟩
     clear hI mq O0 hr sY;go_wp2_with fail
     go_region_held3 (fun w'=>w'.cell? ⟨J+1,1,none⟩= some (aj (some ⟨J,0,none⟩) n n)/\w'.cell? ⟨wr.heap.size,0,none⟩= some (af ag r.1)/\w'.cell? ⟨wr.heap.size,1,none⟩= some (.slice rv r.2.length rc)) (first|assumption|go_keep) (first
      |(refine kW rfl (.tmp 59) (.tmp 61) 232 232 rfl (aj (some ⟨J,0,none⟩) (n-d2) (n-d2)) (.slice rv r.2.length rc) (by kernel_rfl) (by kernel_rfl) (Wo.out _ _ _ _ _ _ _ _) ?_))
     go_wp2_with fail
     go_roundw
     case rel=>exact⟨k+1,by omega,by go_num,H4.out⟩
     case measure=>simp[intOf];omega
    ·obtain rfl:k=vs.length:=by omega
     have lS:=gI HBq.out mq;have Jd:wr.heap[w.heap.size+1]? =some (.cells #[af ag 0,aj none 0 0] 279 (0,0)):=by rw[mq.block _ (by omega)];exact HR.out
     have c90:wr.cell? ⟨J+1,0,none⟩= some (af ag lo):=by simp[aX,O0]
     have r0:wr.cell? ⟨w.heap.size+1,0,none⟩= some (af ag 0):=by simp[aX,Jd]
     have r1:wr.cell? ⟨w.heap.size+1,1,none⟩= some (aj none 0 0):=by simp[aX,Jd]
     have f0:wr.frozen? ⟨w.heap.size+1,0,none⟩= false:=frozen_of_row wr _ _ _ _ Jd;have f1:wr.frozen? ⟨w.heap.size+1,1,none⟩= false:=frozen_of_row wr _ _ _ _ Jd;have HF:=gE (And.intro lS Jd);clear hI mq O0 lS Jd;go_wp2_with fail;obtain⟨lS,Jd⟩:=HF.out
     have ZR:((wr.setCell ⟨w.heap.size+1,0,none⟩ (af ag lo)).setCell ⟨w.heap.size+1,1,none⟩ (aj (some ⟨J,0,none⟩) n n)).heap[w.heap.size+1]? =some (.cells #[af ag lo,aj (some ⟨J,0,none⟩) n n] 279 (0,0)):=
      (gQ (gQ Jd 0 _) 1 _).trans rfl
     refine bodyPost_ret (results_cell_row (P:=ae) Tryz.results179 _ _ (w.heap.size+1) 279 #[af ag lo,aj (some ⟨J,0,none⟩) n n] (0,0) _ rfl ZR underlying279 rfl yM) rfl ?_;refine⟨J,n,by rw[HJ1.out],HJl.out.symm,by omega,?_⟩;refine⟨lS.os,lS.tape,lS.output,(by rw[bN,bN];exact lS.size),fun q hq=>?_⟩;rw[heap_setCell_other _ _ _ _ (show q≠w.heap.size+1 by omega),heap_setCell_other _ _ _ _ (show q≠w.heap.size+1 by omega)];exact lS.block q hq
structure mF(w:World)(lv:Value)(vs:List jT)(rl:List iK):Prop where
 own:w.ownsRow 0 279 2 lv vs.length (iz vs)
 sh:o_ vs rl
theorem mF.part{vs:List jT}{rl:List iK}{ao:Option Addr}{cap:Nat}(h:mF w (.slice ao vs.length cap) vs rl)(xU:i<=j)(hj:j<=vs.length)(tv:Value)(qR:(i=j/\∃ta tc,tv=.slice ta 0 tc)\/∃g,ao=some ⟨g,0,none⟩/\tv=aj (some ⟨g,i*2,none⟩) (j-i) (cap-i)):
  UC w tv ((vs.drop i).take (j-i)):=by
 have hl:((vs.drop i).take (j-i)).length=j-i:=by simp;omega
 rcases qR with⟨rfl,ta,tc,rfl⟩|⟨g,rfl,rfl⟩
 ·refine⟨ta,tc,by rw[hl,dv],fun k v hv=>?_⟩;simp at hv
 ·refine⟨_,_,by rw[hl],fun k v hv=>⟨g,i*2,rfl,?_⟩⟩;have hk:=(bm.1 hv).1;rw[hl]at hk;rw[bi hk,cJ]at hv;obtain⟨q1,q2⟩:=o0 hv;have e1:i*2+k*2=(i+k)*2:=by omega
  rw[e1];refine⟨?_,?_⟩
  ·rw[h.own.cellAt _ (by omega)];exact q1
  ·rw[h.own.cellAt _ (by omega)];exact q2
structure nM(w:World)(rb off:Nat)(cs:Array Value)(t:TypeId)(lv:Value)(vs:List jT)(DY:List iK)(w':World)(iX:Value)(lm:List jT):Prop where
 i_:w'.heap[rb]? =some (.cells (cs.setIfInBounds off iX) t (0,0))
 runs:mF w' iX lm DY
 iO:ip (fun k=>k=rb\/lv.ownBlock=some k) w w'
 at_:iX.ownBlock=lv.ownBlock\/∀g,iX.ownBlock=some g->w.heap.size<=g
theorem mF.below{vs:List jT}{rl:List iK}(h:mF w lv vs rl)(hb:Below w.heap.size w w'):mF w' lv vs rl:=⟨iB h.own hb,h.sh⟩
theorem Hw{vs:List jT}{rl:List iK}{x:jT}{r:iK}{X:Obj}(h:mF w lv vs rl)(kA:w.heap[rb]? =some (.cells cs t (0,0)))(JH:t≠279)
  (iT:Below w.heap.size w w2) (hx:x.1=r.1/\∃g n,x.2=aj (some ⟨g,0,none⟩) r.2.length n/\r.2.length<=n)
  (gY:w3.ownsRow 0 279 2 iX (vs.take i++x::vs.drop j).length (iz (vs.take i++x::vs.drop j))) (hg:(w2.alloc X).grownBy w3 lv.ownBlock) (kP:iX.ownBlock=lv.ownBlock\/∀g,iX.ownBlock=some g->(w2.alloc X).heap.size<=g):
  w3.heap[rb]? =some (.cells cs t (0,0))/\nM w rb off cs t lv vs (rl.take i++r::rl.drop j) (w3.setCell ⟨rb,off,none⟩ iX) iX (vs.take i++x::vs.drop j):=by
 have pZ:rb<w.heap.size:=(aO.1 kA).1;have yV:lv.ownBlock≠some rb:=gO h.own kA (fun e=>JH e.symm);have mZ:w2.grownBy w3 lv.ownBlock:=gU hg;have tR:w3.heap[rb]? =some (.cells cs t (0,0)):=by rw[mZ.block rb (cq pZ iT.size) (Ne.symm yV),iT.block rb pZ];exact kA
 refine⟨tR,?_⟩
 have kq:ip (fun k=>k=rb\/lv.ownBlock=some k) w (w3.setCell ⟨rb,off,none⟩ iX):=by
  refine⟨mZ.os.trans iT.os,mZ.tape.trans iT.tape,mZ.output.trans iT.output,by rw[bN];exact Nat.le_trans iT.size mZ.size,fun k hk hn=>?_⟩;rw[heap_setCell_other _ _ _ _ (show k≠rb from fun e=>hn (a_ e)),mZ.block k (cq hk iT.size) (fun e=>hn (Or.inr e.symm)),iT.block k hk]
 obtain⟨Q0,g,n,NV,WR⟩:=hx;refine⟨(gQ tR off iX).trans rfl,⟨?_,h.sh.put i j ⟨Q0,_,n,NV,WR⟩⟩,kq,?_⟩
 ·exact ownsRow_setCell_other gY (gO gY tR (fun e=>JH e.symm)) _
 ·rcases kP with h1|h1
  ·exact a_ h1
  ·refine Or.inr fun k hk=>?_
   have:=h1 k hk;simp at this;have:=iT.size;omega
theorem M5(first:Int)(items:List Int)(iv lv:Value)(vs:List jT)(rl:List iK)(rb off:Nat)(cs:Array Value)(t:TypeId)(w:World)(kA:w.heap[rb]? =some (.cells cs t (0,0)))(jk:cs[off]? =some lv)(JH:t≠279)(h:mF w lv vs rl)(hf:nT rl)
  (Ve:∃ia ic,iv=.slice ia items.length ic) (nO:items≠[]) (Ec:0<=first/\first+items.length<=1099511627776):
  Calls ae 149 #[ai (some ⟨rb,off,none⟩),af ag first,iv] w fun e w'=>e=.returned (.tuple #[])/\∃iX lm,nM w rb off cs t lv vs (mY rl first items) w' iX lm:=by
 have yt:0<items.length:=List.length_pos_iff.2 nO;obtain⟨ia,ic,rfl⟩:=Ve;have qs:w.cell? ⟨rb,off,none⟩= some lv:=by simp only[aX,kA];exact jk
 have i8:vs.length=rl.length:=h.sh.1;have wK:=hf.BA;have SF:=jh qs;have acY:((items.length:Int)==0)=false:=beq_eq_false_iff_ne.2 (by omega);have sY:Below w.heap.size w (w.alloc (.cells #[af ag first,.slice ia items.length ic] 279)):=gH w _;have HT:=gE (DI vs rl lv (first,items) ia ic rb off (w.alloc (.cells #[af ag first,.slice ia items.length ic] 279)) (gF qs sY) (iB h.own sY) h.sh hf.wide (by omega) (by simp only;omega));have KO:=NB rl (first,items)
 have HF:Hid (mY rl first items=rl.take (nQ rl (first,items))++oe (first,items) ((rl.drop (nQ rl (first,items))).take (Ci rl (first,items)-nQ rl (first,items)))::rl.drop (Ci rl (first,items))):=by
  show _=_;unfold mY;rw[if_neg nO]
 generalize nQ rl (first,items)=i at HT HF KO;generalize Ci rl (first,items)=j at HT HF KO;obtain⟨xU,qp⟩:=KO;have hjv:j<=vs.length:=by omega
 have hvn:vs.length<=100:=by omega
 replace i8:=gE i8;have HH:=gE h;have HB:=gE kA;clear kA h;go_enter func149,ntmps149;go_wp2_with fail;refine HT.out.mono ?_;rintro e w1 ⟨rfl,im⟩;have LH:=im;replace im:=gI sY im;have km:w1.cell? ⟨rb,off,none⟩= some lv:=gF qs im;have q0:w1.cell? ⟨w.heap.size,0,none⟩= some (af ag first):=gF (by simp) LH;have q1:w1.cell? ⟨w.heap.size,1,none⟩= some (.slice ia items.length ic):=gF (by simp) LH;obtain⟨ao,cap,rfl⟩:=iA HH.out.own
 have HJ:Hid (∀(W:World) (tv:Value),Below w.heap.size w W->((i=j/\∃ta tc,tv=.slice ta 0 tc)\/∃g,ao=some ⟨g,0,none⟩/\tv=aj (some ⟨g,i*2,none⟩) (j-i) (cap-i))->Calls ae 179 #[.agg #[af ag first,.slice ia items.length ic],tv] W fun e w'=>∃J n,e=.returned (.agg #[af ag (oe (first,items) ((rl.drop i).take (j-i))).1,aj (some ⟨J,0,none⟩) n n])/\n=(oe (first,items) ((rl.drop i).take (j-i))).2.length/\W.heap.size<=J/\Below W.heap.size W w'):=by
  intro W tv hW qR;have hR:=HH.out.below hW;refine M6 (first,items) (.slice ia items.length ic) tv ((vs.drop i).take (j-i)) ((rl.drop i).take (j-i)) W ⟨ia,ic,rfl⟩ yt (hR.part xU (by omega) tv qR) (hR.sh.sub i (j-i)) ?_ ?_ ?_
  ·intro r hr;exact sR hf.wf (dp (bZ hr))
  ·intro r hr;rcases cI.1 hr with rfl|hr
   ·exact Ec
   ·exact hf.UR r (dp (bZ hr))
  ·simp;omega
 generalize hjo:oe (first,items) ((rl.drop i).take (j-i))=jr at HJ HF
 have HR:Hid (∀(w2:World) (J n:Nat),Below w.heap.size w w2->Calls ae 178 #[.slice ao vs.length cap,af ag i,af ag j,aj (some ⟨w2.heap.size,0,none⟩) 1 1] (w2.alloc (.cells #[af ag jr.1,aj (some ⟨J,0,none⟩) n n] 279)) fun e w'=>∃iX m,e=.returned iX/\Hid (m=(vs.take i++(jr.1,aj (some ⟨J,0,none⟩) n n)::vs.drop j).length)/\w'.ownsRow 0 279 2 iX m (iz (vs.take i++(jr.1,aj (some ⟨J,0,none⟩) n n)::vs.drop j))/\
   (w2.alloc (.cells #[af ag jr.1,aj (some ⟨J,0,none⟩) n n] 279)).grownBy w' (cX ao vs.length cap).ownBlock/\(iX.ownBlock=(cX ao vs.length cap).ownBlock\/∀g,iX.ownBlock=some g->(w2.alloc (.cells #[af ag jr.1,aj (some ⟨J,0,none⟩) n n] 279)).heap.size<=g)):=by
  intro w2 J n uf;refine(EH vs (jr.1,aj (some ⟨J,0,none⟩) n n) i j w2.heap.size 1 _ _ ((iB HH.out.own uf).alloc _) (heap_alloc_new w2 _) (fun e=>?_) xU (by omega) (by omega) HH.out.sh.one rfl).mono (fun e w' ⟨iX,h1,h2,h3,h4⟩=>⟨iX,_,h1,rfl,h2,h3,h4⟩);have:=((iB HH.out.own uf).lt _ e).2;omega
 have HS:Hid (∀W X:World,Below W.heap.size W X->(W.cell? ⟨rb,off,none⟩= some (.slice ao vs.length cap)/\W.cell? ⟨w.heap.size,0,none⟩= some (af ag first)/\W.cell? ⟨w.heap.size,1,none⟩= some (.slice ia items.length ic))->(X.cell? ⟨rb,off,none⟩= some (.slice ao vs.length cap)/\X.cell? ⟨w.heap.size,0,none⟩= some (af ag first)/\X.cell? ⟨w.heap.size,1,none⟩= some (.slice ia items.length ic))):=fun W X hb h=>⟨gF h.1 hb,gF h.2.1 hb,gF h.2.2 hb⟩
 have KK:Hid (∀(w2 w3:World) (O:Obj),Below w.heap.size w w2->(w2.alloc O).grownBy w3 (cX ao vs.length cap).ownBlock->(w2.cell? ⟨rb,off,none⟩= some (.slice ao vs.length cap)/\w2.cell? ⟨w.heap.size,0,none⟩= some (af ag first)/\w2.cell? ⟨w.heap.size,1,none⟩= some (.slice ia items.length ic))->(w3.cell? ⟨rb,off,none⟩= some (.slice ao vs.length cap)/\w3.cell? ⟨w.heap.size,0,none⟩= some (af ag first)/\w3.cell? ⟨w.heap.size,1,none⟩= some (.slice ia items.length ic))/\w3.frozen? ⟨rb,off,none⟩= false):=by
  intro w2 w3 O uf hg h;have mZ:=gU hg;have yV:(cX ao vs.length cap).ownBlock≠some rb:=gO HH.out.own HB.out (fun e=>JH e.symm)
  have hnw:(cX ao vs.length cap).ownBlock≠some w.heap.size:=fun e=>by
   have:=(HH.out.own.lt _ e).2;omega
  have e1:w3.heap[rb]? =w2.heap[rb]?:=mZ.block rb (cq SF uf.size) (Ne.symm yV);have e2:w3.heap[w.heap.size]? =w2.heap[w.heap.size]?:=mZ.block _ (jh h.2.1) (Ne.symm hnw);refine⟨⟨?_,?_,?_⟩,?_⟩
  ·rw[cF (a:=⟨rb,off,none⟩) e1];exact h.1
  ·rw[cF (a:=⟨w.heap.size,0,none⟩) e2];exact h.2.1
  ·rw[cF (a:=⟨w.heap.size,1,none⟩) e2];exact h.2.2
  ·exact frozen_of_row w3 rb off _ _ (e1.trans ((uf.block rb SF).trans HB.out))
 have DQ:Hid (Below w.heap.size w w1.drew):=gK im 1
 have HE:Hid (∀(w2 w3:World) (J n m:Nat) (iX:Value),Below w.heap.size w w2->n=jr.2.length->w3.ownsRow 0 279 2 iX m (iz (vs.take i++(jr.1,aj (some ⟨J,0,none⟩) n n)::vs.drop j))->Hid (m=(vs.take i++(jr.1,aj (some ⟨J,0,none⟩) n n)::vs.drop j).length)->
   (w2.alloc (.cells #[af ag jr.1,aj (some ⟨J,0,none⟩) n n] 279)).grownBy w3 (cX ao vs.length cap).ownBlock->(iX.ownBlock=(cX ao vs.length cap).ownBlock\/∀g,iX.ownBlock=some g->(w2.alloc (.cells #[af ag jr.1,aj (some ⟨J,0,none⟩) n n] 279)).heap.size<=g)->
   ∃lm,nM w rb off cs t (.slice ao vs.length cap) vs (mY rl first items) (w3.setCell ⟨rb,off,none⟩ iX) iX lm):=by
  intro w2 w3 J n m iX uf QW ho hm hg ha;rw[hm.out]at ho;subst QW;rw[HF.out];exact⟨_,(Hw (x:=(jr.1,aj (some ⟨J,0,none⟩) jr.2.length jr.2.length)) (r:=jr) HH.out HB.out JH uf ⟨rfl,J,_,rfl,ay _⟩ ho hg ha).2⟩
 have mx:ao≠none->vs.length<=cap:=by
  intro js;rcases HH.out.own.2 with⟨e,_⟩|⟨g,c,cur,e,_,_,h1,_⟩
  ·simp only[Value.slice.injEq]at e;exact absurd e.1 js
  ·simp only[Value.slice.injEq]at e;omega
 have Z2:ao=none->vs.length=0/\cap=0:=by
  intro js;rcases HH.out.own.2 with⟨e,h0⟩|⟨g,c,cur,e,_,_,h1,_⟩
  ·simp only[Value.slice.injEq]at e;omega
  ·simp only[Value.slice.injEq]at e;rw[js]at e;cases e.1
 have Fo:∀A,ao=some A->∃g,A =⟨g,0,none⟩:=by
  intro A hA;rcases HH.out.own.2 with⟨e,h0⟩|⟨g,c,cur,e,_,_,h1,_⟩
  ·simp only[Value.slice.injEq]at e;rw[hA]at e;cases e.1
  ·simp only[Value.slice.injEq]at e;rw[hA]at e;exact⟨g,Option.some.inj e.1⟩
 have u1:=run_underlying underlying129;have z1:=pD;have XV:(i:Int)<=(j:Int):=by omega
 have Vj:cap<=maxLen:=by
  rcases HH.out.own.2 with⟨e,h0⟩|⟨g,c,cur,e,_,_,h1,h2,_⟩
  ·simp only[Value.slice.injEq]at e;unfold maxLen;omega
  ·simp only[Value.slice.injEq]at e;omega
 unfold maxLen at Vj;clear sY qs LH HT hjo
 obtain⟨tv,qR,WN,yY⟩:∃tv,((i=j/\∃ta tc,tv=.slice ta 0 tc)\/∃g,ao=some ⟨g,0,none⟩/\tv=aj (some ⟨g,i*2,none⟩) (j-i) (cap-i))/\True/\∀W:World,(Instr.slice 129 (.slice ao vs.length cap) (some (af ag i)) (some (af ag j)) none).run ae W=.ok tv W:=by
  cases ao with
  |none=>
   obtain⟨h0,rfl⟩:=Z2 rfl;obtain rfl:j=0:=by omega
   obtain rfl:i=0:=by omega
   refine⟨aj none 0 0,a_ ⟨rfl,none,0,rfl⟩,trivial,fun W=>?_⟩;rw[h0]
   kernel_rfl
  |some A=>
   obtain⟨g,rfl⟩:=Fo A rfl;have hvc:=mx (by simp);have Ik:(j:Int)<=(cap:Int):=by omega
   by_cases LL:cap=i
   ·obtain rfl:j=i:=by omega
    refine⟨aj (some ⟨g,0,none⟩) 0 0,a_ ⟨rfl,_,0,rfl⟩,trivial,fun W=>?_⟩;rw[qS W underlying129 (pD W) (ay _) (by omega),if_pos LL,dv,LL,dv]
   ·refine⟨aj (some ⟨g,i*2,none⟩) (j-i) (cap-i),Or.inr ⟨g,rfl,rfl⟩,trivial,fun W=>?_⟩;rw[qS W underlying129 (pD W) xU (by omega),if_neg LL];simp[dq]
 clear mx Z2 Fo WN;have HTV:=gE qR;clear qR;go_wp2_with fail
 go_region_with (first
  |(go_at_call 179;refine(HJ.out _ tv DQ.out HTV.out).mono ?_;rintro e w2 ⟨J,n,rfl,QW,_,iT⟩;replace QW:=gE QW;have sI:=HS.out _ _ iT ⟨km,q0,q1⟩;obtain⟨nr,p0,p1⟩:=id sI;have acv:=fun(o:Obj)=>Lib.cell?_alloc_some o nr)
  |(go_at_call 178;refine(HR.out w2 J n (gI DQ.out iT)).mono ?_;rintro e w3 ⟨iX,m3,rfl,DW,Eg,qa,XR⟩;obtain⟨la3,lc3,rfl⟩:=iA Eg;have Ba:=KK.out w2 w3 _ (gI DQ.out iT) qa sI;obtain⟨⟨rE,Ba⟩,z3⟩:=Ba;replace Eg:=gE Eg;replace qa:=gE qa;replace XR:=gE XR))
 all_goals
  have mc:=gE (HE.out w2 w3 J n m3 _ (gI DQ.out iT) QW.out Eg.out DW qa.out XR.out);clear HE HJ HR HS KK;go_wp2_with fail
  go_end0
  exact⟨rfl,_,mc.out⟩
theorem VL{vs lm:List jT}{rl DY:List iK}(h:mF w lv vs rl)(kA:w.heap[rb]? =some (.cells cs t (0,0)))(JH:t≠279)(iT:Below w.heap.size w w2)(rD:o_ lm DY)
  (gY:w3.ownsRow 0 279 2 iX lm.length (iz lm)) (hg:w2.grownBy w3 lv.ownBlock) (kP:iX.ownBlock=lv.ownBlock):
  w3.heap[rb]? =some (.cells cs t (0,0))/\nM w rb off cs t lv vs DY (w3.setCell ⟨rb,off,none⟩ iX) iX lm:=by
 have pZ:rb<w.heap.size:=(aO.1 kA).1;have yV:lv.ownBlock≠some rb:=gO h.own kA (fun e=>JH e.symm);have tR:w3.heap[rb]? =some (.cells cs t (0,0)):=by rw[hg.block rb (cq pZ iT.size) (Ne.symm yV),iT.block rb pZ];exact kA
 refine⟨tR,?_⟩
 have kq:ip (fun k=>k=rb\/lv.ownBlock=some k) w (w3.setCell ⟨rb,off,none⟩ iX):=by
  refine⟨hg.os.trans iT.os,hg.tape.trans iT.tape,hg.output.trans iT.output,by rw[bN];exact Nat.le_trans iT.size hg.size,fun k hk hn=>?_⟩;rw[heap_setCell_other _ _ _ _ (show k≠rb from fun e=>hn (a_ e)),hg.block k (cq hk iT.size) (fun e=>hn (Or.inr e.symm)),iT.block k hk]
 refine⟨(gQ tR off iX).trans rfl,⟨?_,rD⟩,kq,a_ kP⟩;exact ownsRow_setCell_other gY (gO gY tR (fun e=>JH e.symm)) _
theorem A2(r:iK)(rest:List iK)(lv:Value)(vs:List jT)(rb off:Nat)(cs:Array Value)(t:TypeId)(w:World)(kA:w.heap[rb]? =some (.cells cs t (0,0)))(jk:cs[off]? =some lv)(JH:t≠279)(h:mF w lv vs (r::rest))(hf:nT (r::rest)):
  Calls ae 151 #[ai (some ⟨rb,off,none⟩)] w fun e w'=>e=.returned (af ag (h_ r))/\∃iX lm,nM w rb off cs t lv vs rest w' iX lm:=by
 have qs:w.cell? ⟨rb,off,none⟩= some lv:=by simp only[aX,kA];exact jk
 have Ec:=hf.UR r (by simp);have kf:h_ r=r.1+r.2.length:=rfl;have Ft:vs.length=rest.length+1:=by rw[h.sh.1];rfl
 have wK:=hf.BA
 obtain⟨v0,vt,rfl⟩:∃v0 vt,vs=v0::vt:=by
  cases vs with
  |nil=>simp at Ft
  |cons a b=>exact⟨a,b,rfl⟩
 obtain⟨e1,ia,ic,e2,hic⟩:=h.sh.2 0 v0 r rfl rfl;obtain⟨f0,iv0⟩:=v0;simp only at e1 e2 hic;subst e1 e2;rcases h.own.2 with⟨_,h0⟩|⟨g,cap,cur,e4,_,hg,s_,nN,lF,pd⟩
 ·simp at h0
 subst e4;obtain⟨vl,L4⟩:∃vl,vl=((r.1,cX ia r.2.length ic)::vt:List jT).length:=⟨_,rfl⟩;have q:=o0 (l:=(r.1,cX ia r.2.length ic)::vt) (k:=0) rfl;have d1:w.cell? ⟨g,0,none⟩= some (af ag r.1):=by rw[h.own.cellAt 0 (by simp)];exact q.1
 have d2:w.cell? ⟨g,1,none⟩= some (.slice ia r.2.length ic):=by rw[h.own.cellAt 1 (by simp;omega)];exact q.2
 have C3:0<vl:=by rw[L4];simp
 have HX:Hid (∀W,Calls ae 176 #[.agg #[af ag r.1,.slice ia r.2.length ic]] W fun e w'=>e=.returned (af ag (r.1+r.2.length))/\Below W.heap.size W w'):=fun W=>o7 r.1 r.2.length ic ia W (by omega) (by omega)
 have aaj:Hid (∀w2:World,Below w.heap.size w w2->Calls ae 180 #[aj (some ⟨g,0,none⟩) vl cap,af ag 0,af ag 1] w2 fun e w'=>∃iX m,e=.returned iX/\Hid (m=vt.length)/\w'.ownsRow 0 279 2 iX m (iz vt)/\w2.grownBy w' (cX (some ⟨g,0,none⟩) vl cap).ownBlock/\iX.ownBlock=(cX (some ⟨g,0,none⟩) vl cap).ownBlock):=by
  intro w2 uf;rw[L4];exact(Hr _ vt _ w2 (iB h.own uf) (by simp at Ft wK⊢;omega) h.sh.one).mono (fun e w' ⟨iX,h1,h2,h3,h4⟩=>⟨iX,_,h1,rfl,h2,h3,h4⟩)
 have oE:Hid (∀(w2 w3:World) (iX:Value) (m:Nat),Below w.heap.size w w2->Hid (m=vt.length)->w3.ownsRow 0 279 2 iX m (iz vt)->w2.grownBy w3 (cX (some ⟨g,0,none⟩) vl cap).ownBlock->iX.ownBlock=(cX (some ⟨g,0,none⟩) vl cap).ownBlock->
   w3.heap[rb]? =some (.cells cs t (0,0))/\nM w rb off cs t (aj (some ⟨g,0,none⟩) vl cap) ((r.1,.slice ia r.2.length ic)::vt) rest (w3.setCell ⟨rb,off,none⟩ iX) iX vt):=by
  intro w2 w3 iX m uf hm ho hg ha;rw[hm.out]at ho;have rD:=h.sh;rw[<-L4]at h;exact VL h kA JH uf ⟨by have:=rD.1;simpa using this,fun i v q hv hq=>rD.2 (i+1) v q hv hq⟩ ho hg ha
 have X0:cs[off]? =some (aj (some ⟨g,0,none⟩) vl cap):=by rw[L4];exact jk
 rw[<-L4]at qs⊢;have HHC:=gE L4;clear h kA hg s_ lF pd Ft L4 q hf jk;go_enter func151,ntmps151;go_wp2_with fail;refine(HX.out w).mono ?_;rintro e w1 ⟨rfl,im⟩;have c:=gF qs im;go_wp2_with fail;refine(aaj.out w1 im).mono ?_;rintro e w3 ⟨iX,m,rfl,hmv,ho,DU,kP⟩;obtain⟨tR,si⟩:=oE.out w1 w3 iX m im hmv ho DU kP;obtain⟨la',YV,rfl⟩:=iA ho;have d3:w3.cell? ⟨rb,off,none⟩= some (aj (some ⟨g,0,none⟩) vl cap):=(by simp only[aX,tR];exact X0);have z3:w3.frozen? ⟨rb,off,none⟩= false:=frozen_of_row w3 rb off _ _ tR;replace si:=gE si;clear tR ho DU kP aaj oE c qs im;go_wp2_with fail;go_ret;exact⟨rfl,_,vt,si.out⟩
end Go.Proofs.YthmdjhlhodpbhaaGreatDoor
