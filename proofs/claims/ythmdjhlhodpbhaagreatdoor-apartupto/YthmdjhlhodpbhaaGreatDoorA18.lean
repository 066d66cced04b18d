/- Apart, 18 -/
import Derived.Lib.Overlaps
import Derived.Lib.AppendZeros
import Derived.Lib.AppendZerosOnto
import Derived.Laws.Externs
import Derived.Deep.DeepFit
import Derived.Test.YthmdjhlhodpbhaaGreatDoorA07
import Derived.Test.YthmdjhlhodpbhaaGreatDoorA08
import Derived.Test.YthmdjhlhodpbhaaGreatDoorA13
import Derived.Test.YthmdjhlhodpbhaaGreatDoorA17
set_option maxHeartbeats 16000000
set_option maxRecDepth 8000
namespace Go.Proofs.YthmdjhlhodpbhaaGreatDoor
open Go.RowKit
theorem dZ{α:Type}{f:Int->Int}{l:List (Int×α)}(h:∀p∈l,0<=f p.1):0<=bE f l:=by
 induction l with
 |nil=>simp[bE]
 |cons a t ih=>
  have h1:=h a (by simp)
  have h2:=ih fun p hp=>h p (by simp[hp])
  simp only[bE,List.map_cons,List.sum_cons]at h2⊢
  omega
theorem na{α:Type}{f:Int->Int}{l:List (Int×α)}{B:Int}(h:∀p∈l,f p.1<=B):bE f l<=l.length*B:=by
 induction l with
 |nil=>simp[bE]
 |cons a t ih=>
  have h1:=h a (by simp)
  have h2:=ih fun p hp=>h p (by simp[hp])
  simp only[bE,List.map_cons,List.sum_cons,List.length_cons]at h2⊢
  have:((t.length+1:Nat):Int)*B=t.length*B+B:=by rw[Int.natCast_add,Int.add_mul];simp
  omega
theorem qf{α:Type}{f:Int->Int}(r1 r2:List (Int×α))(k:Int)(y:α):bE f (r1++(k,y)::r2)=bE f (r1++r2)+f k:=by
 simp only[bE,List.map_append,List.map_cons,List.sum_append,List.sum_cons]
 omega
theorem csumH_any(cb sm n:Nat)(sl:List (Int×Nat))(hi:Int->Int)(w:World)(hc:w.cell? ⟨cb,21,none⟩= some (.map (some sm)))(hm:MapIs ez Tryz.prog 3 w sm n sl)(hs:∀p∈sl,w.cell? ⟨p.2,2,none⟩= some (.int .i64 (hi p.1)))(hr:∀p∈sl,0<=hi p.1/\hi p.1<=1073741823)(hl:sl.length<=1073741823):
  Calls Tryz.prog 70 #[.pointer (some ⟨cb,0,none⟩),.func (.func 225) #[] #[]] w fun e w'=>e=.returned (.int .i64 (bE hi sl))/\Below w.heap.size w w':=by
 have hS:bE hi sl<=1152921504606846976:=by
  have:=na (B:=1073741823) fun p hp=>(hr p hp).2
  omega
 have HM:=ab hm
 have HS:=ab hs
 have HR:=ab hr
 clear hm hs hr
 go_enter Tryz.func70,Tryz.ntmps70
 go_wp2_with (first
  |(at_range;refine gK _ rfl _ 134 rfl 140 Tryz.underlying3 Tryz.underlying134 sm n sl rfl HM.out ?_;intro w0 hrg0 hg0 hs0))
 have hb0:Below w.heap.size w w0:=fU hg0
 have H0:=ab (And.intro hrg0 hb0)
 clear hrg0 hg0 hs0 hb0 hc
 go_frame
 go_loopw [5] (fun s wr=>∃(rest:List (Int×Nat)) (cnt:Nat),RangeIs ez Tryz.prog 3 wr sm w.heap.size n sl rest cnt/\s=.int .i64 (bE hi sl-bE hi rest)/\Hid (∀p∈rest,p∈sl)/\Hid (bE hi rest<=bE hi sl)/\Below w.heap.size w wr) (fun _ wr=>wr.rangeLeft sm w.heap.size)
 case atStart=>exact⟨sl,_,H0.out.1,by rw[Int.sub_self],fun p hp=>hp,ab (Int.le_refl _),H0.out.2⟩
 case round=>
  obtain⟨rest,cnt,hrg,rfl,hsub,hsm,hbw⟩:=hrel
  have HBw:=ab hbw
  have HRg:=ab hrg
  clear hbw
  go_wp2_with (first
   |(at_next;refine ik _ rfl _ rfl Tryz.underlying3 sm w.heap.size n sl rest cnt rfl hrg ?_ ?_))
  ·intro hnil
   subst hnil
   go_wp2_with fail
   go_ret
   exact⟨by simp[bE],HBw.out⟩
  ·intro k y r1 r2 w1 cnt1 hre hwk hat hrg1 hlt hg1 hs1 hen
   have hky:(k,y)∈sl:=hsub.out _ (by rw[hre];simp)
   have hb1:Below w.heap.size w w1:=HBw.out.grown hg1 HBw.out.size (fun g hg=>by cases hg;exact Nat.le_refl _)
   have hcell:w1.cell? ⟨y,2,none⟩= some (.int .i64 (hi k)):=ae (HS.out (k,y) hky) hb1
   have hmid:=qf (f:=hi) r1 r2 k y
   rw[<-hre]at hmid
   have hn1:0<=bE hi (r1++r2):=dZ fun p hp=>(HR.out p (hsub.out p (by rw[hre];simp at hp⊢;rcases hp with h|h<;>simp[h]))).1
   have hsb:Hid (∀p∈r1++r2,p∈sl):=fun p hp=>hsub.out p (by rw[hre];simp at hp⊢;rcases hp with h|h<;>simp[h])
   have hk:0<=hi k/\hi k<=1073741823:=HR.out (k,y) hky
   obtain⟨hk0,hk1⟩:=hk
   have hn2:=hsm.out
   have hw:IntKind.i64.wrap (bE hi sl-bE hi rest+hi k)=bE hi sl-bE hi (r1++r2):=by
    rw[IntKind.wrap_i64]
    omega
   have HM2:=ab hmid
   have HE:=ab (tI y (hi k) w1 hcell)
   have H1:=ab (And.intro hrg1 (And.intro hb1 (And.intro hlt hsb)))
   have HN:=ab (show bE hi (r1++r2)<=bE hi sl from by omega)
   generalize bE hi rest=Sr at hw HM2⊢
   clear hmid hn1 hb1 hcell hky hrg1 hlt hsb hn2 hg1 hs1 hat
   go_wp2_with fail
   refine HE.out.mono ?_
   rintro e w2 ⟨rfl,rfl⟩
   clear HE
   go_wp2_with fail
   go_roundw
   case rel=>exact⟨r1++r2,cnt1,H1.out.1,rfl,H1.out.2.2.2,HN,H1.out.2.1⟩
   case measure=>
    have h1:=H1.out.1.left_eq
    have h2:=HRg.out.left_eq
    have h3:=H1.out.2.2.1
    rw[h1,h2]
    exact h3
theorem sP(cb sm n:Nat)(sl:List (Int×Nat))(hi:Int->Int)(past:Int)(w:World)(hc:w.cell? ⟨cb,21,none⟩= some (.map (some sm)))(hp:w.cell? ⟨cb,23,none⟩= some (.int .i64 past))(hm:MapIs ez Tryz.prog 3 w sm n sl)(hs:∀p∈sl,w.cell? ⟨p.2,2,none⟩= some (.int .i64 (hi p.1)))(hr:∀p∈sl,0<=hi p.1/\hi p.1<=1073741823)(hl:sl.length<=1073741823)(hpr:0<=past/\past<=1152921504606846976):
  Calls Tryz.prog 216 #[.pointer (some ⟨cb,0,none⟩)] w fun e w'=>e=.returned (.int .i64 (past+bE hi sl))/\Below w.heap.size w w':=by
 have h1:0<=bE hi sl:=dZ fun p hp=>(hr p hp).1
 have h2:bE hi sl<=1152921504606846976:=by
  have:=na (B:=1073741823) fun p hp=>(hr p hp).2
  omega
 have HS:=ab (fun W (hW:Below w.heap.size w W)=>csumH_any cb sm n sl hi W (ae hc hW) (hm.same (hW.block sm hm.lt)) (fun p hp=>ae (hs p hp) hW) hr hl)
 have hw:IntKind.i64.wrap (past+bE hi sl)=past+bE hi sl:=by rw[IntKind.wrap_i64];omega
 generalize bE hi sl=S at HS hw⊢
 clear hc hm hs hr hl hpr h1 h2
 go_enter Tryz.func216,Tryz.ntmps216
 go_wp2_with fail
 go_region_held3 (fun w'=>w'.cell? ⟨cb,23,none⟩= some (.int .i64 past)) (first|assumption|go_keep) (first
  |(go_at_call 70;refine(HS.out _ (ak (Below.refl _ w) 1)).mono ?_;rintro e w1 ⟨rfl,hb1⟩;have k23:=ae hp (aq hb1)))
 have HB:=ab (aq hb1)
 clear hb1 HS k23
 go_wp2_with fail
 go_ret
 exact⟨rfl,HB.out⟩
theorem tNew_any(ahead:Int)(w:World):
  Calls Tryz.prog 130 #[.int .i64 ahead] w fun e w'=>∃b,w.heap.size<=b/\e=.returned (.pointer (some ⟨b,0,none⟩))/\(∀U,StrAt U w' b (.slice none 0 0) ahead (aU ahead))/\Below w.heap.size w w':=by
 have HK:=ab (u7 ahead w)
 go_enter Tryz.func130,Tryz.ntmps130
 go_wp2_with fail
 refine HK.out.mono ?_
 rintro e w1 ⟨rfl,hb1⟩
 have HB:=ab hb1
 clear hb1 HK
 go_wp2_with fail
 go_ret
 refine⟨w1.heap.size,HB.out.size,rfl,fun U=>⟨?_,[],?_,fun v hv=>(by cases hv)⟩,ai HB.out (ag _ _)⟩
 ·exact heap_alloc_new w1 _
 ·exact⟨⟨rfl,Or.inl ⟨rfl,rfl⟩⟩,⟨rfl,fun i v r hv=>(by simp at hv)⟩,fun i v r hv=>(by simp at hv)⟩
theorem dTake_any(fi:Int)(rs:Bool)(ty sid ofs:Int)(bv:Value)(en pf:Int)(w:World):
  Calls Tryz.prog 215 #[.agg #[.int .i64 fi,.bool rs],gN ty sid ofs bv en pf] w fun e w'=>e=.returned (.int .i64 (ft ty en fi))/\Below w.heap.size w w':=by
 have HF:Hid (∀W,Calls Tryz.prog 224 #[.agg #[.int .i64 ty,.int .i64 sid,.int .i64 ofs,bv,.int .i64 en,.int .i64 pf],.int .i64 fi] W fun e w'=>e=.returned (.int .i64 (ft ty en fi))/\Below W.heap.size W w'):=fun W=>ko ty sid ofs bv en pf fi W
 unfold gN
 go_enter Tryz.func215,Tryz.ntmps215
 go_wp2_with fail
 refine(HF.out _).mono ?_
 rintro e w1 ⟨rfl,hb1⟩
 have HB:=ab (ai (ai (ag w _) (ag _ _)) hb1)
 clear hb1 HF
 go_wp2_with fail
 go_ret
 exact⟨rfl,HB.out⟩
theorem tS:(Tryz.prog.info? 279).map (fun i=>(i.zero,i.size,i.bytes))=some (some (.agg #[.int .i64 0,.slice none 0 0]),2,32):=by kernel_rfl
theorem ma:(Tryz.prog.info? 279).map (·.size)=some 2:=by kernel_rfl
theorem fF(w:World):(Go.sizeOf 279).run Tryz.prog w=.ok 2 w:=by kernel_rfl
theorem u_overlaps(g vb o n1 c1 n2 c2:Nat)(w:World){a b:Array Value}{t1 t2:TypeId}(hne:vb≠g)(hg:w.heap[g]? =some (.cells a t1 (0,0)))(hv:w.heap[vb]? =some (.cells b t2 (0,0)))(ha:a.size≠0):
  (callFunc 201 #[.slice (some ⟨vb,0,none⟩) n1 c1,.slice (some ⟨g,o,none⟩) n2 c2]).run Tryz.prog w=.ok (.value (.bool false)) w:=by
 rw[run_callFunc_extern Tryz.func201 (by kernel_rfl) (by kernel_rfl) (by kernel_rfl) (e:=Extern.SlicesOverlaps.overlaps #[129,129] #[4]) (by kernel_rfl),
  Lib.run_overlaps_apart w 129 4 279 Tryz.underlying129 2 fF ⟨vb,0,none⟩ ⟨g,o,none⟩ n1 c1 n2 c2 hne t2 t1 b.size a.size (by simp[World.shape?,hv]) (by simp[World.shape?,hg]) ha (frozen_of_row w vb _ _ _ hv) (frozen_of_row w vb _ _ _ hv)]
 rfl
theorem qW(g n c i vb vc:Nat)(cur:Array Value)(xc cs:List Value)(w:World)(hg:w.heap[g]? =some (.cells cur 279 (0,0)))(hv:w.heap[vb]? =some (.cells xc.toArray 279 (0,0)))(hne:vb≠g)
  (hcl:cs.length=n*2) (hxl:xc.length=2) (htk:cur.toList.take (n*2)=cs) (hi:i<n) (hroom:n+1<=c) (hcs:cur.size=c*2) (hm:c<=maxLen) (h1:∀v∈cs,v.oneCell'=true) (h1x:∀v∈xc,v.oneCell'=true):
  Calls Tryz.prog 200 #[.slice (some ⟨g,0,none⟩) n c,.int .i64 i,.slice (some ⟨vb,0,none⟩) 1 vc] w fun e w'=>
   e=.returned (.slice (some ⟨g,0,none⟩) (n+1) c)/\∃q,w'=(w.drewN q).setRow g (ar (ar cur.toList ((i+1)*2) (cs.drop (i*2))) (i*2) xc).toArray:=by
 have hov:=fun o n1 c1 n2 c2=>u_overlaps g vb o n1 c1 n2 c2 w hne hg hv (by omega)
 unfold maxLen at hm
 have hw1:IntKind.i64.wrap ((i:Int)+1)=(i:Int)+1:=by rw[IntKind.wrap_i64];omega
 have hb1:(0:Int)<=(i:Int)+1:=by omega
 have hin:i<=n:=by omega
 have htn:((i:Int)+1).toNat=i+1:=by omega
 have hb2:¬(c=i+1):=by omega
 have hb3:(i:Int)<=(n:Int)+1:=by omega
 have hb4:¬(c=i):=by omega
 have u1:=run_underlying Tryz.underlying129
 have z1:=fF
 have hcur:n*2<=cur.toList.length:=by simp;omega
 have hdl:(cs.drop (i*2)).length=(n-i)*2:=by rw[List.length_drop,hcl];omega
 have hcp1:∀(W:World) (ty:TypeId) (dc sc:Nat),W.heap=w.heap->(Builtin.copy_ #[129,129] ty #[.slice (some ⟨g,(i+1)*2,none⟩) (n-i) dc,.slice (some ⟨g,i*2,none⟩) (n+1-i) sc]).run Tryz.prog W
   = .ok (goInt (Nat.min (n+1-i) (n-i))) (W.setRow g (ar cur.toList ((i+1)*2) (cs.drop (i*2))).toArray):=by
  intro W ty dc sc hW
  refine bB W 129 129 ty 279 g ((i+1)*2) (n-i) dc ⟨g,i*2,none⟩ (n+1-i) sc cur 279 (cs.drop (i*2)) 2 Tryz.underlying129 ma (by rw[hW];exact hg) ?_ ?_ ?_ ?_
  ·rw[hdl];simp only[Nat.min_def];split<;>omega
  ·intro j v hj
   have hj':=(lLt hj)
   rw[List.getElem?_drop,<-htk,List.getElem?_take_of_lt (by omega)]at hj
   rw[Addr.add_lit]
   simp only[World.cell?,hW,hg]
   simpa using hj
  ·rw[hdl,hcs];omega
  ·exact fun v hv=>h1 v (List.mem_of_mem_drop hv)
 have hcp2:∀(W:World) (ty:TypeId) (dc:Nat),W.heap=(w.setRow g (ar cur.toList ((i+1)*2) (cs.drop (i*2))).toArray).heap->(Builtin.copy_ #[129,129] ty #[.slice (some ⟨g,i*2,none⟩) (n+1-i) dc,.slice (some ⟨vb,0,none⟩) 1 vc]).run Tryz.prog W
   = .ok (goInt (Nat.min 1 (n+1-i))) (W.setRow g (ar (ar cur.toList ((i+1)*2) (cs.drop (i*2))) (i*2) xc).toArray):=by
  intro W ty dc hW
  have e1:=aG (l:=cur.toList) (o:=(i+1)*2) (cs:=cs.drop (i*2)) (by rw[hdl];simp;omega)
  have hgW:W.heap[g]? =some (.cells (ar cur.toList ((i+1)*2) (cs.drop (i*2))).toArray 279 (0,0)):=by rw[hW];exact setRow_heap w g cur _ _ _ hg
  have h2:=bB W 129 129 ty 279 g (i*2) (n+1-i) dc ⟨vb,0,none⟩ 1 vc _ 279 xc 2 Tryz.underlying129 ma hgW (by rw[hxl];simp only[Nat.min_def];split<;>omega) ?_ ?_ h1x
  ·simpa using h2
  ·intro j v hj
   rw[Addr.add_lit]
   have:W.heap[vb]? =w.heap[vb]?:=by rw[hW];exact setRow_other w g vb _ hne
   simp only[World.cell?,this,hv]
   simpa using hj
  ·simp only[List.size_toArray];rw[e1,hxl];simp;omega
 have HC1:=ab hcp1
 have HC2:=ab hcp2
 clear hcp1 hcp2
 go_enter Tryz.func200,Tryz.ntmps200
 go_wp2_with (simp only[hov])
 go_region_law (refine cq rfl (.tmp 73) (.tmp 76) 129 129 rfl (.slice (some ⟨g,(i+1)*2,none⟩) (n-i) (c-(i+1))) (.slice (some ⟨g,i*2,none⟩) (n+1-i) (c-i)) (by kernel_rfl) (by kernel_rfl) (HC1.out _ _ _ _ rfl) ?_;generalize hW1:World.setRow _ g _=W1;replace hW1:=ab hW1;refine Hid.out ?_;refine ab ?_)
 have HQ:Hid (W1.heap=(w.setRow g (ar cur.toList ((i+1)*2) (cs.drop (i*2))).toArray).heap):=by show _=_;rw[<-hW1.out];rfl
 go_wp2_with (refine dF rfl _ _ 129 129 rfl _ _ rfl rfl (HC2.out _ _ _ HQ.out) ?_;generalize hW2:World.setRow _ g _=W2;replace hW2:=ab hW2)
 go_ret
 refine⟨rfl,1,?_⟩
 rw[<-hW2.out,<-hW1.out,setRow_setRow]
 rfl
theorem tP(n vb vc:Nat)(lv:Value)(cs xc:List Value)(w:World)(hown:w.ownsRow 0 279 2 lv n cs)(hv:w.heap[vb]? =some (.cells xc.toArray 279 (0,0)))(hxl:xc.length=2)(h1x:∀v∈xc,v.oneCell'=true)(hn:n<=1000):
  Calls Tryz.prog 200 #[lv,.int .i64 n,.slice (some ⟨vb,0,none⟩) 1 vc] w fun e w'=>
   ∃lv',e=.returned lv'/\w'.ownsRow 0 279 2 lv' (n+1) (cs++xc)/\w.grownBy w' lv.ownBlock/\(lv'.ownBlock=lv.ownBlock\/∀g,lv'.ownBlock=some g->w.heap.size<=g):=by
 obtain⟨i0,hi,hz0,hz1,hz2⟩:=info_parts tS
 obtain⟨lv',w',hrun,r1,r2,r3⟩:=eJ (P:=Tryz.prog) w 0 129 129 279 i0 _ 2 32 Tryz.underlying129 hi hz0 hz1 hz2 rfl (by decide) lv n cs hown ⟨vb,0,none⟩ 1 vc xc (by omega) (fun j u hj=>by
  rw[Addr.add_lit]
  simp only[World.cell?,hv]
  simpa using hj) h1x (by unfold maxLen;omega) (by omega) (Nat.zero_le _)
 have HR:=ab hrun
 have R1:=ab r1
 have R2:=ab r2
 have R3:=ab r3
 obtain⟨ao,cap,rfl⟩:=bd hown
 obtain⟨ao',cap',rfl⟩:=bd r1
 clear hrun r1 r2 r3 hown hv
 cases ao with
 |none=>
  go_enter Tryz.func200,Tryz.ntmps200
  go_wp2_with (at_builtin;refine aS rfl _ _ 129 129 rfl _ _ rfl rfl HR.out ?_;refine Hid.out ?_)
  refine ab ?_
  go_wp2
  go_ret
  exact⟨_,rfl,R1.out,R2.out,R3.out⟩
 |some a=>
  go_enter Tryz.func200,Tryz.ntmps200
  go_wp2_with (at_builtin;refine aS rfl _ _ 129 129 rfl _ _ rfl rfl HR.out ?_;refine Hid.out ?_)
  all_goals
   refine ab ?_
   go_wp2
   go_ret
   exact⟨_,rfl,R1.out,R2.out,R3.out⟩
theorem qV(g n c i vb vc:Nat)(cur:Array Value)(xc cs:List Value)(w:World)(hg:w.heap[g]? =some (.cells cur 279 (0,0)))(hv:w.heap[vb]? =some (.cells xc.toArray 279 (0,0)))
  (hcl:cs.length=n*2) (hxl:xc.length=2) (htk:cur.toList.take (n*2)=cs) (hi:i<n) (hroom:c<n+1) (hnc:n<=c) (hn:n<=1000) (h1:∀v∈cs,v.oneCell'=true) (h1x:∀v∈xc,v.oneCell'=true):
  Calls Tryz.prog 200 #[.slice (some ⟨g,0,none⟩) n c,.int .i64 i,.slice (some ⟨vb,0,none⟩) 1 vc] w fun e w'=>
   ∃lv',e=.returned lv'/\w'.ownsRow w.heap.size 279 2 lv' (n+1) (cs.take (i*2)++xc++cs.drop (i*2))/\Below w.heap.size w w':=by
 obtain⟨i0,hi0,hz0,hz1,hz2⟩:=info_parts tS
 have hgl:g<w.heap.size:=(aLt hg)
 have hvl:vb<w.heap.size:=(aLt hv)
 have hcg:∀j v,cs[j]? =some v->w.cell? ⟨g,j,none⟩= some v:=fun j v hj=>by
  have hj':=(lLt hj)
  rw[<-htk,List.getElem?_take_of_lt (by omega)]at hj
  simp only[World.cell?,hg]
  simpa using hj
 have hcv:∀j v,xc[j]? =some v->w.cell? ⟨vb,j,none⟩= some v:=fun j v hj=>by
  simp only[World.cell?,hv]
  simpa using hj
 have hold:(Builtin.firstCells i0.size i (.slice (some ⟨g,0,none⟩) i c)).run Tryz.prog w.drew=.ok (cs.take (i*2)).toArray w.drew:=by
  rw[hz1]
  exact run_firstCells_some w.drew 2 i ⟨g,0,none⟩ i c (cs.take (i*2)) (by rw[List.length_take];omega) (fun j v hj=>by
   rw[Addr.add_lit,Nat.zero_add]
   rw[List.getElem?_take]at hj
   split at hj
   ·exact hcg j v hj
   ·cases hj)
 obtain⟨G,hG⟩:∃G,G=grownCap w (n+1) c 279:=⟨_,rfl⟩
 have hGn:n+1<=G:=by rw[hG];exact grownCap_ge w _ _ _
 have hGm:G<=maxLen:=by rw[hG];exact grownCap_le_maxLen w (n+1) c 279 (by unfold maxLen;omega)
 obtain⟨ROW,hROW⟩:∃ROW:Array Value,ROW=(cs.take (i*2)).toArray++Builtin.zeroCells (Value.agg #[.int .i64 0,.slice none 0 0]).cells (n+1-i)++Builtin.zeroCells (Value.agg #[.int .i64 0,.slice none 0 0]).cells (G-(n+1)):=⟨_,rfl⟩
 have hRs:ROW.size=G*2:=by
  rw[hROW]
  simp only[Array.size_append,List.size_toArray,size_zeroCells,List.length_take,hcl]
  rw[show(Value.agg #[.int .i64 0,.slice none 0 0]:Value).cells.size=2 from rfl]
  omega
 have hRt:∀j,j<i*2->ROW.toList[j]? =cs[j]?:=fun j hj=>by
  rw[hROW]
  simp only[Array.toList_append,List.append_assoc]
  rw[List.getElem?_append_left (by simp;omega),List.getElem?_take_of_lt hj]
 have hkk:(n:Int)+1-(i:Int)=((n+1-i:Nat):Int):=by omega
 have hik:i+(n+1-i)=n+1:=by omega
 have hrz:∀ty,(Builtin.append_ #[129,3] ty #[.slice (some ⟨g,0,none⟩) i c,.int .i64 ((n:Int)+1-(i:Int))]).run Tryz.prog w=.ok (.slice (some ⟨w.heap.size,0,none⟩) (n+1) G) (w.drew.alloc (.cells ROW 279)):=fun ty=>by
  have h:=Lib.run_append_grow_zeros w 129 3 ty 279 i0 _ .i64 .i64 Tryz.underlying129 Tryz.underlying3 hi0 hz0 (some ⟨g,0,none⟩) i c (cs.take (i*2)) hold (n+1-i) (by omega) (by omega) (by omega) (by omega) (by rw[hz2];omega) (by rw[hz2,hik];exact growslice_fits hroom (by omega))
  rw[hik,<-hG,<-hROW]at h
  rw[hkk]
  exact h
 have hdl:(cs.drop (i*2)).length=(n-i)*2:=by rw[List.length_drop,hcl];omega
 have HA:=ab hrz
 have HC1:Hid (∀(W:World) (ty:TypeId) (dc:Nat),W.heap=(w.alloc (.cells ROW 279)).heap->(Builtin.copy_ #[129,129] ty #[.slice (some ⟨w.heap.size,i*2,none⟩) (n+1-i) dc,.slice (some ⟨vb,0,none⟩) 1 vc]).run Tryz.prog W
   = .ok (goInt (Nat.min 1 (n+1-i))) (W.setRow w.heap.size (ar ROW.toList (i*2) xc).toArray)):=by
  intro W ty dc hW
  refine bB W 129 129 ty 279 w.heap.size (i*2) (n+1-i) dc ⟨vb,0,none⟩ 1 vc ROW 279 xc 2 Tryz.underlying129 ma (by rw[hW];exact heap_alloc_new w _) (by rw[hxl];simp only[Nat.min_def];split<;>omega) ?_ ?_ h1x
  ·intro j v hj
   rw[Addr.add_lit,Nat.zero_add]
   have:W.heap[vb]? =w.heap[vb]?:=by rw[hW];exact Below.heap_alloc _ _ _ hvl
   rw[<-hcv j v hj]
   simp only[World.cell?,this]
  ·rw[hxl,hRs];omega
 have e1:=aG (l:=ROW.toList) (o:=i*2) (cs:=xc) (by simp;omega)
 have HC2:Hid (∀(W:World) (ty:TypeId) (dc sc:Nat),W.heap=((w.alloc (.cells ROW 279)).setRow w.heap.size (ar ROW.toList (i*2) xc).toArray).heap->(Builtin.copy_ #[129,129] ty #[.slice (some ⟨w.heap.size,(i+1)*2,none⟩) (n-i) dc,.slice (some ⟨g,i*2,none⟩) (n-i) sc]).run Tryz.prog W
   = .ok (goInt (Nat.min (n-i) (n-i))) (W.setRow w.heap.size (ar (ar ROW.toList (i*2) xc) ((i+1)*2) (cs.drop (i*2))).toArray)):=by
  intro W ty dc sc hW
  have hgW:W.heap[w.heap.size]? =some (.cells (ar ROW.toList (i*2) xc).toArray 279 (0,0)):=by rw[hW];exact setRow_heap _ _ ROW _ _ _ (heap_alloc_new w _)
  have h2:=bB W 129 129 ty 279 w.heap.size ((i+1)*2) (n-i) dc ⟨g,i*2,none⟩ (n-i) sc _ 279 (cs.drop (i*2)) 2 Tryz.underlying129 ma hgW (by rw[hdl];simp only[Nat.min_def];split<;>omega) ?_ ?_ (fun v hv=>h1 v (List.mem_of_mem_drop hv))
  ·simpa using h2
  ·intro j v hj
   rw[List.getElem?_drop]at hj
   rw[Addr.add_lit]
   have:W.heap[g]? =w.heap[g]?:=by rw[hW,setRow_other _ _ _ _ (by omega)];exact Below.heap_alloc _ _ _ hgl
   rw[<-hcg _ v hj]
   simp only[World.cell?,this]
  ·simp only[List.size_toArray];rw[e1,hdl];simp;omega
 have hfin:(ar (ar ROW.toList (i*2) xc) ((i+1)*2) (cs.drop (i*2))).take ((n+1)*2)=cs.take (i*2)++xc++cs.drop (i*2):=by
  apply List.ext_getElem?
  intro j
  rcases Nat.lt_or_ge j ((n+1)*2) with hj|hj
  ·rw[List.getElem?_take_of_lt hj,di (by rw[e1,hdl];simp;omega),di (by simp;omega),List.append_assoc]
   rcases Nat.lt_or_ge j (i*2) with h1|h1
   ·rw[if_neg (by omega),if_neg (by omega),List.getElem?_append_left (by simp;omega),List.getElem?_take_of_lt h1]
    exact hRt j h1
   ·rw[List.getElem?_append_right (by simp;omega),List.length_take,Nat.min_eq_left (by omega)]
    rcases Nat.lt_or_ge j ((i+1)*2) with h2|h2
    ·rw[if_neg (by omega),if_pos (by omega),List.getElem?_append_left (by omega)]
    ·rw[if_pos (by rw[hdl];omega),List.getElem?_append_right (by omega)]
     congr 1
     omega
  ·rw[List.getElem?_eq_none (by simp;omega),List.getElem?_eq_none (by simp;omega)]
 have hlast:(ar (ar ROW.toList (i*2) xc) ((i+1)*2) (cs.drop (i*2))).length=G*2:=by rw[aG (by rw[e1,hdl];simp;omega),e1];simp;omega
 have HF:=ab hfin
 have HL:=ab hlast
 unfold maxLen at hGm
 have hw1:IntKind.i64.wrap ((i:Int)+1)=(i:Int)+1:=by rw[IntKind.wrap_i64];omega
 have hb1:(0:Int)<=(i:Int)+1:=by omega
 have hin:i<=n:=by omega
 have htn:((i:Int)+1).toNat=i+1:=by omega
 have hb2:¬(G=i+1):=by omega
 have hb3:(i:Int)<=(n:Int)+1:=by omega
 have hb4:¬(c=i):=by omega
 have hb5:¬(G=i):=by omega
 have hb6:(c:Int)<(n:Int)+1:=by omega
 have hb7:(i:Int)<=(n:Int):=by omega
 have u1:=run_underlying Tryz.underlying129
 have z1:=fF
 clear hold hROW hrz hkk hik hcg hcv hRt hfin hlast e1 hG
 go_enter Tryz.func200,Tryz.ntmps200
 go_wp2_with (first |(at_builtin;refine aS rfl _ _ 129 3 rfl _ _ rfl rfl (HA.out _) ?_;refine Hid.out ?_))
 refine ab ?_
 generalize hW1:(w.alloc (.cells ROW 279)).drew=W1
 have HQ:Hid (W1.heap=(w.alloc (.cells ROW 279)).heap):=by show _=_;rw[<-hW1];rfl
 replace hW1:=ab hW1
 go_wp2_with (refine dF rfl _ _ 129 129 rfl (.slice (some ⟨w.heap.size,i*2,none⟩) (n+1-i) (G-i)) (.slice (some ⟨vb,0,none⟩) 1 vc) (by kernel_rfl) (by kernel_rfl) (HC1.out W1 3 (G-i) HQ.out) ?_;refine Hid.out ?_)
 refine ab ?_
 generalize hW2:World.setRow _ w.heap.size _=W2
 replace hW2:=ab hW2
 have HQ2:Hid (∀m:World,m.heap=W2.heap->m.heap=((w.alloc (.cells ROW 279)).setRow w.heap.size (ar ROW.toList (i*2) xc).toArray).heap):=by
  intro m hm
  rw[hm,<-hW2.out,<-hW1.out]
  rfl
 go_wp2_with fail
 go_region_law (refine cq rfl (.tmp 50) (.tmp 53) 129 129 rfl (.slice (some ⟨w.heap.size,(i+1)*2,none⟩) (n-i) (G-(i+1))) (.slice (some ⟨g,i*2,none⟩) (n-i) (c-i)) (by kernel_rfl) (by kernel_rfl) (HC2.out _ _ _ _ (HQ2.out _ rfl)) ?_;generalize hW3:World.setRow _ w.heap.size _=W3;replace hW3:=ab hW3;refine Hid.out ?_;refine ab ?_)
 go_wp2_with fail
 go_ret
 have hW3':W3=(w.alloc (.cells ROW 279)).drew.drew.setRow w.heap.size (ar (ar ROW.toList (i*2) xc) ((i+1)*2) (cs.drop (i*2))).toArray:=by
  rw[<-hW3.out,<-hW2.out,<-hW1.out]
  exact setRow_setRow (w.alloc (.cells ROW 279)).drew.drew w.heap.size (ar ROW.toList (i*2) xc).toArray _
 have hgW:W3.heap[w.heap.size]? =some (.cells (ar (ar ROW.toList (i*2) xc) ((i+1)*2) (cs.drop (i*2))).toArray 279 (0,0)):=by rw[hW3'];exact setRow_heap _ _ ROW _ _ _ (show(w.alloc (.cells ROW 279)).drew.drew.heap[w.heap.size]? =_ from heap_alloc_new w _)
 refine⟨_,rfl,⟨by simp only[List.length_append,List.length_take,hdl,hxl,hcl];omega,.inr ⟨w.heap.size,G,_,rfl,Nat.le_refl _,hgW,hGn,by unfold maxLen;omega,?_,HF.out⟩⟩,?_⟩
 ·rw[List.size_toArray];exact HL.out
 ·rw[hW3']
  refine⟨rfl,rfl,rfl,by simp[World.setRow],fun k hk=>?_⟩
  rw[setRow_other _ _ _ _ (by omega)]
  exact Below.heap_alloc w _ _ hk
theorem tO(l:List bn)(x:bn)(i vb vc:Nat)(lv:Value)(w:World)(hown:w.ownsRow 0 279 2 lv l.length (aC l))(hv:w.heap[vb]? =some (.cells #[.int .i64 x.1,x.2] 279 (0,0)))(hne:lv.ownBlock≠some vb)(hi:i<=l.length)(hn:l.length<=1000)
  (h1:∀r∈l,r.2.oneCell'=true) (hx:x.2.oneCell'=true):
  Calls Tryz.prog 200 #[lv,.int .i64 i,.slice (some ⟨vb,0,none⟩) 1 vc] w fun e w'=>
   ∃lv',e=.returned lv'/\w'.ownsRow 0 279 2 lv' (l.length+1) (aC (l.take i++x::l.drop i))/\w.grownBy w' lv.ownBlock/\(lv'.ownBlock=lv.ownBlock\/∀g,lv'.ownBlock=some g->w.heap.size<=g):=by
 have hxo:∀v∈[Value.int .i64 x.1,x.2],v.oneCell'=true:=by
  intro v hv
  simp only[List.mem_cons,List.not_mem_nil,or_false]at hv
  rcases hv with rfl|rfl
  ·rfl
  ·exact hx
 have hfin:aC (l.take i++x::l.drop i)=(aC l).take (i*2)++[.int .i64 x.1,x.2]++(aC l).drop (i*2):=by rw[eG,de,iP,iO,List.append_assoc]
 rcases Nat.lt_or_eq_of_le hi with hlt|rfl
 ·rcases hown.2 with⟨_,h0⟩|⟨g,cap,cur,rfl,_,hg,hnc,hcm,hcs,htk⟩
  ·omega
  ·have hne':vb≠g:=fun e=>hne (by simp[Value.ownBlock,e])
   by_cases hroom:l.length+1<=cap
   ·refine(qW g l.length cap i vb vc cur [.int .i64 x.1,x.2] (aC l) w hg hv hne' (aE l) rfl htk hlt hroom hcs hcm (eR h1) hxo).mono ?_
    rintro e w' ⟨rfl,q,rfl⟩
    have e1:=aG (l:=cur.toList) (o:=(i+1)*2) (cs:=(aC l).drop (i*2)) (by rw[List.length_drop,aE];simp;omega)
    have e2:=aG (l:=ar cur.toList ((i+1)*2) ((aC l).drop (i*2))) (o:=i*2) (cs:=[.int .i64 x.1,x.2]) (by rw[e1];simp;omega)
    refine⟨_,rfl,⟨by rw[aE];simp;omega,.inr ⟨g,cap,_,rfl,Nat.zero_le _,setRow_heap (w.drewN q) g cur _ _ _ hg,hroom,hcm,?_,?_⟩⟩,⟨rfl,rfl,rfl,by simp[World.setRow,World.drewN],fun k _ hk=>setRow_other (w.drewN q) g k _ (fun e=>hk (by simp[e,Value.ownBlock]))⟩,Or.inl rfl⟩
    ·rw[List.size_toArray,e2,e1];simpa using hcs
    ·rw[hfin]
     have h3:=uZ (cur:=cur.toList) (cs:=aC l) (xc:=[.int .i64 x.1,x.2]) (a:=i*2) (by rw[aE];exact htk) (by rw[aE];omega) (by rw[aE];simp;omega)
     rw[aE]at h3
     rw[show(i+1)*2=i*2+[Value.int .i64 x.1,x.2].length from by simp;omega,show(l.length+1)*2=l.length*2+[Value.int .i64 x.1,x.2].length from by simp;omega]
     exact h3
   ·refine(qV g l.length cap i vb vc cur [.int .i64 x.1,x.2] (aC l) w hg hv (aE l) rfl htk hlt (by omega) hnc hn (eR h1) hxo).mono ?_
    rintro e w' ⟨lv',rfl,ho,hb⟩
    exact⟨lv',rfl,by rw[hfin];exact ch ho (Nat.zero_le _),iM hb _,Or.inr fun k hk=>(ho.lt k hk).1⟩
 ·refine(tP l.length vb vc lv (aC l) [.int .i64 x.1,x.2] w hown hv rfl hxo hn).mono ?_
  rintro e w' ⟨lv',rfl,ho,hg,ha⟩
  refine⟨lv',rfl,?_,hg,ha⟩
  rw[List.take_length,List.drop_length,eG]
  exact ho
theorem u_zero(w:World):(zeroValue 279).run Tryz.prog w=.ok (.agg #[.int .i64 0,.slice none 0 0]) w:=by kernel_rfl
theorem tQ(g o n c:Nat)(cur:Array Value)(W:World)(hg:W.heap[g]? =some (.cells cur 279 (0,0)))(hfit:o+n*2<=cur.size)(ty:TypeId):
  ∃W',(Builtin.clear_ #[129] ty #[.slice (some ⟨g,o,none⟩) n c]).run Tryz.prog W=.ok (.tuple #[]) W'/\W'=W.setRow g (ar cur.toList o (zs2 n)).toArray:=by
 rcases Nat.eq_zero_or_pos n with rfl|hn
 ·refine⟨W,?_,?_⟩
  ·simp[Builtin.clear_,run_underlying Tryz.underlying129]
  ·have:ar cur.toList o (zs2 0)=cur.toList:=by simp[ar,zs2]
   rw[this]
   exact(setRow_self W g cur _ _ hg).symm
 ·refine⟨_,?_,rfl⟩
  have h:=iI (P:=Tryz.prog) W 129 279 ty _ Tryz.underlying129 (u_zero W) g o n c hn cur 279 hg (by rw[show(Value.agg #[.int .i64 0,.slice none 0 0]:Value).cells.size=2 from rfl];exact hfit) (by
   intro v hv
   have hv':v∈[Value.int .i64 0,.slice none 0 0]:=hv
   simp only[List.mem_cons,List.not_mem_nil,or_false]at hv'
   rcases hv' with rfl|rfl<;>rfl)
  exact h
set_option maxRecDepth 100000 in
theorem qZ(g n c i j vb vc:Nat)(cur:Array Value)(xc cs:List Value)(w:World)(hg:w.heap[g]? =some (.cells cur 279 (0,0)))(hv:w.heap[vb]? =some (.cells xc.toArray 279 (0,0)))
  (hcl:cs.length=n*2) (hxl:xc.length=2) (htk:cur.toList.take (n*2)=cs) (hij:i<j) (hj:j<n) (hnc:n<=c) (hcs:cur.size=c*2) (hn:n<=1000) (hm:c<=maxLen) (h1:∀v∈cs,v.oneCell'=true) (h1x:∀v∈xc,v.oneCell'=true):
  Calls Tryz.prog 178 #[.slice (some ⟨g,0,none⟩) n c,.int .i64 i,.int .i64 j,.slice (some ⟨vb,0,none⟩) 1 vc] w fun e w'=>
   e=.returned (.slice (some ⟨g,0,none⟩) (i+1+(n-j)) c)/\∃q,w'=(w.drewN q).setRow g (ar (ar (ar cur.toList (i*2) xc) ((i+1)*2) (cs.drop (j*2))) ((i+1+(n-j))*2) (zs2 (n-(i+1+(n-j))))).toArray:=by
 have hdl:(cs.drop (j*2)).length=(n-j)*2:=by rw[List.length_drop,hcl];omega
 have e1:=aG (l:=cur.toList) (o:=i*2) (cs:=xc) (by simp;omega)
 have e2:=aG (l:=ar cur.toList (i*2) xc) (o:=(i+1)*2) (cs:=cs.drop (j*2)) (by rw[e1,hdl];simp;omega)
 have HC1:Hid (∀(W:World) (ty:TypeId) (m dc:Nat),1<=m->W.heap=w.heap->(Builtin.copy_ #[129,129] ty #[.slice (some ⟨g,i*2,none⟩) m dc,.slice (some ⟨vb,0,none⟩) 1 vc]).run Tryz.prog W
   = .ok (goInt 1) (W.setRow g (ar cur.toList (i*2) xc).toArray)):=by
  intro W ty m dc hm hW
  have e:Nat.min 1 m=1:=by simp only[Nat.min_def];split<;>omega
  have h2:=bB W 129 129 ty 279 g (i*2) m dc ⟨vb,0,none⟩ 1 vc cur 279 xc 2 Tryz.underlying129 ma (by rw[hW];exact hg) (by rw[hxl,e]) ?_ ?_ h1x
  ·rw[e]at h2;exact h2
  ·intro k v hk
   rw[Addr.add_lit,Nat.zero_add]
   simp only[World.cell?,hW,hv]
   simpa using hk
  ·rw[hxl,hcs];omega
 have HC2:Hid (∀(W:World) (ty:TypeId) (m dc sc:Nat),m=n-j->W.heap=(w.setRow g (ar cur.toList (i*2) xc).toArray).heap->(Builtin.copy_ #[129,129] ty #[.slice (some ⟨g,(i+1)*2,none⟩) m dc,.slice (some ⟨g,j*2,none⟩) (n-j) sc]).run Tryz.prog W
   = .ok (goInt (n-j:Nat)) (W.setRow g (ar (ar cur.toList (i*2) xc) ((i+1)*2) (cs.drop (j*2))).toArray)):=by
  intro W ty m dc sc hm hW
  have e:Nat.min (n-j) m=n-j:=by rw[hm];exact Nat.min_self _
  have hgW:W.heap[g]? =some (.cells (ar cur.toList (i*2) xc).toArray 279 (0,0)):=by rw[hW];exact setRow_heap _ _ cur _ _ _ hg
  have h2:=bB W 129 129 ty 279 g ((i+1)*2) m dc ⟨g,j*2,none⟩ (n-j) sc _ 279 (cs.drop (j*2)) 2 Tryz.underlying129 ma hgW (by rw[hdl,e]) ?_ ?_ (fun v hv=>h1 v (List.mem_of_mem_drop hv))
  ·rw[e]at h2
   simpa using h2
  ·intro k v hk
   have hk':=(lLt hk)
   rw[List.getElem?_drop,<-htk,List.getElem?_take_of_lt (by omega)]at hk
   rw[Addr.add_lit]
   simp only[World.cell?,hgW]
   rw[List.getElem?_toArray,di (by simp;omega),if_neg (show ¬(i*2<=j*2+k/\j*2+k<i*2+xc.length) from by omega)]
   exact hk
  ·simp only[List.size_toArray];rw[e1,hdl];simp;omega
 have HC3:Hid (∀(W:World) (ty:TypeId) (o m dc:Nat),(o=(i+1+(n-j))*2\/m=0)->m=n-(i+1+(n-j))->W.heap=(w.setRow g (ar (ar cur.toList (i*2) xc) ((i+1)*2) (cs.drop (j*2))).toArray).heap->(Builtin.clear_ #[129] ty #[.slice (some ⟨g,o,none⟩) m dc]).run Tryz.prog W
   = .ok (.tuple #[]) (W.setRow g (ar (ar (ar cur.toList (i*2) xc) ((i+1)*2) (cs.drop (j*2))) ((i+1+(n-j))*2) (zs2 (n-(i+1+(n-j))))).toArray)):=by
  intro W ty o m dc ho hm hW
  have hgW:W.heap[g]? =some (.cells (ar (ar cur.toList (i*2) xc) ((i+1)*2) (cs.drop (j*2))).toArray 279 (0,0)):=by rw[hW];exact setRow_heap _ _ cur _ _ _ hg
  rcases ho with ho|ho
  ·subst ho hm
   obtain⟨W',h1,rfl⟩:=tQ g ((i+1+(n-j))*2) (n-(i+1+(n-j))) dc _ W hgW (by rw[List.size_toArray,e2,e1];simp;omega) ty
   exact h1
  ·subst ho
   have e3:ar (ar (ar cur.toList (i*2) xc) ((i+1)*2) (cs.drop (j*2))) ((i+1+(n-j))*2) (zs2 (n-(i+1+(n-j))))=ar (ar cur.toList (i*2) xc) ((i+1)*2) (cs.drop (j*2)):=by
    rw[<-hm]
    generalize ar (ar cur.toList (i*2) xc) ((i+1)*2) (cs.drop (j*2))=q
    simp[ar,zs2]
   rw[e3,setRow_self W g _ _ _ hgW]
   simp[Builtin.clear_,run_underlying Tryz.underlying129]
 unfold maxLen at hm
 have hw1:IntKind.i64.wrap ((i:Int)+1)=(i:Int)+1:=by rw[IntKind.wrap_i64];omega
 have hb1:(0:Int)<=(i:Int)+1:=by omega
 have htn:((i:Int)+1).toNat=i+1:=by omega
 have hb2:¬(c=i+1):=by omega
 have hb4:¬(c=i):=by omega
 have hb5:¬(c=j):=by omega
 have hbq:((i:Int)==(j:Int))=false:=beq_eq_false_iff_ne.2 (by omega)
 have hbr:((j:Int)==(n:Int))=false:=beq_eq_false_iff_ne.2 (by omega)
 have hwT:IntKind.i64.wrap ((i:Int)+1+((n-j:Nat):Int))=(i:Int)+1+((n-j:Nat):Int):=by rw[IntKind.wrap_i64];omega
 have hT2:¬((c:Int)<(i:Int)+1+((n-j:Nat):Int)):=by omega
 have hT3:(i:Int)+1+((n-j:Nat):Int)<=(c:Int):=by omega
 have hT4:(i:Int)+1+((n-j:Nat):Int)<=(n:Int):=by omega
 have hbi:(i:Int)<=(c:Int):=by omega
 have hbj:(j:Int)<=(n:Int):=by omega
 have hbij:(i:Int)<=(j:Int):=by omega
 have hbjc:(j:Int)<=(c:Int):=by omega
 have hbq1:(i:Int)+1<=(i:Int)+1+((n-j:Nat):Int):=by omega
 have hbi1j:(i:Int)+1<=(j:Int):=by omega
 have u1:=run_underlying Tryz.underlying129
 have z1:=fF
 clear e1 e2
 go_enter Tryz.func178,Tryz.ntmps178
 go_wp2_with fail
 go_quiet (fail)
 generalize hW0:w.drewN _=W0
 have HQ0:Hid (W0.heap=w.heap):=by show _=_;rw[<-hW0];rfl
 replace hW0:=ab hW0
 go_wp2_with (refine dF rfl _ _ 129 129 rfl _ _ rfl rfl (HC1.out W0 _ _ _ (by omega) HQ0.out) ?_;refine Hid.out ?_)
 refine ab ?_
 generalize hW1:World.setRow W0 g _=W1
 have HQ1:Hid (∀m:World,m.heap=W1.heap->m.heap=(w.setRow g (ar cur.toList (i*2) xc).toArray).heap):=by
  intro m hm
  rw[hm,<-hW1]
  simp only[World.setRow,HQ0.out]
 replace hW1:=ab hW1
 go_wp2_with fail
 go_region_law (refine cq rfl (.tmp 103) (.tmp 106) 129 129 rfl (.slice (some ⟨g,(i+1)*2,none⟩) (n-j) (c-(i+1))) (.slice (some ⟨g,j*2,none⟩) (n-j) (c-j)) (by kernel_rfl) (by kernel_rfl) (HC2.out _ _ _ _ _ rfl (HQ1.out _ rfl)) ?_;generalize hW2:World.setRow _ g _=W2;replace hW2:=ab hW2;refine Hid.out ?_;refine ab ?_)
 have HQ2:Hid (∀m:World,m.heap=W2.heap->m.heap=(w.setRow g (ar (ar cur.toList (i*2) xc) ((i+1)*2) (cs.drop (j*2))).toArray).heap):=by
  intro m hm
  rw[hm,<-hW2.out]
  exact(kX (HQ1.out _ rfl) g _).trans (congrArg World.heap (setRow_setRow w g _ _))
 have hfin:Hid (∃q,W2.setRow g (ar (ar (ar cur.toList (i*2) xc) ((i+1)*2) (cs.drop (j*2))) ((i+1+(n-j))*2) (zs2 (n-(i+1+(n-j))))).toArray=(w.drewN q).setRow g (ar (ar (ar cur.toList (i*2) xc) ((i+1)*2) (cs.drop (j*2))) ((i+1+(n-j))*2) (zs2 (n-(i+1+(n-j))))).toArray):=by
  refine⟨nq+1,?_⟩
  rw[<-hW2.out,<-hW1.out,<-hW0.out,setRow_setRow]
  exact setRow_setRow (w.drewN (nq+1)) g (ar cur.toList (i*2) xc).toArray _
 by_cases hcT:c=i+1+(n-j)
 all_goals
  go_wp2_with (refine bV rfl _ 129 rfl _ rfl (HC3.out W2 _ _ _ _ (by omega) (by omega) (HQ2.out _ rfl)) ?_;refine Hid.out ?_)
  refine ab ?_
  go_wp2_with fail
  go_ret
  obtain⟨q,hq⟩:=hfin.out
  exact⟨by first|rfl |(rw[hcT];rfl),q,hq⟩
end Go.Proofs.YthmdjhlhodpbhaaGreatDoor
