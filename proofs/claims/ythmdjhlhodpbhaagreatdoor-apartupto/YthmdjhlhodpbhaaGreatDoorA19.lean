/- Apart, 19 -/
import Derived.Test.YthmdjhlhodpbhaaGreatDoorA18
set_option maxHeartbeats 16000000
set_option maxRecDepth 8000
namespace Go.Proofs.YthmdjhlhodpbhaaGreatDoor
open Go.RowKit
set_option maxRecDepth 100000 in
theorem qj(g n c i vb vc:Nat)(cur:Array Value)(xc:List Value)(w:World)(hg:w.heap[g]? =some (.cells cur 279 (0,0)))(hv:w.heap[vb]? =some (.cells xc.toArray 279 (0,0)))
  (hxl:xc.length=2) (hij:i<n) (hnc:n<=c) (hcs:cur.size=c*2) (hn:n<=1000) (hm:c<=maxLen) (h1x:∀v∈xc,v.oneCell'=true):
  Calls Tryz.prog 178 #[.slice (some ⟨g,0,none⟩) n c,.int .i64 i,.int .i64 n,.slice (some ⟨vb,0,none⟩) 1 vc] w fun e w'=>
   e=.returned (.slice (some ⟨g,0,none⟩) (i+1) c)/\w'=w.setRow g (ar (ar cur.toList (i*2) xc) ((i+1)*2) (zs2 (n-(i+1)))).toArray:=by
 obtain⟨i0,hi0,hz0,hz1,hz2⟩:=info_parts tS
 have e1:=aG (l:=cur.toList) (o:=i*2) (cs:=xc) (by simp;omega)
 have HA:Hid (∀ty,(Builtin.append_ #[129,129] ty #[.slice (some ⟨g,0,none⟩) i c,.slice (some ⟨vb,0,none⟩) 1 vc]).run Tryz.prog w=.ok (.slice (some ⟨g,0,none⟩) (i+1) c) (w.setRow g (ar cur.toList (i*2) xc).toArray)):=by
  intro ty
  have h:=run_append_room (P:=Tryz.prog) w 129 ty 279 i0 Tryz.underlying129 hi0 g i c cur hg ⟨vb,0,none⟩ 1 vc xc (by rw[hz1,hxl]) (fun j u hj=>by
   rw[Addr.add_lit]
   simp only[World.cell?,hv]
   simpa using hj) h1x (by omega) (by rw[hz1,hxl,hcs];omega)
  rw[hz1]at h
  exact h
 have hgW:(w.setRow g (ar cur.toList (i*2) xc).toArray).heap[g]? =some (.cells (ar cur.toList (i*2) xc).toArray 279 (0,0)):=setRow_heap _ _ cur _ _ _ hg
 have HC3:Hid (∀(W:World) (ty:TypeId) (dc:Nat),W=w.setRow g (ar cur.toList (i*2) xc).toArray->(Builtin.clear_ #[129] ty #[.slice (some ⟨g,(i+1)*2,none⟩) (n-(i+1)) dc]).run Tryz.prog W
   = .ok (.tuple #[]) (w.setRow g (ar (ar cur.toList (i*2) xc) ((i+1)*2) (zs2 (n-(i+1)))).toArray)):=by
  intro W ty dc hW
  obtain⟨W',h1,h2⟩:=tQ g ((i+1)*2) (n-(i+1)) dc _ W (by rw[hW];exact hgW) (by rw[List.size_toArray,e1];simp;omega) ty
  rw[h1,h2,hW,setRow_setRow]
 have hlast:i+1=n->w.setRow g (ar cur.toList (i*2) xc).toArray=w.setRow g (ar (ar cur.toList (i*2) xc) ((i+1)*2) (zs2 (n-(i+1)))).toArray:=by
  intro h
  congr 2
  rw[<-h]
  generalize ar cur.toList (i*2) xc=q
  simp[ar,zs2]
 replace hlast:=ab hlast
 unfold maxLen at hm
 have hbq:((i:Int)==(n:Int))=false:=beq_eq_false_iff_ne.2 (by omega)
 have hb4:¬(c=i):=by omega
 have hbi:(i:Int)<=(c:Int):=by omega
 have hbin:(i:Int)<=(n:Int):=by omega
 have hbn:(n:Int)<=(c:Int):=by omega
 have hw1:IntKind.i64.wrap ((i:Int)+1)=(i:Int)+1:=by rw[IntKind.wrap_i64];omega
 have hb1:(0:Int)<=(i:Int)+1:=by omega
 have htn:((i:Int)+1).toNat=i+1:=by omega
 have u1:=run_underlying Tryz.underlying129
 have z1:=fF
 clear e1 hgW
 by_cases hlt:i+1<n
 ·have hb2:¬(c=i+1):=by omega
  have hb3:(i:Int)+1<(n:Int):=by omega
  have hb5:(i:Int)+1<=(n:Int):=by omega
  go_enter Tryz.func178,Tryz.ntmps178
  go_wp2_with (at_builtin;refine aS rfl _ _ 129 129 rfl _ _ rfl rfl (HA.out _) ?_;refine Hid.out ?_)
  refine ab ?_
  generalize hW1:World.setRow w g _=W1
  replace hW1:=ab hW1
  go_wp2_with (refine bV rfl _ 129 rfl _ rfl (HC3.out W1 _ _ hW1.out.symm) ?_;refine Hid.out ?_)
  refine ab ?_
  go_wp2_with fail
  go_ret
  exact⟨rfl,rfl⟩
 ·have hb3:¬((i:Int)+1<(n:Int)):=by omega
  go_enter Tryz.func178,Tryz.ntmps178
  go_wp2_with (at_builtin;refine aS rfl _ _ 129 129 rfl _ _ rfl rfl (HA.out _) ?_;refine Hid.out ?_)
  refine ab ?_
  generalize hW1:World.setRow w g _=W1
  replace hW1:=ab hW1
  go_wp2_with fail
  go_ret
  exact⟨rfl,by rw[<-hW1.out];exact hlast.out (by omega)⟩
set_option maxRecDepth 100000 in
theorem qY{v:Value}{lv:Value}{n i:Nat}{w:World}{R:Value->World->Prop}(hlv:∃ao cap,lv=.slice ao n cap/\i<=n/\n<=cap/\cap<=9223372036854775807/\(ao=none->n=0/\cap=0)/\∀a,ao=some a->∃g,a =⟨g,0,none⟩)
  (H:Calls Tryz.prog 200 #[lv,.int .i64 i,v] w fun e w'=>∃lv',e=.returned lv'/\R lv' w'):Calls Tryz.prog 178 #[lv,.int .i64 i,.int .i64 i,v] w fun e w'=>∃lv',e=.returned lv'/\R lv' w':=by
 obtain⟨ao,cap,rfl,hi,hnc,hcm,hnone,hsome⟩:=hlv
 have HH:=ab H
 clear H
 have u1:=run_underlying Tryz.underlying129
 have z1:=fF
 cases ao with
 |none=>
  obtain⟨rfl,rfl⟩:=hnone rfl
  obtain rfl:i=0:=by omega
  clear hnone hsome
  have H0:Hid (Calls Tryz.prog 200 #[.slice none 0 0,.int .i64 0,v] w fun e w'=>∃lv',e=.returned lv'/\R lv' w'):=HH.out
  clear HH
  go_enter Tryz.func178,Tryz.ntmps178
  go_wp2_with fail
  refine H0.out.mono ?_
  rintro e w' ⟨v',rfl,hq⟩
  have HQQ:=ab hq
  clear hq
  go_wp2_with fail
  go_ret
  exact⟨_,rfl,HQQ.out⟩
 |some a=>
  obtain⟨g,rfl⟩:=hsome a rfl
  clear hnone hsome
  have hbi:(i:Int)<=(cap:Int):=by omega
  by_cases hci:cap=i
  ·subst hci
   go_enter Tryz.func178,Tryz.ntmps178
   go_wp2_with fail
   refine HH.out.mono ?_
   rintro e w' ⟨v',rfl,hq⟩
   have HQQ:=ab hq
   clear hq
   go_wp2_with fail
   go_ret
   exact⟨_,rfl,HQQ.out⟩
  ·go_enter Tryz.func178,Tryz.ntmps178
   go_wp2_with fail
   refine HH.out.mono ?_
   rintro e w' ⟨v',rfl,hq⟩
   have HQQ:=ab hq
   clear hq
   go_wp2_with fail
   go_ret
   exact⟨_,rfl,HQQ.out⟩
theorem qX(l:List bn)(x:bn)(i j vb vc:Nat)(lv:Value)(w:World)(hown:w.ownsRow 0 279 2 lv l.length (aC l))(hv:w.heap[vb]? =some (.cells #[.int .i64 x.1,x.2] 279 (0,0)))(hne:lv.ownBlock≠some vb)(hij:i<=j)(hj:j<=l.length)(hn:l.length<=1000)
  (h1:∀r∈l,r.2.oneCell'=true) (hx:x.2.oneCell'=true):
  Calls Tryz.prog 178 #[lv,.int .i64 i,.int .i64 j,.slice (some ⟨vb,0,none⟩) 1 vc] w fun e w'=>
   ∃lv',e=.returned lv'/\w'.ownsRow 0 279 2 lv' (l.take i++x::l.drop j).length (aC (l.take i++x::l.drop j))/\w.grownBy w' lv.ownBlock/\(lv'.ownBlock=lv.ownBlock\/∀g,lv'.ownBlock=some g->w.heap.size<=g):=by
 have hxo:∀v∈[Value.int .i64 x.1,x.2],v.oneCell'=true:=by
  intro v hv
  simp only[List.mem_cons,List.not_mem_nil,or_false]at hv
  rcases hv with rfl|rfl
  ·rfl
  ·exact hx
 rcases Nat.lt_or_eq_of_le hij with hlt|rfl
 ·rcases hown.2 with⟨_,h0⟩|⟨g,cap,cur,rfl,_,hg,hnc,hcm,hcs,htk⟩
  ·omega
  ·have hfin:aC (l.take i++x::l.drop j)=(aC l).take (i*2)++[.int .i64 x.1,x.2]++(aC l).drop (j*2):=by rw[eG,de,iP,iO,List.append_assoc]
   have hlen:(l.take i++x::l.drop j).length=i+1+(l.length-j):=by simp;omega
   have h3:=vC (cur:=cur.toList) (cs:=aC l) (xc:=[.int .i64 x.1,x.2]) (zs:=zs2 (l.length-(i+1+(l.length-j)))) (a:=i*2) (b:=j*2) (by rw[aE];exact htk) (by simp;omega) (by rw[aE];omega) (by rw[aE];simp;omega) (by rw[dN];simp;omega)
   rw[aE,<-hfin,show i*2+[Value.int .i64 x.1,x.2].length=(i+1)*2 from by simp;omega]at h3
   have e1:=aG (l:=cur.toList) (o:=i*2) (cs:=[.int .i64 x.1,x.2]) (by simp;omega)
   have e2:=aG (l:=ar cur.toList (i*2) [.int .i64 x.1,x.2]) (o:=(i+1)*2) (cs:=(aC l).drop (j*2)) (by rw[e1,List.length_drop,aE];simp;omega)
   rcases Nat.lt_or_eq_of_le hj with hjl|rfl
   ·refine(qZ g l.length cap i j vb vc cur [.int .i64 x.1,x.2] (aC l) w hg hv (aE l) rfl htk hlt hjl hnc hcs hn hcm (eR h1) hxo).mono ?_
    rintro e w' ⟨rfl,q,rfl⟩
    rw[hlen]
    have h4:=jC (w:=w) (n:=l.length) (m:=i+1+(l.length-j)) (c:=cap) (q:=q) (R:=ar (ar (ar cur.toList (i*2) [.int .i64 x.1,x.2]) ((i+1)*2) ((aC l).drop (j*2))) ((i+1+(l.length-j))*2) (zs2 (l.length-(i+1+(l.length-j))))) hg
     (by rw[aG (by rw[e2,e1,dN];simp;omega),e2,e1];simpa using hcs) (by omega) hcm hlen (by rw[show(i+1+(l.length-j))*2=(i+1)*2+(l.length*2-j*2) from by omega];exact h3)
    exact⟨_,rfl,h4.1,h4.2,Or.inl rfl⟩
   ·refine(qj g l.length cap i vb vc cur [.int .i64 x.1,x.2] w hg hv rfl hlt hnc hcs hn hcm hxo).mono ?_
    rintro e w' ⟨rfl,rfl⟩
    have ed:(aC l).drop (l.length*2)=[]:=List.drop_eq_nil_of_le (by rw[aE];exact Nat.le_refl _)
    have eo:ar (ar cur.toList (i*2) [.int .i64 x.1,x.2]) ((i+1)*2) []=ar cur.toList (i*2) [.int .i64 x.1,x.2]:=by
     generalize ar cur.toList (i*2) [.int .i64 x.1,x.2]=q
     simp[ar]
    rw[ed,eo]at h3
    rw[Nat.sub_self,Nat.add_zero]at h3 hlen
    rw[Nat.sub_self,Nat.add_zero]at h3
    rw[hlen]
    have h4:=jC (w:=w) (n:=l.length) (m:=i+1) (c:=cap) (q:=0) (R:=ar (ar cur.toList (i*2) [.int .i64 x.1,x.2]) ((i+1)*2) (zs2 (l.length-(i+1)))) hg
     (by rw[aG (by rw[e1,dN];simp;omega),e1];simpa using hcs) (by omega) hcm hlen h3
    exact⟨_,rfl,h4.1,h4.2,Or.inl rfl⟩
 ·refine qY (n:=l.length) ?_ ((tO l x i vb vc lv w hown hv hne hj hn h1 hx).mono ?_)
  ·rcases hown.2 with⟨rfl,h0⟩|⟨g,cap,cur,rfl,_,hg,hnc,hcm,hcs,htk⟩
   ·exact⟨none,0,by rw[h0],by omega,by omega,by omega,fun _=>⟨h0,rfl⟩,fun a h=>by cases h⟩
   ·refine⟨_,cap,rfl,hj,hnc,by unfold maxLen at hcm;omega,fun h=>(by cases h),fun a h=>⟨g,?_⟩⟩
    cases h
    rfl
  ·rintro e w' ⟨lv',rfl,ho,hg,ha⟩
   refine⟨lv',rfl,?_,hg,ha⟩
   have:(l.take i++x::l.drop i).length=l.length+1:=by simp;omega
   rw[this]
   exact ho
theorem tM(g n c:Nat)(cur:Array Value)(cs:List Value)(w:World)(hg:w.heap[g]? =some (.cells cur 279 (0,0)))(hcl:cs.length=n*2)(htk:cur.toList.take (n*2)=cs)(hn0:0<n)(hnc:n<=c)(hcs:cur.size=c*2)(hn:n<=1000)(hm:c<=maxLen)(h1:∀v∈cs,v.oneCell'=true):
  Calls Tryz.prog 180 #[.slice (some ⟨g,0,none⟩) n c,.int .i64 0,.int .i64 1] w fun e w'=>
   e=.returned (.slice (some ⟨g,0,none⟩) (n-1) c)/\∃q,w'=(w.drewN q).setRow g (ar (ar cur.toList 0 (cs.drop 2)) ((n-1)*2) (zs2 1)).toArray:=by
 obtain⟨i0,hi0,hz0,hz1,hz2⟩:=info_parts tS
 have hdl:(cs.drop 2).length=(n-1)*2:=by rw[List.length_drop,hcl];omega
 have e1:=aG (l:=cur.toList) (o:=0) (cs:=cs.drop 2) (by rw[hdl];simp;omega)
 have HA:Hid (∀(W:World) (ty:TypeId) (o dc:Nat),W.heap=w.heap->(o=2\/n=1)->(Builtin.append_ #[129,129] ty #[.slice (some ⟨g,0,none⟩) 0 c,.slice (some ⟨g,o,none⟩) (n-1) dc]).run Tryz.prog W=.ok (.slice (some ⟨g,0,none⟩) (n-1) c) (W.setRow g (ar cur.toList 0 (cs.drop 2)).toArray)):=by
  intro W ty o dc hW ho
  have hgW:W.heap[g]? =some (.cells cur 279 (0,0)):=by rw[hW];exact hg
  have h:=run_append_room (P:=Tryz.prog) W 129 ty 279 i0 Tryz.underlying129 hi0 g 0 c cur hgW ⟨g,o,none⟩ (n-1) dc (cs.drop 2) (by rw[hz1,hdl]) (fun j u hj=>by
   have hj':=(lLt hj)
   have ho':o=2:=by omega
   subst ho'
   rw[List.getElem?_drop,<-htk,List.getElem?_take_of_lt (by omega)]at hj
   rw[Addr.add_lit]
   simp only[World.cell?,hgW]
   simpa using hj) (fun v hv=>h1 v (List.mem_of_mem_drop hv)) (by omega) (by rw[hdl,hcs];omega)
  rw[Nat.zero_mul,Nat.zero_add]at h
  exact h
 have HC3:Hid (∀(W:World) (ty:TypeId) (dc:Nat),W.heap=(w.setRow g (ar cur.toList 0 (cs.drop 2)).toArray).heap->(Builtin.clear_ #[129] ty #[.slice (some ⟨g,(n-1)*2,none⟩) (n-(n-1)) dc]).run Tryz.prog W
   = .ok (.tuple #[]) (W.setRow g (ar (ar cur.toList 0 (cs.drop 2)) ((n-1)*2) (zs2 1)).toArray)):=by
  intro W ty dc hW
  have e:n-(n-1)=1:=by omega
  rw[e]
  obtain⟨W',h1,rfl⟩:=tQ g ((n-1)*2) 1 dc _ W (by rw[hW];exact setRow_heap _ _ cur _ _ _ hg) (by rw[List.size_toArray,e1];simp;omega) ty
  exact h1
 unfold maxLen at hm
 have hb1:(1:Int)<=(n:Int):=by omega
 have hb2:(1:Int)<=(c:Int):=by omega
 have hb3:(n:Int)<=(c:Int):=by omega
 have hb4:¬(c=n-1):=by omega
 have hb5:((n-1:Nat):Int)<=(n:Int):=by omega
 have hb6:¬(c=0):=by omega
 have u1:=run_underlying Tryz.underlying129
 have z1:=fF
 clear e1
 by_cases hc1:c=1
 ·obtain rfl:n=1:=by omega
  subst hc1
  go_enter Tryz.func180,Tryz.ntmps180
  go_wp2_with fail
  go_region_law (refine fI rfl (.tmp 22) (.tmp 25) 129 129 rfl (.slice (some ⟨g,0,none⟩) 0 1) (.slice (some ⟨g,0,none⟩) 0 0) (by kernel_rfl) (by kernel_rfl) (HA.out _ _ 0 0 rfl (by simp)) ?_;generalize hW1:World.setRow _ g _=W1;replace hW1:=ab hW1;refine Hid.out ?_;refine ab ?_)
  have HQ1:Hid (∀m:World,m.heap=W1.heap->m.heap=(w.setRow g (ar cur.toList 0 (cs.drop 2)).toArray).heap):=by
   intro m hm
   rw[hm,<-hW1.out]
   rfl
  go_wp2_with (refine bV rfl _ 129 rfl _ rfl (HC3.out W1 _ _ (HQ1.out _ rfl)) ?_;refine Hid.out ?_)
  refine ab ?_
  go_wp2_with fail
  go_ret
  refine⟨rfl,1,?_⟩
  rw[<-hW1.out]
  exact setRow_setRow (w.drewN 1) g (ar cur.toList 0 (cs.drop 2)).toArray _
 ·go_enter Tryz.func180,Tryz.ntmps180
  go_wp2_with fail
  go_region_law (refine fI rfl (.tmp 22) (.tmp 25) 129 129 rfl (.slice (some ⟨g,0,none⟩) 0 c) (.slice (some ⟨g,2,none⟩) (n-1) (c-1)) (by kernel_rfl) (by kernel_rfl) (HA.out _ _ 2 (c-1) rfl (Or.inl rfl)) ?_;generalize hW1:World.setRow _ g _=W1;replace hW1:=ab hW1;refine Hid.out ?_;refine ab ?_)
  have HQ1:Hid (∀m:World,m.heap=W1.heap->m.heap=(w.setRow g (ar cur.toList 0 (cs.drop 2)).toArray).heap):=by
   intro m hm
   rw[hm,<-hW1.out]
   rfl
  go_wp2_with (refine bV rfl _ 129 rfl _ rfl (HC3.out W1 _ _ (HQ1.out _ rfl)) ?_;refine Hid.out ?_)
  refine ab ?_
  go_wp2_with fail
  go_ret
  refine⟨rfl,1,?_⟩
  rw[<-hW1.out]
  exact setRow_setRow (w.drewN 1) g (ar cur.toList 0 (cs.drop 2)).toArray _
theorem tL(r:bn)(l:List bn)(lv:Value)(w:World)(hown:w.ownsRow 0 279 2 lv (r::l).length (aC (r::l)))(hn:(r::l).length<=1000)(h1:∀q∈r::l,q.2.oneCell'=true):
  Calls Tryz.prog 180 #[lv,.int .i64 0,.int .i64 1] w fun e w'=>
   ∃lv',e=.returned lv'/\w'.ownsRow 0 279 2 lv' l.length (aC l)/\w.grownBy w' lv.ownBlock/\lv'.ownBlock=lv.ownBlock:=by
 rcases hown.2 with⟨_,h0⟩|⟨g,cap,cur,rfl,_,hg,hnc,hcm,hcs,htk⟩
 ·simp at h0
 ·have hl:=aE (r::l)
  refine(tM g (r::l).length cap cur (aC (r::l)) w hg hl htk (by simp) hnc hcs hn hcm (eR h1)).mono ?_
  rintro e w' ⟨rfl,q,rfl⟩
  have hd:(aC (r::l)).drop 2=aC l:=by rw[de];rfl
  have h3:=uD (cur:=cur.toList) (cs:=aC (r::l)) (zs:=zs2 1) (by rw[hl];simp at hnc⊢;omega) (by rw[hl];simp;omega) (by rw[dN])
  have hlen:(r::l).length-1=l.length:=by simp
  rw[hl,show(r::l).length*2-2=l.length*2 from by simp;omega,hd]at h3
  rw[hlen,hd]
  have hcl:=aE l
  have hnc':l.length+1<=cap:=by simpa using hnc
  have e1:=aG (l:=cur.toList) (o:=0) (cs:=aC l) (by rw[hcl];simp;omega)
  have h4:=jC (w:=w) (n:=(r::l).length) (m:=l.length) (c:=cap) (q:=q) (R:=ar (ar cur.toList 0 (aC l)) (l.length*2) (zs2 1)) hg (by rw[aG (by rw[e1,dN];simp;omega),e1];simpa using hcs) (by omega) hcm rfl h3
  exact⟨_,rfl,h4.1,h4.2,rfl⟩
theorem fh(f:Int)(n cap:Nat)(ao:Option Addr)(w:World)(hf:-4611686018427387904<=f/\f<=4611686018427387904)(hn:n<=4611686018427387):
  Calls Tryz.prog 176 #[.agg #[.int .i64 f,.slice ao n cap]] w fun e w'=>e=.returned (.int .i64 (f+n))/\Below w.heap.size w w':=by
 obtain⟨h0,h1⟩:=hf
 go_enter Tryz.func176,Tryz.ntmps176
 go_wp2
 go_ret
 exact⟨rfl,ag w _⟩
theorem qU(f first behind:Int)(n cap p1 p2:Nat)(ao:Option Addr)(w:World)(hf:-4611686018427387904<=f/\f<=4611686018427387904)(hn:n<=4611686018427387)(h1:w.cell? ⟨p1,0,none⟩= some (.int .i64 first))(h2:w.cell? ⟨p2,0,none⟩= some (.int .i64 behind)):
  Calls Tryz.prog 175 #[.agg #[.int .i64 f,.slice ao n cap],.pointer (some ⟨p1,0,none⟩),.pointer (some ⟨p2,0,none⟩)] w fun e w'=>e=.returned (.bool (decide (f<=first)&&decide (behind<=f+n)))/\Below w.heap.size w w':=by
 have hl1:=cS h1
 have hl2:=cS h2
 have HB:Hid (∀W,Calls Tryz.prog 176 #[.agg #[.int .i64 f,.slice ao n cap]] W fun e w'=>e=.returned (.int .i64 (f+n))/\Below W.heap.size W w'):=fun W=>fh f n cap ao W hf hn
 have HA:Hid (∀W w':World,Below W.heap.size W w'->(W.cell? ⟨p1,0,none⟩= some (.int .i64 first)/\W.cell? ⟨p2,0,none⟩= some (.int .i64 behind)/\W.cell? ⟨w.heap.size,0,none⟩= some (.int .i64 f)/\W.cell? ⟨w.heap.size,1,none⟩= some (.slice ao n cap))->
   (w'.cell? ⟨p1,0,none⟩= some (.int .i64 first)/\w'.cell? ⟨p2,0,none⟩= some (.int .i64 behind)/\w'.cell? ⟨w.heap.size,0,none⟩= some (.int .i64 f)/\w'.cell? ⟨w.heap.size,1,none⟩= some (.slice ao n cap))):=
  fun W w' hb h=>⟨ae h.1 hb,ae h.2.1 hb,ae h.2.2.1 hb,ae h.2.2.2 hb⟩
 by_cases hle:f<=first
 ·have hd:decide (f<=first)=true:=by simpa using hle
  go_enter Tryz.func175,Tryz.ntmps175
  go_wp2_with fail
  go_region_held3 (fun w'=>w'.cell? ⟨p1,0,none⟩= some (.int .i64 first)/\w'.cell? ⟨p2,0,none⟩= some (.int .i64 behind)/\w'.cell? ⟨w.heap.size,0,none⟩= some (.int .i64 f)/\w'.cell? ⟨w.heap.size,1,none⟩= some (.slice ao n cap)) (first|assumption|go_keep) (first
   |(go_at_call 176;refine(HB.out _).mono ?_;rintro e wq ⟨rfl,hbq⟩;have hSq:=HA.out _ _ hbq (by assumption)))
  go_wp2_with fail
  go_ret
  exact⟨by rw[hd];rfl,ai (ag w _) (aq hbq)⟩
 ·have hd:decide (f<=first)=false:=by simpa using hle
  go_enter Tryz.func175,Tryz.ntmps175
  go_wp2_with fail
  go_quiet (fail)
  go_wp2_with fail
  go_ret
  refine⟨by rw[hd];rfl,?_⟩
  exact ak (ag w _) _
theorem oH(vs:List bn)(rl:List aO)(lv:Value)(first behind:Int)(p1 p2:Nat)(w:World)(hown:w.ownsRow 0 279 2 lv vs.length (aC vs))(hsh:Shape vs rl)(hb:∀r∈rl,-4611686018427387904<=r.1/\r.1<=4611686018427387904/\r.2.length<=4611686018427387)(hn:vs.length<=1000)
  (h1:w.cell? ⟨p1,0,none⟩= some (.int .i64 first)) (h2:w.cell? ⟨p2,0,none⟩= some (.int .i64 behind)):
  Calls Tryz.prog 199 #[lv,.func (.func 175) #[] #[.pointer (some ⟨p1,0,none⟩),.pointer (some ⟨p2,0,none⟩)]] w fun e w'=>
   (∃k:Int,e=.returned (.int .i64 k)/\(0<=k↔(rl.any fun r=>decide (r.1<=first)&&decide (behind<=au r))=true))/\Below w.heap.size w w':=by
 obtain⟨ao,cap,rfl⟩:=bd hown
 have HO:=ab hown
 have HS:=ab hsh
 have HB:=ab hb
 clear hown hsh hb
 go_enter Tryz.func199,Tryz.ntmps199
 go_wp2_with fail
 go_loopw [8] (fun i wr=>∃k:Nat,k<=vs.length/\i=.int .i64 k/\Below w.heap.size w wr/\Hid (∀(j:Nat) r,j<k->rl[j]? =some r->(decide (r.1<=first)&&decide (behind<=au r))=false)) (fun i _=>vs.length-(intOf i).toNat)
 case atStart=>exact⟨0,Nat.zero_le _,rfl,Below.refl _ _,fun j r hj=>by omega⟩
 case round=>
  obtain⟨k,hk,rfl,hbr,hno⟩:=hrel
  by_cases hlt:k<vs.length
  ·obtain⟨v,hv⟩:∃v,vs[k]? =some v:=⟨_,lGe hlt⟩
   obtain⟨r,hr⟩:∃r,rl[k]? =some r:=⟨_,lGe (by rw[<-HS.out.1];exact hlt)⟩
   obtain⟨e1,ao2,cap2,e2,hcap2⟩:=HS.out.2 k v r hv hr
   obtain⟨v1,v2⟩:=v
   simp only at e1 e2
   subst e1 e2
   have hown:=aF HO.out hbr
   rcases hown.2 with⟨_,h0⟩|⟨g,cap',cur,e3,_,hg,hnc,hcm,hcs,htk⟩
   ·omega
   simp only[Value.slice.injEq]at e3
   obtain⟨rfl,_,rfl⟩:=e3
   obtain⟨q1,q2⟩:=eH hv
   have c1:wr.cell? ⟨g,k*2,none⟩= some (.int .i64 r.1):=by rw[hown.cellAt (k*2) (by omega)];exact q1
   have c2:wr.cell? ⟨g,k*2+1,none⟩= some (.slice ao2 r.2.length cap2):=by rw[hown.cellAt (k*2+1) (by omega)];exact q2
   have hbd:=HB.out r (lMm hr)
   have HC:=ab (qU r.1 first behind r.2.length cap2 p1 p2 ao2 wr ⟨hbd.1,hbd.2.1⟩ hbd.2.2 (ae h1 hbr) (ae h2 hbr))
   have HR:=ab hr
   have HBR:=ab hbr
   have HN:=ab hno
   clear hown hg htk hcs hcm q1 q2 hbd hr hv hno
   go_wp2_with fail
   refine HC.out.mono ?_
   rintro e w1 ⟨rfl,hb1⟩
   have hbb:=ab (ai HBR.out hb1)
   clear hb1 HC HBR hbr c1 c2
   cases hc:(decide (r.1<=first)&&decide (behind<=r.1+(r.2.length:Int)))
   ·go_wp2_with fail
    go_roundw
    case rel=>
     refine⟨k+1,by omega,by go_num,hbb.out,fun j r' hj hr'=>?_⟩
     rcases Nat.lt_or_ge j k with h3|h3
     ·exact HN.out j r' h3 hr'
     ·obtain rfl:j=k:=by omega
      obtain rfl:=Option.some.inj (HR.out.symm.trans hr')
      exact hc
    case measure=>simp[intOf];omega
   ·go_wp2_with fail
    go_ret
    refine⟨⟨k,rfl,?_⟩,hbb.out⟩
    refine⟨fun _=>?_,fun _=>by omega⟩
    rw[List.any_eq_true]
    exact⟨r,lMm HR.out,hc⟩
  ·obtain rfl:k=vs.length:=by omega
   have HN:=ab hno
   have HBR:=ab hbr
   clear hno hbr
   go_wp2_with fail
   go_ret
   refine⟨⟨-1,rfl,?_⟩,HBR.out⟩
   refine⟨fun h=>by omega,fun h=>?_⟩
   rw[List.any_eq_true]at h
   obtain⟨r,hr,h3⟩:=h
   obtain⟨j,hj,rfl⟩:=List.getElem_of_mem hr
   have:=HN.out j rl[j] (by rw[HS.out.1];exact hj) (lGe hj)
   rw[this]at h3
   cases h3
theorem qi(vs:List bn)(rl:List aO)(lv:Value)(first behind:Int)(p1 p2:Nat)(w:World)(hown:w.ownsRow 0 279 2 lv vs.length (aC vs))(hsh:Shape vs rl)(hb:∀r∈rl,-4611686018427387904<=r.1/\r.1<=4611686018427387904/\r.2.length<=4611686018427387)(hn:vs.length<=1000)
  (h1:w.cell? ⟨p1,0,none⟩= some (.int .i64 first)) (h2:w.cell? ⟨p2,0,none⟩= some (.int .i64 behind)):
  Calls Tryz.prog 174 #[lv,.func (.func 175) #[] #[.pointer (some ⟨p1,0,none⟩),.pointer (some ⟨p2,0,none⟩)]] w fun e w'=>
   e=.returned (.bool (rl.any fun r=>decide (r.1<=first)&&decide (behind<=au r)))/\Below w.heap.size w w':=by
 have HI:=ab (oH vs rl lv first behind p1 p2 w hown hsh hb hn h1 h2)
 clear hown hsh hb hn h1 h2
 go_enter Tryz.func174,Tryz.ntmps174
 go_wp2_with fail
 refine HI.out.mono ?_
 rintro e w1 ⟨⟨k,rfl,hk⟩,hb1⟩
 have HK:=ab hk
 clear hk HI
 have hkb:decide (0<=k)=(rl.any fun r=>decide (r.1<=first)&&decide (behind<=au r)):=by
  rw[Bool.eq_iff_iff,decide_eq_true_iff]
  exact HK.out
 replace hkb:=ab hkb
 go_wp2_with fail
 go_ret
 refine⟨?_,hb1⟩
 rw[<-hkb.out]
 rfl
theorem tK(vs:List bn)(rl:List aO)(lv:Value)(first behind:Int)(rb off:Nat)(w:World)(hc:w.cell? ⟨rb,off,none⟩= some lv)(hown:w.ownsRow 0 279 2 lv vs.length (aC vs))(hsh:Shape vs rl)(hb:∀r∈rl,-4611686018427387904<=r.1/\r.1<=4611686018427387904/\r.2.length<=4611686018427387)(hn:vs.length<=1000):
  Calls Tryz.prog 148 #[.pointer (some ⟨rb,off,none⟩),.int .i64 first,.int .i64 behind] w fun e w'=>e=.returned (.bool (bu rl first behind))/\Below w.heap.size w w':=by
 have hlt:=cS hc
 obtain⟨ao,cap,rfl⟩:=bd hown
 have hbb:Below w.heap.size w ((w.alloc (.cells #[.int .i64 first] 3)).alloc (.cells #[.int .i64 behind] 3)):=(ag w _).alloc (by simp) _
 have HI:=ab (qi vs rl _ first behind w.heap.size (w.heap.size+1) _ (aF hown hbb) hsh hb hn (by simp) (by simp))
 have HB:=ab hbb
 clear hown hsh hb hn hbb
 by_cases hle:behind<=first
 ·have hd:decide (behind<=first)=true:=by simpa using hle
  go_enter Tryz.func148,Tryz.ntmps148
  go_wp2_with fail
  go_ret
  exact⟨by unfold bu;rw[hd];rfl,HB.out⟩
 ·have hd:decide (behind<=first)=false:=by simpa using hle
  go_enter Tryz.func148,Tryz.ntmps148
  go_wp2_with fail
  refine HI.out.mono ?_
  rintro e w1 ⟨rfl,hb1⟩
  have hbb:=ab (ai HB.out hb1)
  clear hb1 HI HB
  go_wp2_with fail
  go_ret
  exact⟨by unfold bu;rw[hd,Bool.false_or];rfl,hbb.out⟩
abbrev u_TouchS(rb off g b0 k:Nat)(lv:Value)(f:Int)(iv:Value)(a:Int)(av:Value)(w:World):Prop:=
 w.cell? ⟨rb,off,none⟩= some lv/\w.cell? ⟨g,k*2,none⟩= some (.int .i64 f)/\w.cell? ⟨g,k*2+1,none⟩= some iv/\w.cell? ⟨b0,0,none⟩= some (.int .i64 a)/\w.cell? ⟨b0,1,none⟩= some av
theorem u_TouchS.below{rb off g b0 k:Nat}{lv:Value}{f:Int}{iv:Value}{a:Int}{av:Value}{w w':World}(h:u_TouchS rb off g b0 k lv f iv a av w)(hb:Below w.heap.size w w'):u_TouchS rb off g b0 k lv f iv a av w':=
 ⟨ae h.1 hb,ae h.2.1 hb,ae h.2.2.1 hb,ae h.2.2.2.1 hb,ae h.2.2.2.2 hb⟩
theorem qk(vs:List bn)(rl:List aO)(lv:Value)(a:aO)(aa:Option Addr)(ac:Nat)(rb off:Nat)(w:World)(hc:w.cell? ⟨rb,off,none⟩= some lv)(hown:w.ownsRow 0 279 2 lv vs.length (aC vs))(hsh:Shape vs rl)(hb:∀r∈rl,-4611686018427387904<=r.1/\r.1<=4611686018427387904/\r.2.length<=4611686018427387)(hn:vs.length<=1000)
  (ha:-4611686018427387904<=a.1/\a.1<=4611686018427387904/\a.2.length<=4611686018427387):
  Calls Tryz.prog 177 #[.pointer (some ⟨rb,off,none⟩),.agg #[.int .i64 a.1,.slice aa a.2.length ac]] w fun e w'=>e=.returned (.tuple #[.int .i64 (dX rl a),.int .i64 (toR rl a)])/\Below w.heap.size w w':=by
 obtain⟨ao,cap,rfl⟩:=bd hown
 have hlt:=cS hc
 have hbb:Below w.heap.size w (w.alloc (.cells #[.int .i64 a.1,.slice aa a.2.length ac] 279)):=ag w _
 have hlen:=hsh.1
 have HK:Hid (∀(k:Nat) (wr:World),k<vs.length->Below (w.heap.size+1) (w.alloc (.cells #[.int .i64 a.1,.slice aa a.2.length ac] 279)) wr->∃g r ri rc,ao=some ⟨g,0,none⟩/\rl[k]? =some r/\u_TouchS rb off g w.heap.size k (.slice ao vs.length cap) r.1 (.slice ri r.2.length rc) a.1 (.slice aa a.2.length ac) wr/\-4611686018427387904<=r.1/\r.1<=4611686018427387904/\r.2.length<=4611686018427387):=by
  intro k wr hk hbr
  have hbw:Below w.heap.size w wr:=ai hbb (by simpa using hbr)
  obtain⟨v,hv⟩:∃v,vs[k]? =some v:=⟨_,lGe hk⟩
  obtain⟨r,hr⟩:∃r,rl[k]? =some r:=⟨_,lGe (by rw[<-hlen];exact hk)⟩
  obtain⟨e1,ao2,cap2,e2,_⟩:=hsh.2 k v r hv hr
  obtain⟨v1,v2⟩:=v
  simp only at e1 e2
  subst e1 e2
  have hown2:=aF hown hbw
  rcases hown2.2 with⟨_,h0⟩|⟨g,cap',cur,e3,_,hg,hnc,hcm,hcs,htk⟩
  ·omega
  simp only[Value.slice.injEq]at e3
  obtain⟨rfl,_,rfl⟩:=e3
  obtain⟨q1,q2⟩:=eH hv
  have hbd:=hb r (lMm hr)
  refine⟨g,r,ao2,cap2,rfl,hr,⟨ae hc hbw,?_,?_,?_,?_⟩,hbd⟩
  ·rw[hown2.cellAt (k*2) (by omega)];exact q1
  ·rw[hown2.cellAt (k*2+1) (by omega)];exact q2
  ·rw[hbr.cell (by simp)];simp
  ·rw[hbr.cell (by simp)];simp
 have HL:Hid (∀wr,Below (w.heap.size+1) (w.alloc (.cells #[.int .i64 a.1,.slice aa a.2.length ac] 279)) wr->wr.cell? ⟨rb,off,none⟩= some (.slice ao vs.length cap)):=by
  intro wr hbr
  exact ae hc (ai hbb (by simpa using hbr))
 have HBd:=ab ha
 have HLen:=ab hlen
 have HBB:=ab hbb
 clear hown hsh hb hc hlen hbb ha
 go_enter Tryz.func177,Tryz.ntmps177
 go_wp2_with fail
 go_loopw [6] (fun i wr=>∃k:Nat,k<=vs.length/\i=.int .i64 k/\Below (w.heap.size+1) (w.alloc (.cells #[.int .i64 a.1,.slice aa a.2.length ac] 279)) wr/\Hid (∀(j:Nat) r,j<k->rl[j]? =some r->decide (au r<a.1)=true)) (fun i _=>vs.length-(intOf i).toNat)
 case atStart=>exact⟨0,Nat.zero_le _,rfl,Below.refl _ _,fun j r hj=>by omega⟩
 case round=>
  obtain⟨k,hk,rfl,hbr,hno⟩:=hrel
  by_cases hkl:k<vs.length
  ·obtain⟨g,r,ri,rc,rfl,hr,hT,hr0,hr1,hr2⟩:=HK.out k wr hkl hbr
   have hd:decide ((k:Int)<(vs.length:Int))=true:=by simp;omega
   have HX:Hid (∀W,Calls Tryz.prog 176 #[.agg #[.int .i64 r.1,.slice ri r.2.length rc]] W fun e w'=>e=.returned (.int .i64 (r.1+r.2.length))/\Below W.heap.size W w'):=fun W=>fh r.1 r.2.length rc ri W ⟨hr0,hr1⟩ hr2
   obtain⟨t1,t2,t3,t4,t5⟩:=id hT
   have HBR:=ab hbr
   have HN:=ab hno
   have HR:=ab hr
   clear hbr hno hr
   go_wp2_with fail
   go_region_held3 (fun w'=>w'.cell? ⟨rb,off,none⟩= some (.slice (some ⟨g,0,none⟩) vs.length cap)/\w'.cell? ⟨g,k*2,none⟩= some (.int .i64 r.1)/\w'.cell? ⟨g,k*2+1,none⟩= some (.slice ri r.2.length rc)/\w'.cell? ⟨w.heap.size,0,none⟩= some (.int .i64 a.1)/\w'.cell? ⟨w.heap.size,1,none⟩= some (.slice aa a.2.length ac)) (first|assumption|go_keep) (first
    |(go_at_call 176;refine(HX.out _).mono ?_;rintro e wq ⟨rfl,hbq⟩;have hSq:=u_TouchS.below (by assumption) hbq))
   have HBx:=ab (jP HBR.out hbq)
   clear hbq hSq hT t1 t2 t3 t4 t5 HX HBR
   by_cases hc1:r.1+(r.2.length:Int)<a.1
   ·go_wp2_with fail
    go_roundw
    case rel=>
     refine⟨k+1,by omega,by go_num,HBx.out,fun j r' hj hr'=>?_⟩
     rcases Nat.lt_or_ge j k with h3|h3
     ·exact HN.out j r' h3 hr'
     ·obtain rfl:j=k:=by omega
      obtain rfl:=Option.some.inj (HR.out.symm.trans hr')
      exact decide_eq_true hc1
    case measure=>simp[intOf];omega
   ·have HF:Hid (dX rl a=k):=iq (by rw[<-HLen.out];exact hk) HN.out (fun r' hr'=>by
     obtain rfl:=Option.some.inj (HR.out.symm.trans hr')
     exact decide_eq_false (by unfold au;exact hc1))
    clear HN HR
    go_wp2_with fail
    go_loopw [7] (fun i wr=>∃m:Nat,k<=m/\m<=vs.length/\i=.int .i64 m/\Below (w.heap.size+1) (w.alloc (.cells #[.int .i64 a.1,.slice aa a.2.length ac] 279)) wr/\Hid (∀(j:Nat) r,k<=j->j<m->rl[j]? =some r->decide (r.1<=au a)=true)) (fun i _=>vs.length-(intOf i).toNat)
    case atStart=>exact⟨k,Nat.le_refl _,hk,rfl,HBx.out,fun j r h1 h2=>by omega⟩
    case round=>
     obtain⟨m,hkm,hm,rfl,hbr2,hno2⟩:=hrel
     by_cases hml:m<vs.length
     ·obtain⟨g2,r2,ri2,rc2,e2,hr2',hT2,hs0,hs1,hs2⟩:=HK.out m wr hml hbr2
      first|subst e2 |(obtain rfl:=Addr.mk.inj (Option.some.inj e2) |>.1)
      have hd2:decide ((m:Int)<(vs.length:Int))=true:=(by simp;omega)
      have HX2:Hid (∀W,Calls Tryz.prog 176 #[.agg #[.int .i64 a.1,.slice aa a.2.length ac]] W fun e w'=>e=.returned (.int .i64 (a.1+a.2.length))/\Below W.heap.size W w'):=fun W=>fh a.1 a.2.length ac aa W ⟨HBd.out.1,HBd.out.2.1⟩ HBd.out.2.2
      obtain⟨u1,u2,u3,u4,u5⟩:=id hT2
      have HBR2:=ab hbr2
      have HN2:=ab hno2
      have HR2:=ab hr2'
      clear hbr2 hno2 hr2'
      go_wp2_with fail
      go_region_held3 (fun w'=>w'.cell? ⟨rb,off,none⟩= some (.slice (some ⟨g,0,none⟩) vs.length cap)/\w'.cell? ⟨g,m*2,none⟩= some (.int .i64 r2.1)/\w'.cell? ⟨g,m*2+1,none⟩= some (.slice ri2 r2.2.length rc2)/\w'.cell? ⟨w.heap.size,0,none⟩= some (.int .i64 a.1)/\w'.cell? ⟨w.heap.size,1,none⟩= some (.slice aa a.2.length ac)) (first|assumption|go_keep) (first
       |(go_at_call 176;refine(HX2.out _).mono ?_;rintro e wq2 ⟨rfl,hbq2⟩;have hSq2:=u_TouchS.below (by assumption) hbq2))
      have HBQ2:=ab (jP HBR2.out hbq2)
      clear hbq2 hSq2 hT2 u1 u2 u3 u4 u5 HX2
      by_cases hc2:r2.1<=a.1+(a.2.length:Int)
      ·go_wp2_with fail
       go_roundw
       case rel=>
        refine⟨m+1,by omega,by omega,by go_num,HBQ2.out,fun j r' h1 h2 hr'=>?_⟩
        rcases Nat.lt_or_ge j m with h3|h3
        ·exact HN2.out j r' h1 h3 hr'
        ·obtain rfl:j=m:=by omega
         obtain rfl:=Option.some.inj (HR2.out.symm.trans hr')
         exact decide_eq_true hc2
       case measure=>simp[intOf];omega
      ·have HT:Hid (toR rl a=m):=sy HF.out hkm (by rw[<-HLen.out];exact hm) HN2.out (fun r' hr'=>by
        obtain rfl:=Option.some.inj (HR2.out.symm.trans hr')
        exact decide_eq_false (by unfold au;exact hc2))
       go_wp2_with fail
       go_ret2
       exact⟨by rw[HF.out,HT.out];rfl,ai HBB.out (by simpa using HBQ2.out)⟩
     ·obtain rfl:m=vs.length:=by omega
      have hd2:decide (((vs.length:Nat):Int)<(vs.length:Int))=false:=by simp
      have hl2:=HL.out wr hbr2
      have HBR2:=ab hbr2
      have HT:Hid (toR rl a=vs.length):=sy HF.out hkm (by rw[<-HLen.out];exact hm) hno2 (fun r' hr'=>by
       have:=(lLt hr')
       have:=HLen.out
       omega)
      clear hbr2 hno2
      go_wp2_with fail
      go_quiet (fail)
      go_wp2_with fail
      go_ret2
      exact⟨by rw[HF.out,HT.out];rfl,ai HBB.out (by simpa using ak HBR2.out _)⟩
  ·obtain rfl:k=vs.length:=by omega
   have hd:decide (((vs.length:Nat):Int)<(vs.length:Int))=false:=by simp
   have hl1:=HL.out wr hbr
   have HF:Hid (dX rl a=vs.length):=iq (by rw[<-HLen.out];exact hk) hno (fun r' hr'=>by
    have:=(lLt hr')
    have:=HLen.out
    omega)
   have HBr:=ab hbr
   clear hbr hno
   go_wp2_with fail
   go_quiet (fail)
   have HBx:=ab (ak HBr.out nq)
   clear HBr
   go_wp2_with fail
   go_loopw [7] (fun i wr=>∃m:Nat,vs.length<=m/\m<=vs.length/\i=.int .i64 m/\Below (w.heap.size+1) (w.alloc (.cells #[.int .i64 a.1,.slice aa a.2.length ac] 279)) wr/\Hid (∀(j:Nat) r,vs.length<=j->j<m->rl[j]? =some r->decide (r.1<=au a)=true)) (fun i _=>vs.length-(intOf i).toNat)
   case atStart=>exact⟨vs.length,Nat.le_refl _,hk,rfl,HBx.out,fun j r h1 h2=>by omega⟩
   case round=>
    obtain⟨m,hkm,hm,rfl,hbr2,hno2⟩:=hrel
    obtain rfl:m=vs.length:=by omega
    have hd2:decide (((vs.length:Nat):Int)<(vs.length:Int))=false:=by simp
    have hl2:=HL.out wr hbr2
    have HBR2:=ab hbr2
    have HT:Hid (toR rl a=vs.length):=sy HF.out hkm (by rw[<-HLen.out];exact hm) hno2 (fun r' hr'=>by
     have:=(lLt hr')
     have:=HLen.out
     omega)
    clear hbr2 hno2
    go_wp2_with fail
    go_quiet (fail)
    go_wp2_with fail
    go_ret2
    exact⟨by rw[HF.out,HT.out];rfl,ai HBB.out (by simpa using ak HBR2.out _)⟩
end Go.Proofs.YthmdjhlhodpbhaaGreatDoor
