/- InOrder, 25 -/
import Derived.Test.YthmdjhlhodpbhaaGreatDoorI24
set_option maxHeartbeats 16000000
set_option maxRecDepth 8000
namespace Go.Proofs.YthmdjhlhodpbhaaGreatDoor
open Go.RowKit
def SrvU(xs:List aH)(k:Nat):Prop:=∃a∈xs,a.u k
theorem SrvU_lt{N:Nat}{w:World}{sb:Nat}{s:ax}{cm:Nat}{wv:Value}{cbs:List Nat}{xs:List aH}{ws:List Nat}(h:PSrv N w sb s cm wv cbs xs ws){k:Nat}(hk:SrvU xs k):k<w.heap.size:=by
 obtain⟨a,ha,hu⟩:=hk
 obtain⟨i,hi,rfl⟩:=List.getElem_of_mem ha
 have h1:i<s.conns.length:=by rw[<-h.len2];exact hi
 have h2:i<cbs.length:=by rw[h.len1];exact h1
 exact(h.con i _ _ _ (List.getElem?_eq_getElem h1) (List.getElem?_eq_getElem h2) (List.getElem?_eq_getElem hi)).ul k hu
theorem SrvU_set{xs:List aH}{i B:Nat}{a a':aH}(ha:xs[i]? =some a)(hu:UIn B a a'):∀k,SrvU (xs.set i a') k->SrvU xs k\/B<=k:=by
 rintro k ⟨d,hd,hk⟩
 rcases List.mem_or_eq_of_mem_set hd with h1|rfl
 ·exact Or.inl ⟨d,h1,hk⟩
 ·exact(hu k hk).imp (fun h2=>⟨a,List.mem_of_getElem? ha,h2⟩) id
theorem SrvU_erase{xs:List aH}{i:Nat}:∀k,SrvU (xs.eraseIdx i) k->SrvU xs k:=by
 rintro k ⟨d,hd,hk⟩
 exact⟨d,(List.eraseIdx_sublist xs i).subset hd,hk⟩
def OutsU(A:Nat->Prop)(w:World)(base:Nat)(v:Value)(outs:List (Int×List Int)):Prop:=∃out,w.ownsRow base 60 2 v out.length (bU out)/\OutOw w base out outs/\∀(i:Nat) x k,out[i]? =some x->x.2.ownBlock=some k->¬A k
theorem OutOw.ge{w:World}{base:Nat}{out:List (Int×Value)}{outs:List (Int×List Int)}(h:OutOw w base out outs){i:Nat}{x:Int×Value}{k:Nat}(hx:out[i]? =some x)(hk:x.2.ownBlock=some k):base<=k/\k<w.heap.size:=by
 have hil:i<outs.length:=by rw[<-h.1];exact(List.getElem?_eq_some_iff.1 hx).1
 exact(h.2.1 i x outs[i] hx (List.getElem?_eq_getElem hil)).2.lt k hk
theorem OutsU.of{A:Nat->Prop}{w:World}{base:Nat}{v:Value}{outs:List (Int×List Int)}(h:OutsAt w base v outs)(hA:∀k,base<=k->¬A k):OutsU A w base v outs:=by
 obtain⟨out,h1,h2⟩:=h
 exact⟨out,h1,h2,fun i x k hx hk=>hA k (h2.ge hx hk).1⟩
theorem OutsU.none{A:Nat->Prop}{w:World}{base:Nat}{v:Value}{outs:List (Int×List Int)}(h:OutsAt w base v outs)(h0:outs=[]):OutsU A w base v outs:=by
 obtain⟨out,h1,h2⟩:=h
 subst h0
 obtain rfl:out=[]:=List.length_eq_zero_iff.1 h2.1
 exact⟨[],h1,h2,fun i x k hx=>(by simp at hx)⟩
theorem OutsU.at{A:Nat->Prop}{w:World}{base:Nat}{v:Value}{outs:List (Int×List Int)}(h:OutsU A w base v outs):OutsAt w base v outs:=by
 obtain⟨out,h1,h2,_⟩:=h
 exact⟨out,h1,h2⟩
theorem OutsU.mono{A:Nat->Prop}{w:World}{b b':Nat}{v:Value}{outs:List (Int×List Int)}(h:OutsU A w b v outs)(hb:b'<=b):OutsU A w b' v outs:=by
 obtain⟨out,h1,h2,h3⟩:=h
 exact⟨out,ca h1 hb,h2.mono hb,h3⟩
structure SOut(N:Nat)(w:World)(sb cm:Nat)(wv:Value)(cbs:List Nat)(xs:List aH)(r:ax×List (Int×List Int))(e:Ending)(w':World):Prop where
 ex:∃v wv' cbs' xs' ws',e=.returned v/\OutsU (SrvU xs') w' w.heap.size v r.2/\PSrv N w' sb r.1 cm wv' cbs' xs' ws'/\(∀k,cq sb cm wv' cbs' xs' k->cq sb cm wv cbs xs k\/w.heap.size<=k)/\∀k,SrvU xs' k->SrvU xs k\/w.heap.size<=k
 chg:Chg (cq sb cm wv cbs xs) w w'
theorem SOut.ret{N:Nat}{w:World}{sb cm:Nat}{wv:Value}{cbs:List Nat}{xs:List aH}{r:ax×List (Int×List Int)}{e:Ending}{w':World}(h:SOut N w sb cm wv cbs xs r e w'):∃v,e=.returned v/\OutsAt w' w.heap.size v r.2:=by
 obtain⟨v,_,_,_,_,e,ho,_⟩:=h.ex
 exact⟨v,e,ho.at⟩
theorem SOut.mk1{N N0:Nat}{w:World}{sb cm:Nat}{s s':ax}{wv wv':Value}{cbs cbs':List Nat}{xs xs':List aH}{ws ws':List Nat}{outs:List (Int×List Int)}{v:Value}{w':World}(h0:PSrv N0 w sb s cm wv cbs xs ws)(ho:OutsAt w' w.heap.size v outs)(hP:PSrv N w' sb s' cm wv' cbs' xs' ws')(hin:∀k,cq sb cm wv' cbs' xs' k->cq sb cm wv cbs xs k\/w.heap.size<=k)(hu:∀k,SrvU xs' k->SrvU xs k)(hc:Chg (cq sb cm wv cbs xs) w w'):SOut N w sb cm wv cbs xs (s',outs) (.returned v) w':=
 ⟨⟨v,wv',cbs',xs',ws',rfl,OutsU.of ho (fun k hk hA=>by have:=SrvU_lt h0 (hu k hA);omega),hP,hin,fun k hk=>Or.inl (hu k hk)⟩,hc⟩
theorem SOut.mk0{N:Nat}{w:World}{sb cm:Nat}{s':ax}{wv wv':Value}{cbs cbs':List Nat}{xs xs':List aH}{ws':List Nat}{outs:List (Int×List Int)}{v:Value}{w':World}(ho:OutsAt w' w.heap.size v outs)(h0:outs=[])(hP:PSrv N w' sb s' cm wv' cbs' xs' ws')(hin:∀k,cq sb cm wv' cbs' xs' k->cq sb cm wv cbs xs k\/w.heap.size<=k)(hu:∀k,SrvU xs' k->SrvU xs k\/w.heap.size<=k)(hc:Chg (cq sb cm wv cbs xs) w w'):SOut N w sb cm wv cbs xs (s',outs) (.returned v) w':=
 ⟨⟨v,wv',cbs',xs',ws',rfl,OutsU.none ho h0,hP,hin,hu⟩,hc⟩
theorem fw{sb cm:Nat}{wv:Value}{cbs:List Nat}{xs:List aH}{i cb:Nat}{a:aH}(h1:cbs[i]? =some cb)(h2:xs[i]? =some a){k:Nat}(hk:bg cb a k):cq sb cm wv cbs xs k:=Or.inr (Or.inr (Or.inr ⟨i,cb,a,h1,h2,hk⟩))
theorem SrvF_set{sb cm:Nat}{wv:Value}{cbs:List Nat}{xs:List aH}{i cb:Nat}{a a':aH}{B:Nat}(h1:cbs[i]? =some cb)(h2:xs[i]? =some a)(hin:∀k,bg cb a' k->bg cb a k\/B<=k):∀k,cq sb cm wv cbs (xs.set i a') k->cq sb cm wv cbs xs k\/B<=k:=by
 rintro k (e|e|e|⟨j,db,b,e1,e2,e3⟩)
 ·exact Or.inl (Or.inl e)
 ·exact Or.inl (Or.inr (Or.inl e))
 ·exact Or.inl (Or.inr (Or.inr (Or.inl e)))
 ·by_cases hji:j=i
  ·subst hji
   rw[aI h2]at e2
   simp only[Option.some.injEq]at e2
   subst e2
   rw[h1]at e1
   simp only[Option.some.injEq]at e1
   subst e1
   rcases hin k e3 with h3|h3
   ·exact Or.inl (fw h1 h2 h3)
   ·exact Or.inr h3
  ·rw[az hji]at e2
   exact Or.inl (fw e1 e2 e3)
theorem shelloAgain_any(N:Nat)(sb:Nat)(s:ax)(cm:Nat)(wv:Value)(cbs:List Nat)(xs:List aH)(ws:List Nat)(i cb:Nat)(c:au)(a:aH)(addr size:Int)(d:DgS)(tv fv:Value)(w:World)(h:PSrv N w sb s cm wv cbs xs ws)(hi:s.conns[i]? =some c)(hcb:cbs[i]? =some cb)(ha:xs[i]? =some a)(hg:bN s.c){M:Int}(hok:ConOk M c)(hM:M+size<=1125899906842624)(hsz:0<=size)(hov:∃ta tl tc,tv=.slice ta tl tc)(hof:∃ta tl tc,fv=.slice ta tl tc):
  Calls Tryz.prog 89 #[.pointer (some ⟨sb,0,none⟩),.pointer (some ⟨cb,0,none⟩),.int .i64 addr,.agg (dgC d size tv fv)] w fun e w'=>SOut N w sb cm wv cbs xs (againS s i c addr size []) e w':=by
 obtain⟨t1,t2,t3,rfl⟩:=hov
 obtain⟨f1,f2,f3,rfl⟩:=hof
 have hC:=h.con i c cb a hi hcb ha
 have hgot:=hok.got
 have hsent:=hok.sent
 have hcid:=hok.cid
 have hadr:=hok.addr
 have hba:Below w.heap.size w (w.alloc (.cells #[.int .i64 d.kind,.int .i64 size,.int .i64 d.cid,.slice t1 t2 t3,.int .i64 d.num,.slice f1 f2 f3] 107)):=af w _
 have hB0:=hC.blk.below hba
 have HAd:=ab (cAddress_any cb s.c c _ _ _ _ _ hB0)
 have hsc:sb≠cb:=by
  intro e
  have h1:=h.blk
  have h2:=hC.blk
  unfold SBlk at h1
  unfold ConBlk at h2
  rw[e,h2]at h1
  simp only[Option.some.injEq,Obj.cells.injEq]at h1
  exact absurd h1.2.1 (by decide)
 have HHe:Hid (∀(W:World) (c':au),ConBlk W cb s.c c' a.plv a.sm a.dm (bk c.streams)->Chg (· = cb) w W->c'.streams=c.streams->c'.runs=c.runs->c'.cid=c.cid->c'.waits=c.waits->PSrv N W sb {s with conns:=s.conns.set i c'} cm wv cbs (xs.set i a) ws/\Chg (cq sb cm wv cbs xs) w W):=by
  intro W c' hb hc hs hr hci hw
  have hc2:Chg (bg cb a) w W:=hc.mono fun k _ e=>Or.inl e
  exact⟨h.step (Nat.le_refl _) hi hcb ha hc2 (hC.reblk hc hb hs hr) (fun k hk=>Or.inl hk) hci hw,hc2.mono fun k _ hk=>fw hcb ha hk⟩
 have hxs:xs.set i a=xs:=eL ha
 have HSx:Hid (∀(W:World) (c':au) (outs:List (Int×List Int)) (v:Value),ConBlk W cb s.c c' a.plv a.sm a.dm (bk c.streams)->Chg (· = cb) w W->c'.streams=c.streams->c'.runs=c.runs->c'.cid=c.cid->c'.waits=c.waits->OutsAt W w.heap.size v outs->SOut N w sb cm wv cbs xs ({s with conns:=s.conns.set i c'},outs) (.returned v) W):=by
  intro W c' outs v hb hc hs hr hci hw ho
  obtain⟨q1,q2⟩:=HHe.out W c' hb hc hs hr hci hw
  rw[hxs]at q1
  exact SOut.mk1 h ho q1 (fun k hk=>Or.inl hk) (fun k hk=>hk) q2
 unfold dgC
 by_cases hne:c.addr=addr
 ·have hS0:=h.blk.below hba
  have HGt:=ab (cGet_any cb s.c c _ _ _ _ size _ hB0 ⟨hgot.1,by omega⟩ ⟨hsz,by omega⟩)
  have HHr:=ab (fun(W:World) (hb:ConBlk W cb s.c {c with got:=c.got+size} a.plv a.sm a.dm (bk c.streams))=>cHear_any cb s.c _ _ _ _ _ s.now W hb)
  have HPv:=ab (fun(W:World) (hb:ConBlk W cb s.c {c with got:=c.got+size,heard:=s.now} a.plv a.sm a.dm (bk c.streams))=>cProven_any cb s.c _ _ _ _ _ W hb)
  have HWl:=ab (fun(W:World) (hb:ConBlk W cb s.c {c with got:=c.got+size,heard:=s.now} a.plv a.sm a.dm (bk c.streams))=>cWelcome_any cb s.c _ _ _ _ _ W hb hg hadr hcid ⟨by simp only;omega,by simp only;omega⟩ ⟨hsent.1,by simp only;omega⟩)
  have HAg:Hid (againS s i c addr size []=if c.proven then({s with conns:=s.conns.set i {c with got:=c.got+size,heard:=s.now}},[]) else({s with conns:=s.conns.set i (bu {c with got:=c.got+size,heard:=s.now} (bh s.c {c with got:=c.got+size,heard:=s.now}))},cf {c with got:=c.got+size,heard:=s.now} (bh s.c {c with got:=c.got+size,heard:=s.now}) [])):=by
   show _=_
   unfold againS
   rw[if_neg (by simp[hne])]
  obtain⟨R,hR⟩:∃R,againS s i c addr size []=R:=⟨_,rfl⟩
  rw[hR]at HAg⊢
  have HS0:=ab hS0
  have HB0:=ab hba
  clear hR h hC hok hg hgot hsent hcid hadr hB0 hS0 HHe hxs
  go_enter Tryz.func89,Tryz.ntmps89
  go_wp2_with fail
  refine HAd.out.mono ?_
  rintro e w1 ⟨rfl,rfl⟩
  clear HAd hba
  go_wp2_with fail
  refine HGt.out.mono ?_
  rintro e w2 ⟨rfl,hb2,hc2⟩
  have HB2:=ab hb2
  have HC2:=ab hc2
  have d10:w2.cell? ⟨sb,10,none⟩= some (.int .i64 s.now):=(HS0.out.chg hc2 hsc).cell 10
  clear hb2 hc2 HGt
  go_wp2_with fail
  refine(HHr.out w2 HB2.out).mono ?_
  rintro e w3 ⟨rfl,hb3,hc3⟩
  have HB3:=ab hb3
  have HC3:Hid (Chg (· = cb) w w3):=((Chg.of_below HB0.out).trans HC2.out).trans hc3
  clear hb3 hc3 HHr HB2 d10 HS0 HC2
  go_wp2_with fail
  refine(HPv.out w3 HB3.out).mono ?_
  rintro e w4 ⟨rfl,rfl⟩
  clear HPv
  cases hp:c.proven with
  |true=>
   have HE:Hid (SOut N w sb cm wv cbs xs R (.returned (.slice none 0 0)) w3):=by
    rw[HAg.out,if_pos hp]
    exact HSx.out w3 _ [] _ HB3.out HC3.out rfl rfl rfl rfl (OutsAt.nil _ _)
   clear HSx HAg HWl
   go_wp2_with fail
   go_ret
   exact HE.out
  |false=>
   have HT:=ab (HWl.out w3 HB3.out)
   have HAg2:Hid (R=({s with conns:=s.conns.set i (bu {c with got:=c.got+size,heard:=s.now} (bh s.c {c with got:=c.got+size,heard:=s.now}))},cf {c with got:=c.got+size,heard:=s.now} (bh s.c {c with got:=c.got+size,heard:=s.now}) [])):=by
    show _=_
    rw[HAg.out,if_neg (by rw[hp];decide)]
   clear HAg HWl
   go_wp2_with fail
   refine HT.out.mono ?_
   intro e w5 ho
   obtain⟨v,rfl,hv⟩:=ho.ret
   have hfm:∃va vl vc,v=.slice va vl vc:=by obtain⟨x,y,e⟩:=hv.form;exact⟨_,_,_,e⟩
   have HE:Hid (SOut N w sb cm wv cbs xs R (.returned v) w5):=by
    rw[HAg2.out]
    have hns:=news_same {c with got:=c.got+size,heard:=s.now} (bh s.c {c with got:=c.got+size,heard:=s.now})
    have hnr:(bu {c with got:=c.got+size,heard:=s.now} (bh s.c {c with got:=c.got+size,heard:=s.now})).streams=c.streams/\(bu {c with got:=c.got+size,heard:=s.now} (bh s.c {c with got:=c.got+size,heard:=s.now})).runs=c.runs:=by
     unfold bu
     split<;>exact⟨rfl,rfl⟩
    exact HSx.out w5 _ _ v ho.blk (HC3.out.trans ho.chg) hnr.1 hnr.2 hns.1 hns.2.1 (hv.mono HC3.out.size)
   obtain⟨va,vl,vc,rfl⟩:=hfm
   clear ho hv HT HSx HAg2
   go_wp2_with fail
   go_ret
   exact HE.out
 ·have HAg:Hid (againS s i c addr size []=(s,[])):=by
   show _=_
   unfold againS
   rw[if_pos hne]
  have HE:Hid (∀W,Below w.heap.size w W->SOut N w sb cm wv cbs xs (s,[]) (.returned (.slice none 0 0)) W):=fun W hW=>SOut.mk1 h (OutsAt.nil _ _) (h.below hW) (fun k hk=>Or.inl hk) (fun k hk=>hk) (Chg.of_below hW)
  rw[HAg.out]
  have hnb:(c.addr==addr)=false:=beq_eq_false_iff_ne.2 hne
  have HB0:=ab hba
  clear h hC hok hg hgot hsent hcid hadr hB0 HHe hxs HSx hba
  go_enter Tryz.func89,Tryz.ntmps89
  go_wp2_with fail
  refine HAd.out.mono ?_
  rintro e w1 ⟨rfl,rfl⟩
  clear HAd
  go_wp2_with fail
  go_ret
  exact HE.out _ HB0.out
theorem sretry_any(N:Nat)(sb:Nat)(s:ax)(cm:Nat)(wv:Value)(cbs:List Nat)(xs:List aH)(ws:List Nat)(addr size:Int)(d:DgS)(tv fv:Value)(w:World)(h:PSrv N w sb s cm wv cbs xs ws)(hg:bN s.c)(hnow:0<=s.now/\s.now<=1000000000)(ha:0<=addr/\addr<256)(hcid:0<=d.cid/\d.cid<=1073741823)(hsz:0<=size/\size<=1125899906842624)(hov:∃ta tl tc,tv=.slice ta tl tc)(hof:∃ta tl tc,fv=.slice ta tl tc):
  Calls Tryz.prog 93 #[.pointer (some ⟨sb,0,none⟩),.int .i64 addr,.agg (dgC d size tv fv)] w fun e w'=>SOut N w sb cm wv cbs xs (s,retryO s addr d.cid size []) e w':=by
 obtain⟨t1,t2,t3,rfl⟩:=hov
 obtain⟨f1,f2,f3,rfl⟩:=hof
 have k7:=hg.c7
 have k9:=hg.c9
 have hba:Below w.heap.size w (w.alloc (.cells #[.int .i64 d.kind,.int .i64 size,.int .i64 d.cid,.slice t1 t2 t3,.int .i64 d.num,.slice f1 f2 f3] 107)):=af w _
 have hS0:=h.blk.below hba
 have c7:(w.alloc (.cells #[.int .i64 d.kind,.int .i64 size,.int .i64 d.cid,.slice t1 t2 t3,.int .i64 d.num,.slice f1 f2 f3] 107)).cell? ⟨sb,7,none⟩= some (.int .i64 s.c.c7):=hS0.cell 7
 have c9:(w.alloc (.cells #[.int .i64 d.kind,.int .i64 size,.int .i64 d.cid,.slice t1 t2 t3,.int .i64 d.num,.slice f1 f2 f3] 107)).cell? ⟨sb,9,none⟩= some (.int .i64 s.c.c9):=hS0.cell 9
 have c10:(w.alloc (.cells #[.int .i64 d.kind,.int .i64 size,.int .i64 d.cid,.slice t1 t2 t3,.int .i64 d.num,.slice f1 f2 f3] 107)).cell? ⟨sb,10,none⟩= some (.int .i64 s.now):=hS0.cell 10
 have b1:(w.alloc (.cells #[.int .i64 d.kind,.int .i64 size,.int .i64 d.cid,.slice t1 t2 t3,.int .i64 d.num,.slice f1 f2 f3] 107)).cell? ⟨w.heap.size,1,none⟩= some (.int .i64 size):=by simp
 have b2:(w.alloc (.cells #[.int .i64 d.kind,.int .i64 size,.int .i64 d.cid,.slice t1 t2 t3,.int .i64 d.num,.slice f1 f2 f3] 107)).cell? ⟨w.heap.size,2,none⟩= some (.int .i64 d.cid):=by simp
 have hw1:IntKind.i64.wrap (s.now+s.c.c7)=s.now+s.c.c7:=by rw[IntKind.wrap_i64];omega
 have hw2:IntKind.i64.wrap (3*size)=3*size:=by rw[IntKind.wrap_i64];omega
 have HTk:=ab (fun W=>wToken_any s.c.c9 addr (s.now+s.c.c7) W k9.1 k9.2 ha.1 ha.2 (by omega) (by omega))
 have HTb:=ab (eY s.c.c9 addr (s.now+s.c.c7) ha.1 ha.2)
 have HRO:Hid (retryO s addr d.cid size []=if((retryL s addr d.cid).length:Int)<=3*size then [(addr,retryL s addr d.cid)] else []):=rfl
 have HRL:Hid (retryL s addr d.cid=[3]++aw d.cid++aw 9++bD s.c.c9 addr (s.now+s.c.c7)):=rfl
 have HRt:Hid (∀(W:World) (v:Value),W.ownsRow W.heap.size 5 1 v 9 (U8 (bD s.c.c9 addr (s.now+s.c.c7)))\/(∃B,W.ownsRow B 5 1 v 9 (U8 (bD s.c.c9 addr (s.now+s.c.c7))))->Calls Tryz.prog 147 #[.int .i64 d.cid,v] W fun e w'=>∃v',e=.returned v'/\w'.ownsRow W.heap.size 5 1 v' (retryL s addr d.cid).length (U8 (retryL s addr d.cid))/\Below W.heap.size W w'):=by
  intro W v hv
  obtain⟨B,hv⟩:∃B,W.ownsRow B 5 1 v 9 (U8 (bD s.c.c9 addr (s.now+s.c.c7))):=hv.elim (fun h=>⟨_,h⟩) id
  have hl9:(bD s.c.c9 addr (s.now+s.c.c7)).length=9:=by have:=hv.1;rw[bP]at this;omega
  rw[HRL.out]
  exact wRetry_any d.cid _ v W hcid (RdB.of_own hv HTb.out (by rw[hl9];decide)) hl9
 have HE:Hid (∀(W:World) (v:Value) (outs:List (Int×List Int)),Below w.heap.size w W->OutsAt W w.heap.size v outs->SOut N w sb cm wv cbs xs (s,outs) (.returned v) W):=fun W v outs hW ho=>SOut.mk1 h ho (h.below hW) (fun k hk=>Or.inl hk) (fun k hk=>hk) (Chg.of_below hW)
 generalize retryL s addr d.cid=L at HRO HRt
 generalize bD s.c.c9 addr (s.now+s.c.c7)=T at HTk HRt HTb
 obtain⟨O,hO⟩:∃O,retryO s addr d.cid size []=O:=⟨_,rfl⟩
 rw[hO]at HRO⊢
 have HBa:=ab hba
 unfold dgC
 clear h hg hO hS0 HRL HTb hba k7 k9 hcid hnow
 go_enter Tryz.func93,Tryz.ntmps93
 go_wp2_with fail
 go_region_held3 (fun w'=>w'.cell? ⟨sb,7,none⟩= some (.int .i64 s.c.c7)/\w'.cell? ⟨sb,9,none⟩= some (.int .i64 s.c.c9)/\w'.cell? ⟨sb,10,none⟩= some (.int .i64 s.now)/\w'.cell? ⟨w.heap.size,1,none⟩= some (.int .i64 size)/\w'.cell? ⟨w.heap.size,2,none⟩= some (.int .i64 d.cid)) (first|assumption|go_keep) (first
  |(go_at_call 67;refine(HTk.out _).mono ?_;rintro e w1 ⟨v1,rfl,ho1,hb1⟩;have g7:=ae c7 (al hb1);have g9:=ae c9 (al hb1);have g10:=ae c10 (al hb1);have g1:=ae b1 (al hb1);have g2:=ae b2 (al hb1);have hS1:=And.intro g7 (And.intro g9 (And.intro g10 (And.intro g1 g2)));obtain⟨va,vc,rfl⟩:=aF ho1)
  |(go_at_call 147;refine(HRt.out w1 _ (Or.inr ⟨_,ho1⟩)).mono ?_;rintro e w2 ⟨v2,rfl,ho2,hb2⟩;have l7:=ae g7 hb2;have l9:=ae g9 hb2;have l10:=ae g10 hb2;have l1:=ae g1 hb2;have l2:=ae g2 hb2;have hS2:=And.intro l7 (And.intro l9 (And.intro l10 (And.intro l1 l2)));obtain⟨ua,uc,rfl⟩:=aF ho2))
 have HB2:=ab (ag (ag HBa.out (al hb1)) hb2)
 have HO2:=ab ho2
 obtain⟨n,hn⟩:∃n,L.length=n:=⟨_,rfl⟩
 rw[hn]at HO2 HRO⊢
 have HNl:=ab hn
 have HZ:Hid (w.heap.size<=w1.heap.size):=Nat.le_trans HBa.out.size (al hb1).size
 clear ho1 hb1 ho2 hb2 hS1 hS2 g7 g9 g10 g2 g1 l7 l9 l10 l2 c7 c9 c10 b1 b2 HTk HRt hn
 by_cases hle:(n:Int)<=3*size
 ·have HO3:Hid (O=[(addr,L)]):=by
   show _=_
   rw[HRO.out,if_pos hle]
  have HF:Hid (SOut N w sb cm wv cbs xs (s,O) (.returned (.slice (some ⟨w2.heap.size,0,none⟩) 1 1)) (w2.alloc (.cells #[.int .i64 addr,.slice ua n uc] 60))):=by
   rw[HO3.out]
   refine HE.out _ _ _ (ag HB2.out (af _ _)) ⟨[(addr,.slice ua n uc)],own_lit2 w2 w.heap.size addr _ HB2.out.size,OutOw.one ?_⟩
   rw[HNl.out]
   exact ca (aD HO2.out (af _ _)) HZ.out
  clear HE HRO
  go_wp2_with fail
  go_ret
  exact HF.out
 ·have HO3:Hid (O=[]):=by
   show _=_
   rw[HRO.out,if_neg hle]
  have HF:Hid (SOut N w sb cm wv cbs xs (s,O) (.returned (.slice none 0 0)) w2):=by
   rw[HO3.out]
   exact HE.out _ _ _ HB2.out (OutsAt.nil _ _)
  clear HE HRO
  go_wp2_with fail
  go_ret
  exact HF.out
theorem zip_erase:∀(ks:List Int) (bs:List Nat) (i:Nat) (k:Int),ks.Nodup->ks.length=bs.length->ks[i]? =some k->(ks.eraseIdx i).zip (bs.eraseIdx i)=delK (ks.zip bs) k
 |[],_,_,_,_,_,h=>by simp at h
 |_::_,[],_,_,_,h,_=>by simp at h
 |a::ks,b::bs,0,k,hn,_,h=>by
  simp only[List.getElem?_cons_zero,Option.some.injEq]at h
  subst h
  obtain⟨h1,_⟩:=List.nodup_cons.1 hn
  simp only[List.eraseIdx_zero,List.tail_cons,List.zip_cons_cons,delK,List.filter_cons,beq_self_eq_true,Bool.not_true]
  rw[if_neg (by simp)]
  symm
  rw[List.filter_eq_self]
  rintro⟨x,y⟩ hxy
  have hx:x∈ks:=(List.of_mem_zip hxy).1
  have:x≠a:=fun e=>h1 (e▸hx)
  simp[this]
 |a::ks,b::bs,i+1,k,hn,hl,h=>by
  simp only[List.getElem?_cons_succ]at h
  obtain⟨h1,h2⟩:=List.nodup_cons.1 hn
  have hk:a≠k:=fun e=>h1 (e▸List.mem_of_getElem? h)
  have ih:=zip_erase ks bs i k h2 (by simpa using hl) h
  simp only[List.eraseIdx_cons_succ,List.zip_cons_cons,delK,List.filter_cons]
  rw[if_pos (by simp[hk]),ih]
  rfl
theorem map_erase{α β:Type}(f:α->β):∀(l:List α) (i:Nat),(l.eraseIdx i).map f=(l.map f).eraseIdx i
 |[],_=>rfl
 |_::_,0=>rfl
 |a::l,i+1=>by simp[map_erase f l i]
theorem par_filter{R:Nat->Int->Prop}{p:Nat->Bool}{q:Int->Bool}:∀(ws:List Nat) (cs:List Int),ws.length=cs.length->(∀(j:Nat) b x,ws[j]? =some b->cs[j]? =some x->R b x/\p b=q x)->
  (ws.filter p).length=(cs.filter q).length/\∀(j:Nat) b x,(ws.filter p)[j]? =some b->(cs.filter q)[j]? =some x->R b x
 |[],[],_,_=>by simp
 |[],_::_,h,_=>by simp at h
 |_::_,[],h,_=>by simp at h
 |b::ws,x::cs,hl,h=>by
  obtain⟨h1,h2⟩:=h 0 b x rfl rfl
  have ih:=par_filter (R:=R) (p:=p) (q:=q) ws cs (by simpa using hl) (fun j b' x' e1 e2=>h (j+1) b' x' (by simpa using e1) (by simpa using e2))
  rw[List.filter_cons,List.filter_cons]
  cases hp:p b with
  |false=>
   rw[<-h2,hp,if_neg (by simp),if_neg (by simp)]
   exact ih
  |true=>
   rw[<-h2,hp,if_pos rfl,if_pos rfl]
   refine⟨by simp[ih.1],fun j b' x' e1 e2=>?_⟩
   cases j with
   |zero=>
    simp only[List.getElem?_cons_zero,Option.some.injEq]at e1 e2
    subst e1 e2
    exact h1
   |succ j=>exact ih.2 j b' x' (by simpa using e1) (by simpa using e2)
def upTo(i j:Nat):Nat:=if j<i then j else j+1
theorem erase_at{α:Type}(l:List α)(i j:Nat):(l.eraseIdx i)[j]? =l[upTo i j]?:=by
 rw[List.getElem?_eraseIdx]
 unfold upTo
 split<;>rfl
theorem upTo_ne(i j:Nat):upTo i j≠i:=by
 unfold upTo
 split<;>omega
theorem upTo_inj{i j k:Nat}(h:upTo i j=upTo i k):j=k:=by
 unfold upTo at h
 split at h<;>split at h<;>omega
theorem upTo_of{i k:Nat}(h:k≠i):∃j,upTo i j=k:=by
 rcases Nat.lt_or_ge k i with h1|h1
 ·exact⟨k,by unfold upTo;rw[if_pos h1]⟩
 ·exact⟨k-1,by unfold upTo;rw[if_neg (by omega)];omega⟩
structure PBut(N:Nat)(w:World)(sb:Nat)(s:ax)(cm:Nat)(wv:Value)(cbs:List Nat)(xs:List aH)(ws:List Nat)(i:Nat)(cb:Nat)(cid:Int):Prop where
 blk:SBlk w sb s.c s.now cm wv
 map:∃n,n<=N/\MapIs ej Tryz.prog 3 w cm n ((s.conns.map (·.cid)).zip cbs)
 len1:cbs.length=s.conns.length
 len2:xs.length=s.conns.length
 at1:cbs[i]? =some cb
 at2:∃c,s.conns[i]? =some c/\c.cid=cid
 one:∃c plv sm dm past,ConBlk w cb s.c c plv sm dm past/\c.cid=cid
 con:∀(j:Nat) c cb a,j≠i->s.conns[j]? =some c->cbs[j]? =some cb->xs[j]? =some a->ConAt N w cb s.c c a
 row:w.ownsRow 0 97 1 wv ws.length (fs ws)
 wait:∃cs,WaitIs s.conns cs/\ws.length=cs.length/\∀(j:Nat) b,ws[j]? =some b->∃(i:Nat) (c:au),s.conns[i]? =some c/\cbs[i]? =some b/\cs[j]? =some c.cid
 apart:∀(i j:Nat) cb a cb' a',i≠j->cbs[i]? =some cb->xs[i]? =some a->cbs[j]? =some cb'->xs[j]? =some a'->∀k,bg cb a k->¬bg cb' a' k
 mne:∀(i:Nat) cb a,cbs[i]? =some cb->xs[i]? =some a->¬bg cb a cm
theorem PSrv.but{N N':Nat}{w w':World}{sb:Nat}{s:ax}{cm:Nat}{wv:Value}{cbs:List Nat}{xs:List aH}{ws:List Nat}{i:Nat}{c:au}{cb:Nat}{a:aH}(h:PSrv N w sb s cm wv cbs xs ws)(hN:N<=N')(hi:s.conns[i]? =some c)(hcb:cbs[i]? =some cb)(ha:xs[i]? =some a)
  (hc:Chg (bg cb a) w w') (hb:∃c2 plv sm dm past,ConBlk w' cb s.c c2 plv sm dm past/\c2.cid=c.cid):PBut N' w' sb s cm wv cbs xs ws i cb c.cid:=by
 have hC:=h.con i c cb a hi hcb ha
 obtain⟨n,hn,hm⟩:=h.map
 have hsb:¬bg cb a sb:=cC hC h.blk (by decide) (by decide) (by decide) (by decide)
 refine⟨h.blk.chg hc hsb,⟨n,Nat.le_trans hn hN,hm.same (hc.block cm hm.lt (h.mne i cb a hcb ha))⟩,h.len1,h.len2,hcb,⟨c,hi,rfl⟩,hb,fun j d db b hji hj hdb hb'=>?_,bW h.row hc (fun k hk hF=>?_),h.wait,h.apart,h.mne⟩
 ·exact((h.con j d db b hj hdb hb').chg hc (fun k hk=>h.apart j i db b cb a hji hdb hb' hcb ha k hk) (fun k cur fr hk=>ConF_not8 hC hk)).mono hN
 ·obtain⟨c1,e1⟩:=aO h.row hk
  exact cC hC e1 (by decide) (by decide) (by decide) (by decide) hF
theorem PBut.isb{N:Nat}{w:World}{sb:Nat}{s:ax}{cm:Nat}{wv:Value}{cbs:List Nat}{xs:List aH}{ws:List Nat}{i cb:Nat}{cid:Int}(h:PBut N w sb s cm wv cbs xs ws i cb cid):IsConB w cb/\∀b∈ws,IsConB w b:=by
 obtain⟨c1,plv,sm,dm,past,hone,_⟩:=h.one
 have h0:IsConB w cb:=⟨_,hone⟩
 refine⟨h0,fun b hb=>?_⟩
 obtain⟨j,hj,e⟩:=List.getElem_of_mem hb
 obtain⟨_,_,_,hw⟩:=h.wait
 obtain⟨l,d,h1,h2,_⟩:=hw j b (by rw[List.getElem?_eq_getElem hj,e])
 by_cases hli:l=i
 ·subst hli
  rw[h.at1]at h2
  cases h2
  exact h0
 ·have hxl:l<xs.length:=by rw[h.len2];exact(List.getElem?_eq_some_iff.1 h1).1
  have:=(h.con l d b _ hli h1 h2 (List.getElem?_eq_getElem hxl)).blk
  exact⟨_,this⟩
theorem PBut.gone{N:Nat}{w w':World}{sb:Nat}{s:ax}{cm:Nat}{wv wv':Value}{cbs:List Nat}{xs:List aH}{ws:List Nat}{i cb n:Nat}{cid:Int}(h:PBut N w sb s cm wv cbs xs ws i cb cid)(hnd:(s.conns.map (·.cid)).Nodup)
  (hc:Chg (fun k=>k=sb\/k=cm\/wv.ownBlock=some k) w w') (hS:SBlk w' sb s.c s.now cm wv') (hn:n<=N) (hm:MapIs ej Tryz.prog 3 w' cm n (delK ((s.conns.map (·.cid)).zip cbs) cid))
  (ho:w'.ownsRow 0 97 1 wv' (ws.filter fun b=>b != cb).length (fs (ws.filter fun b=>b != cb))):
  PSrv N w' sb {s with conns:=s.conns.eraseIdx i} cm wv' (cbs.eraseIdx i) (xs.eraseIdx i) (ws.filter fun b=>b != cb):=by
 obtain⟨c,hi,hcid⟩:=h.at2
 have hil:i<s.conns.length:=(List.getElem?_eq_some_iff.1 hi).1
 obtain⟨cs,hw1,hw2,hw3⟩:=h.wait
 obtain⟨n0,_,hm0⟩:=h.map
 have hinj:∀(j l:Nat) b,cbs[j]? =some b->cbs[l]? =some b->j=l:=by
  intro j l b e1 e2
  by_cases hjl:j=l
  ·exact hjl
  ·have h1:j<xs.length:=by rw[h.len2,<-h.len1];exact(List.getElem?_eq_some_iff.1 e1).1
   have h2:l<xs.length:=by rw[h.len2,<-h.len1];exact(List.getElem?_eq_some_iff.1 e2).1
   exact absurd (Or.inl rfl) (h.apart j l b _ b _ hjl e1 (List.getElem?_eq_getElem h1) e2 (List.getElem?_eq_getElem h2) b (Or.inl rfl))
 have hpar:=par_filter (R:=fun b x=>∃(l:Nat) (d:au),s.conns[l]? =some d/\cbs[l]? =some b/\d.cid=x) (p:=fun b=>b != cb) (q:=fun x=>x != c.cid) ws cs hw2 (fun j b x e1 e2=>by
  obtain⟨l,d,h1,h2,h3⟩:=hw3 j b e1
  rw[h3]at e2
  cases e2
  refine⟨⟨l,d,h1,h2,rfl⟩,?_⟩
  by_cases hbc:b=cb
  ·subst hbc
   have:=hinj l i b h2 h.at1
   subst this
   rw[hi]at h1
   cases h1
   simp
  ·have hdc:d.cid≠c.cid:=by
    intro e
    have e3:(s.conns.map (·.cid))[l]? =some d.cid:=by simp[h1]
    have e4:(s.conns.map (·.cid))[i]? =some d.cid:=by simp[hi,e]
    have:=(List.getElem?_inj (by simpa using(List.getElem?_eq_some_iff.1 h1).1) hnd).1 (e3.trans e4.symm)
    subst this
    rw[h.at1]at h2
    cases h2
    exact hbc rfl
   rw[bne_iff_ne.2 hbc,bne_iff_ne.2 hdc])
 refine⟨hS,⟨n,hn,?_⟩,?_,?_,fun j d db b hj hdb hb=>?_,ho,⟨cs.filter fun x=>x != c.cid,hw1.erase hnd hi,hpar.1,fun j b hb=>?_⟩,fun j l cb1 a1 cb2 a2 hjl e1 e2 e3 e4 k=>?_,fun j db b hdb hb=>?_⟩
 ·have e1:(s.conns.eraseIdx i).map (·.cid)=(s.conns.map (·.cid)).eraseIdx i:=map_erase _ _ _
  show MapIs ej Tryz.prog 3 w' cm n (((s.conns.eraseIdx i).map (·.cid)).zip (cbs.eraseIdx i))
  rw[e1,zip_erase _ _ i cid hnd (by simp[h.len1]) (by simp[hi,hcid])]
  exact hm
 ·rw[List.length_eraseIdx,List.length_eraseIdx,h.len1]
 ·rw[List.length_eraseIdx,List.length_eraseIdx,h.len2]
 ·simp only[erase_at]at hj hdb hb
  have hD:=h.con _ d db b (upTo_ne i j) hj hdb hb
  refine hD.chg hc (fun k hk=>?_) (fun k cur fr hk=>?_)
  ·rintro(e|e|e)
   ·subst e
    exact cC hD h.blk (by decide) (by decide) (by decide) (by decide) hk
   ·subst e
    exact h.mne _ db b hdb hb hk
   ·obtain⟨c1,e1⟩:=aO h.row e
    exact cC hD e1 (by decide) (by decide) (by decide) (by decide) hk
  ·rintro(e|e|e)
   ·subst e
    have h2:w.heap[k]? =some (.cells (psrvC s.c s.now cm wv) 101 (0,0)):=h.blk
    rw[h2]at hk
    simp only[Option.some.injEq,Obj.cells.injEq]at hk
    exact absurd hk.2.1 (by decide)
   ·subst e
    obtain⟨es,ck,hb⟩:=hm0.is_map
    rw[hb]at hk
    cases hk
   ·exact ar h.row hk (by decide) e
 ·have hbm:b≠cb:=by
   have:=(List.mem_filter.1 (List.mem_of_getElem? hb)).2
   simpa using this
  have hjl:j<(cs.filter fun x=>x != c.cid).length:=by rw[<-hpar.1];exact(List.getElem?_eq_some_iff.1 hb).1
  obtain⟨l,d,h1,h2,h3⟩:=hpar.2 j b _ hb (List.getElem?_eq_getElem hjl)
  have hli:l≠i:=fun e=>by
   subst e
   rw[h.at1]at h2
   cases h2
   exact hbm rfl
  obtain⟨m,hm⟩:=upTo_of hli
  refine⟨m,d,?_,?_,?_⟩
  ·simp only[erase_at,hm,h1]
  ·simp only[erase_at,hm,h2]
  ·rw[List.getElem?_eq_getElem hjl,h3]
 ·rw[erase_at]at e1 e2 e3 e4
  exact h.apart _ _ cb1 a1 cb2 a2 (fun e=>hjl (upTo_inj e)) e1 e2 e3 e4 k
 ·rw[erase_at]at hdb hb
  exact h.mne _ db b hdb hb
section
variable {α : Type} {C : MCode α} {P : Program} {K : TypeId}
theorem step_mdel{ops:Array Oper}{o:Oper}{a:Act}{w:World}{J:Act->World->Prop}{Q:Exit->Act->World->Prop}{E:Prop}
  (hg:o.guard=none) (m x:Operand) (t:TypeId) (hop:o.op=Op.call {callee:=Callee.builtin Builtin.delete,args:=#[m,x],argTypes:=#[t,K]}) (e:TypeId) (hK:P.underlying K=some (.int .i64)) (ht:P.underlying t=some (.map K e))
  (b n:Nat) (l:List (Int×α)) (hm:a.eval m=.map (some b)) (hown:MapIs C P K w b n l) (k:Int) (y:α) (hx:a.eval x=.int .i64 k) (hk:(Lit.int .i64 k).wf=true) (hy:atK l k=some y)
  (hGo:∀w',MapIs C P K w' b n (delK l k)->w.grownBy w' (some b)->w'.heap.size=w.heap.size->J (a.put o.dst (.tuple #[])) w'):
  if Region.wanted o (yielded ops a.tmps)=true then Oper.wp P o a w J Q else E:=by
 have hw:Region.wanted o (yielded ops a.tmps)=true:=by simp[Region.wanted,hg]
 rw[if_pos hw]
 obtain⟨D,hown,ok⟩:=hown
 obtain⟨w',hr,h1,h2⟩:=hown.drop (Maps.int_keyed hK) ht (Maps.keyOf_int_mk hK hk) o.type
 unfold Oper.wp
 simp[execOp,hop,resolve,invoke,builtin,hm,hx,hr,Result.andThen]
 refine hGo w' ⟨_,h1,ok.del (hown.tidy (Maps.int_keyed hK)) hy⟩ h2.grown ?_
 obtain⟨es,clock,es',clock',hb,rfl⟩:=h2
 simp[ChangeMaps.setBlock]
end
structure DropOut(N:Nat)(w:World)(sb:Nat)(s:ax)(cm:Nat)(wv:Value)(cbs:List Nat)(xs:List aH)(ws:List Nat)(e:Ending)(w':World):Prop where
 ret:e=.returned (.tuple #[])
 ex:∃wv',PSrv N w' sb s cm wv' cbs xs ws/\(wv'.ownBlock=wv.ownBlock\/∀k,wv'.ownBlock=some k->w.heap.size<=k)
 chg:Chg (fun k=>k=sb\/k=cm\/wv.ownBlock=some k) w w'
set_option maxRecDepth 4000 in
theorem sdrop_any(N sb:Nat)(s:ax)(cm:Nat)(wv:Value)(cbs:List Nat)(xs:List aH)(ws:List Nat)(i cb:Nat)(cid:Int)(w:World)(h:PBut N w sb s cm wv cbs xs ws i cb cid)(hnd:(s.conns.map (·.cid)).Nodup)(hn:ws.length<=1000)(hcid:-9223372036854775808<=cid/\cid<=9223372036854775807):
  Calls Tryz.prog 54 #[.pointer (some ⟨sb,0,none⟩),.pointer (some ⟨cb,0,none⟩)] w fun e w'=>DropOut N w sb {s with conns:=s.conns.eraseIdx i} cm wv (cbs.eraseIdx i) (xs.eraseIdx i) (ws.filter fun b=>b != cb) e w':=by
 obtain⟨n,hnN,hm⟩:=h.map
 obtain⟨c1,plv,sm,dm,past,hone,hoc⟩:=h.one
 obtain⟨c,hi,hcc⟩:=h.at2
 have HCid:=ab (fun W (hW:W.heap=w.heap)=>cCid_any cb s.c c1 plv sm dm past W (by unfold ConBlk at hone⊢;rw[hW];exact hone))
 rw[hoc]at HCid
 have d11:w.cell? ⟨sb,11,none⟩= some (.map (some cm)):=h.blk.cell 11
 have hat:atK ((s.conns.map (·.cid)).zip cbs) cid=some cb:=by
  refine atK_mem (by rw[List.map_fst_zip (by simp[h.len1])];exact hnd) (List.mem_of_getElem? (i:=i) ?_)
  rw[List.getElem?_zip_eq_some]
  exact⟨by simp[hi,hcc],h.at1⟩
 have HM:Hid (∀W:World,W.heap=w.heap->MapIs ej Tryz.prog 3 W cm n ((s.conns.map (·.cid)).zip cbs)):=fun W hW=>hm.same (by rw[hW])
 have HWf:=ab (wf_key hcid)
 have HAt:=ab hat
 have hisb:=h.isb
 have hmne:cm≠sb:=fun e=>by
  obtain⟨es,ck,hb⟩:=hm.is_map
  have h2:w.heap[sb]? =some (.cells (psrvC s.c s.now cm wv) 101 (0,0)):=h.blk
  rw[<-e,hb]at h2
  cases h2
 have hmrow:wv.ownBlock≠some cm:=fun e=>by
  obtain⟨es,ck,hb⟩:=hm.is_map
  obtain⟨c2,e2⟩:=aO h.row e
  rw[hb]at e2
  cases e2
 have HEnd:Hid (∀w1:World,MapIs ej Tryz.prog 3 w1 cm n (delK ((s.conns.map (·.cid)).zip cbs) cid)->Chg (fun k=>k=cm) w w1->Calls Tryz.prog 50 #[.pointer (some ⟨sb,0,none⟩),.pointer (some ⟨cb,0,none⟩)] w1 fun e w'=>DropOut N w sb {s with conns:=s.conns.eraseIdx i} cm wv (cbs.eraseIdx i) (xs.eraseIdx i) (ws.filter fun b=>b != cb) e w'):=by
  intro w1 hm1 hc1
  have hcb:∀b,IsConB w b->IsConB w1 b:=by
   rintro b ⟨cs,hb⟩
   refine⟨cs,?_⟩
   rw[hc1.block b (Array.getElem?_eq_some_iff.1 hb).1 (fun e=>?_)]
   ·exact hb
   ·obtain⟨es,ck,h2⟩:=hm.is_map
    rw[e,h2]at hb
    cases hb
  refine(swaitNoMore_any sb s.c s.now cm wv ws cb w1 (h.blk.chg hc1 (fun e=>hmne e.symm)) (bW h.row hc1 (fun k hk e=>hmrow (e▸hk))) hn (fun b hb=>hcb b (hisb.2 b hb)) (hcb cb hisb.1)).mono ?_
  rintro e w2 ⟨rfl,⟨wv',hS2,ho2,hat2⟩,hc2⟩
  have hc3:Chg (fun k=>k=sb\/k=cm\/wv.ownBlock=some k) w w2:=(hc1.mono fun k _ e=>Or.inr (Or.inl e)).trans (hc2.mono fun k _ e=>e.elim Or.inl (fun e=>Or.inr (Or.inr e)))
  refine⟨rfl,⟨wv',h.gone hnd hc3 hS2 hnN ?_ ho2,?_⟩,hc3⟩
  ·refine hm1.same (hc2.block cm hm1.lt ?_)
   rintro(e|e)
   ·exact hmne e
   ·exact hmrow e
  ·rcases hat2 with e|e
   ·exact Or.inl e
   ·exact Or.inr fun k hk=>Nat.le_trans hc1.size (e k hk)
 have HChg:Hid (∀w1:World,w.drew.grownBy w1 (some cm)->Chg (fun k=>k=cm) w w1/\w1.cell? ⟨sb,11,none⟩= some (.map (some cm))):=by
  intro w1 hg
  have hc:Chg (fun k=>k=cm) w w1:=⟨hg.os,hg.tape,hg.output,hg.size,fun k hk hne=>hg.block k hk (fun e=>hne (Option.some.inj e))⟩
  exact⟨hc,(h.blk.chg hc (fun e=>hmne e.symm)).cell 11⟩
 generalize ({s with conns:=s.conns.eraseIdx i}:ax)=s' at HEnd⊢
 generalize cbs.eraseIdx i=cbs' at HEnd⊢
 generalize xs.eraseIdx i=xs' at HEnd⊢
 generalize ws.filter (fun b=>b != cb)=ws' at HEnd⊢
 generalize (s.conns.map (·.cid)).zip cbs=L at HEnd HM HAt
 clear h hm hone hoc hi hcc hat hisb hmne hmrow hnd hn hcid hnN
 go_enter Tryz.func54,Tryz.ntmps54
 go_wp2_with fail
 go_region_held3 (fun w'=>w'.cell? ⟨sb,11,none⟩= some (.map (some cm))) (first|assumption|go_keep) (first
  |(go_at_call 51;refine(HCid.out w.drew rfl).mono ?_;rintro e w1 ⟨rfl,rfl⟩)
  |(refine step_mdel (C:=ej) rfl (.tmp 7) (.tmp 9) 98 rfl 97 Tryz.underlying3 Tryz.underlying98 cm n L (by kernel_rfl) (HM.out w.drew rfl) cid cb (by kernel_rfl) HWf.out HAt.out ?_;intro w1 hm1 hg1 _;have hk1:=(HChg.out w1 hg1).2))
 have HC1:=HEnd.out w1 hm1 (HChg.out w1 hg1).1
 replace HC1:=ab HC1
 clear hm1 hg1 hk1 HChg HEnd HM HAt HWf HCid d11
 go_wp2_with fail
 refine HC1.out.mono ?_
 intro e w2 h2
 have h3:=h2.ret
 subst h3
 replace h2:=ab h2
 clear HC1
 go_wp2_with fail
 go_end0
 exact h2.out
theorem OutsAt.chg{F:Nat->Prop}{w w':World}{base:Nat}{v:Value}{outs:List (Int×List Int)}(h:OutsAt w base v outs)(hc:Chg F w w')(h1:∀k cur fr,w.heap[k]? =some (.cells cur 60 fr)->¬F k)(h2:∀k cur fr,w.heap[k]? =some (.cells cur 5 fr)->¬F k):OutsAt w' base v outs:=by
 obtain⟨out,ho,hb⟩:=h
 refine⟨out,bW ho hc (fun g hg=>?_),hb.chg hc h2⟩
 obtain⟨cs,e⟩:=aO ho hg
 exact h1 g cs _ e
theorem ConAt.waits{N:Nat}{w:World}{cb:Nat}{g:Cfg}{c:au}{a:aH}(h:ConAt N w cb g c a)(x:Int):ConAt N w cb g {c with waits:=x} a:=⟨h.blk,h.pk,h.smap,h.dmap,h.mp,h.str,h.don,h.ne,h.apart,h.ul⟩
theorem PSrv.last{N:Nat}{w:World}{sb:Nat}{s:ax}{cm:Nat}{wv:Value}{cbs:List Nat}{xs:List aH}{ws:List Nat}(h:PSrv N w sb s cm wv cbs xs ws)(x:Int):PSrv N w sb {s with last:=x} cm wv cbs xs ws:=⟨h.blk,h.map,h.len1,h.len2,h.con,h.row,h.wait,h.apart,h.mne⟩
theorem PSrv.mono{N N':Nat}{w:World}{sb:Nat}{s:ax}{cm:Nat}{wv:Value}{cbs:List Nat}{xs:List aH}{ws:List Nat}(h:PSrv N w sb s cm wv cbs xs ws)(hN:N<=N'):PSrv N' w sb s cm wv cbs xs ws:=by
 obtain⟨n,hn,hm⟩:=h.map
 exact⟨h.blk,⟨n,Nat.le_trans hn hN,hm⟩,h.len1,h.len2,fun i c cb a h1 h2 h3=>(h.con i c cb a h1 h2 h3).mono hN,h.row,h.wait,h.apart,h.mne⟩
def OwnF(sb cm:Nat)(wv:Value)(k:Nat):Prop:=k=sb\/k=cm\/wv.ownBlock=some k
theorem OwnF_not{N:Nat}{w:World}{sb:Nat}{s:ax}{cm:Nat}{wv:Value}{cbs:List Nat}{xs:List aH}{ws:List Nat}(h:PSrv N w sb s cm wv cbs xs ws){k:Nat}{cur:Array Value}{e:TypeId}{fr:Nat×Nat}(hk:w.heap[k]? =some (.cells cur e fr))(h1:e≠101)(h2:e≠97):¬OwnF sb cm wv k:=by
 obtain⟨n0,_,hm0⟩:=h.map
 rintro(e'|e'|e')
 ·subst e'
  have h3:w.heap[k]? =some (.cells (psrvC s.c s.now cm wv) 101 (0,0)):=h.blk
  rw[h3]at hk
  simp only[Option.some.injEq,Obj.cells.injEq]at hk
  exact h1 hk.2.1.symm
 ·subst e'
  obtain⟨es,ck,hb⟩:=hm0.is_map
  rw[hb]at hk
  cases hk
 ·exact ar h.row hk (fun e=>h2 e.symm) e'
theorem PSrv.cons{N:Nat}{w w':World}{sb:Nat}{s:ax}{cm:Nat}{wv:Value}{cbs:List Nat}{xs:List aH}{ws:List Nat}(h:PSrv N w sb s cm wv cbs xs ws)(hc:Chg (OwnF sb cm wv) w w'){i:Nat}{c:au}{cb:Nat}{a:aH}(hi:s.conns[i]? =some c)(hcb:cbs[i]? =some cb)(ha:xs[i]? =some a):ConAt N w' cb s.c c a:=by
 have hD:=h.con i c cb a hi hcb ha
 refine hD.chg hc (fun k hk=>?_) (fun k cur fr hk=>OwnF_not h hk (by decide) (by decide))
 rintro(e|e|e)
 ·subst e
  exact cC hD h.blk (by decide) (by decide) (by decide) (by decide) hk
 ·subst e
  exact h.mne i cb a hcb ha hk
 ·obtain⟨c1,e1⟩:=aO h.row e
  exact cC hD e1 (by decide) (by decide) (by decide) (by decide) hk
theorem PSrv.wlen{N:Nat}{w:World}{sb:Nat}{s:ax}{cm:Nat}{wv:Value}{cbs:List Nat}{xs:List aH}{ws:List Nat}(h:PSrv N w sb s cm wv cbs xs ws):ws.length<=s.conns.length:=by
 obtain⟨cs,⟨ks,h1,_,h3⟩,h4,_⟩:=h.wait
 rw[h4,h3,List.length_map,h1.length_eq]
 unfold bY
 rw[List.length_map]
 exact List.length_filter_le _ _
theorem PSrv.more{N:Nat}{w w':World}{sb:Nat}{s:ax}{cm:Nat}{wv wv':Value}{cbs:List Nat}{xs:List aH}{ws:List Nat}{i:Nat}{c:au}{cb:Nat}{lw:Int}(h:PSrv N w sb s cm wv cbs xs ws)(hi:s.conns[i]? =some c)(hcb:cbs[i]? =some cb)(h0:c.waits<=0)(hl:∀d∈s.conns,d.waits<lw)(hlw:0<lw)
  (hS:SBlk w' sb s.c s.now cm wv') (ho:w'.ownsRow 0 97 1 wv' (ws++[cb]).length (fs (ws++[cb]))) (hc:Chg (fun k=>k=sb\/wv.ownBlock=some k) w w'):
  PSrv N w' sb {s with conns:=s.conns.set i {c with waits:=lw}} cm wv' cbs xs (ws++[cb]):=by
 obtain⟨n,hn,hm⟩:=h.map
 have hcO:Chg (OwnF sb cm wv) w w':=hc.mono fun k _ e=>e.elim Or.inl (fun e=>Or.inr (Or.inr e))
 obtain⟨cs,hw1,hw2,hw3⟩:=h.wait
 have hids:({s with conns:=s.conns.set i {c with waits:=lw}}:ax).conns.map (·.cid)=s.conns.map (·.cid):=map_set_cid hi rfl
 refine⟨hS,⟨n,hn,?_⟩,by simp[h.len1],by simp[h.len2],fun j d db b hj hdb hb=>?_,ho,⟨cs++[c.cid],hw1.more (waitK_set_more (c':={c with waits:=lw}) hi h0 rfl hlw) hl,by simp[hw2],fun j b hb=>?_⟩,h.apart,h.mne⟩
 ·rw[hids]
  refine hm.same (hc.block cm hm.lt ?_)
  obtain⟨es,ck,hb⟩:=hm.is_map
  rintro(e|e)
  ·have h3:w.heap[sb]? =some (.cells (psrvC s.c s.now cm wv) 101 (0,0)):=h.blk
   rw[<-e,hb]at h3
   cases h3
  ·obtain⟨c2,e2⟩:=aO h.row e
   rw[hb]at e2
   cases e2
 ·by_cases hji:j=i
  ·subst hji
   simp only at hj
   rw[aI hi]at hj
   cases hj
   exact(h.cons hcO hi hdb hb).waits _
  ·simp only at hj
   rw[az hji]at hj
   exact h.cons hcO hj hdb hb
 ·rcases Nat.lt_or_ge j ws.length with hj|hj
  ·rw[List.getElem?_append_left hj]at hb
   obtain⟨l,d,h1,h2,h3⟩:=hw3 j b hb
   have hcl:(cs++[c.cid])[j]? =cs[j]?:=List.getElem?_append_left (by rw[<-hw2];exact hj)
   by_cases hli:l=i
   ·subst hli
    rw[hi]at h1
    cases h1
    exact⟨l,_,aI hi,h2,by rw[hcl];exact h3⟩
   ·exact⟨l,d,by simp only;rw[az hli];exact h1,h2,by rw[hcl];exact h3⟩
  ·have hj2:j=ws.length:=by
    have:=(List.getElem?_eq_some_iff.1 hb).1
    simp at this
    omega
   subst hj2
   rw[List.getElem?_append_right (Nat.le_refl _)]at hb
   simp at hb
   subst hb
   exact⟨i,_,aI hi,hcb,by rw[hw2,List.getElem?_append_right (Nat.le_refl _)];simp⟩
theorem SrvF_erase{sb cm:Nat}{wv wv':Value}{cbs:List Nat}{xs:List aH}{i B:Nat}(hwv:wv'.ownBlock=wv.ownBlock\/∀k,wv'.ownBlock=some k->B<=k):∀k,cq sb cm wv' (cbs.eraseIdx i) (xs.eraseIdx i) k->cq sb cm wv cbs xs k\/B<=k:=by
 rintro k (e|e|e|⟨j,db,b,e1,e2,e3⟩)
 ·exact Or.inl (Or.inl e)
 ·exact Or.inl (Or.inr (Or.inl e))
 ·rcases hwv with h|h
  ·rw[h]at e
   exact Or.inl (Or.inr (Or.inr (Or.inl e)))
  ·exact Or.inr (h k e)
 ·rw[erase_at]at e1 e2
  exact Or.inl (fw e1 e2 e3)
theorem SrvF_wv{sb cm:Nat}{wv wv':Value}{cbs:List Nat}{xs:List aH}{B:Nat}(hwv:wv'.ownBlock=wv.ownBlock\/∀k,wv'.ownBlock=some k->B<=k):∀k,cq sb cm wv' cbs xs k->cq sb cm wv cbs xs k\/B<=k:=by
 rintro k (e|e|e|e)
 ·exact Or.inl (Or.inl e)
 ·exact Or.inl (Or.inr (Or.inl e))
 ·rcases hwv with h|h
  ·rw[h]at e
   exact Or.inl (Or.inr (Or.inr (Or.inl e)))
  ·exact Or.inr (h k e)
 ·exact Or.inl (Or.inr (Or.inr (Or.inr e)))
theorem SrvF_own{sb cm:Nat}{wv:Value}{cbs:List Nat}{xs:List aH}{k:Nat}(h:OwnF sb cm wv k):cq sb cm wv cbs xs k:=h.elim Or.inl (fun h=>h.elim (fun h=>Or.inr (Or.inl h)) (fun h=>Or.inr (Or.inr (Or.inl h))))
end Go.Proofs.YthmdjhlhodpbhaaGreatDoor
