/- InOrder, 39 -/
import Derived.Deep.RegionHeld3
import Derived.Test.YthmdjhlhodpbhaaGreatDoorI38
set_option maxHeartbeats 16000000
set_option maxRecDepth 8000
namespace Go.Proofs.YthmdjhlhodpbhaaGreatDoor
open Go.RowKit
theorem DuoOut.pre{w0:World}{B:Nat}{xb sb:Nat}{g:Cfg}{H:Nat->Prop}{w W W':World}{c':aT}{N:Nat}{M L:Int}{s':ax}(h:DuoOut w0 B xb sb g H W W' c' N M L s')(hc:Chg H w W):DuoOut w0 B xb sb g H w W' c' N M L s':=by
 obtain⟨v0,v1,v2,v3,v4,v5,v6,F,h1,h2,h3⟩:=h.ex
 have hs:=hc.size
 exact⟨⟨v0,v1,v2,v3,v4,v5,v6,F,h1,h2,fun k hk=>(h3 k hk).imp id (fun h=>by omega)⟩,hc.trans h.chg⟩
theorem kstep_1{w0:World}{F:Nat->Prop}{N:Nat}{M L:Int}{B:Nat}{w:World}{xb sb:Nat}{g:Cfg}{c:aT}{v0 v1 v2 v3 v4 v5 v6:Value}{s:ax}{j:Nat}{got sent waits Z:Int}(hE:Env w0)(hCl:ClAt B w xb sb g c v0 v1 v2 v3 v4 v5 v6)(hLv:LiveF w0 F N M L w sb s)(hB0:w0.heap.size<=B)(hB:B<=w.heap.size)(hg:bN g)(hsc:s.c=g)(hAt:AtK s j (bp c got sent waits))(hI:KInv g Z c)(hZ:Z<=400000000)(hsl:c.strs.length<=400000000)(hs0:0<c.strs.length)(hol:c.old.length<=900000000)(hM0:0<=M)(hM:M<=90000000000000)(hN:N<=90000000000000)(aa bb cc:Int)(ha:-9223372036854775808<=aa/\aa<=9223372036854775807):
  Calls Tryz.prog 15 #[.pointer (some ⟨xb,0,none⟩),.agg #[.int .i64 1,.int .i64 aa,.int .i64 bb,.int .i64 cc]] w fun e w'=>e=.returned (.tuple #[])/\StepOut w0 B xb sb g (fun k=>F k\/cg xb v0 v1 v2 v3 v4 v5 v6 k) w w' (fA g c 1 aa bb cc) (N+1200) (M+1200) (L+2) j waits (got+sentD c (fA g c 1 aa bb cc)+fI c 1 bb) (sent+heardD g c 1 aa bb):=by
 have hr:=aS aa (n:=(c.strs.length:Int)) (by omega)
 obtain⟨i,hi⟩:∃i:Nat,aM aa c.strs.length=i:=⟨(aM aa c.strs.length).toNat,by omega⟩
 rw[hi]at hr
 obtain⟨k,hk⟩:∃k,c.strs[i]? =some k:=⟨_,List.getElem?_eq_getElem (by omega)⟩
 have hko:=hI.str k (List.mem_of_getElem? hk)
 have hrd:=hko.read
 have hpp:=hko.piece
 have g1:=hg.c1
 have g2:=hg.c2
 have hkh:k.high<=bE c.strs:=sum_mem (fun k:KS=>k.high) (l:=c.strs) (fun x hx=>by have:=(hI.str x hx).read;omega) (List.mem_of_getElem? hk)
 have hhi:=hI.high
 have hba:=af w (.cells #[.int .i64 1,.int .i64 aa,.int .i64 bb,.int .i64 cc] 32)
 have hbx:(w.alloc (.cells #[.int .i64 1,.int .i64 aa,.int .i64 bb,.int .i64 cc] 32)).heap[w.heap.size]? =some (.cells #[.int .i64 1,.int .i64 aa,.int .i64 bb,.int .i64 cc] 32 (0,0)):=heap_alloc_new w _
 have HPa:=ab (fun W=>kpick_q aa c.strs.length W ha (by omega))
 rw[hi]at HPa
 have HSt:=ab (step_is (g:=g) (kd:=1) (bb:=bb) (cc:=cc) hi hk)
 rw[if_neg (by decide),if_pos rfl]at HSt
 generalize hW0:w.alloc (.cells #[.int .i64 1,.int .i64 aa,.int .i64 bb,.int .i64 cc] 32)=W0 at *
 have HW0:=ab hba
 have HC0:=ab (hCl.below hba)
 have HL0:=ab (hLv.below hba)
 obtain⟨os,hC,hos,_⟩:=HC0.out.ex
 obtain⟨b1,c1,rfl,p1,_⟩:=hC.at hk 1 (v:=v1) (f:=(·.high)) rfl rfl
 obtain⟨b2,c2,rfl,p2,z2⟩:=hC.at hk 2 (v:=v2) (f:=(·.fin)) rfl rfl
 have x16:W0.cell? ⟨xb,16,none⟩= some (.slice (some ⟨b2,0,none⟩) c.strs.length c2):=ai hC.blk 16
 have x14:W0.cell? ⟨xb,14,none⟩= some (.int .i64 (c.strs.length:Int)):=ai hC.blk 14
 have x15:W0.cell? ⟨xb,15,none⟩= some (.slice (some ⟨b1,0,none⟩) c.strs.length c1):=ai hC.blk 15
 have s0:W0.cell? ⟨w.heap.size,0,none⟩= some (.int .i64 1):=ai hbx 0
 have s1:W0.cell? ⟨w.heap.size,1,none⟩= some (.int .i64 aa):=ai hbx 1
 have HI:=ab (And.intro hI hk)
 obtain⟨hik0,hik⟩:=hr
 obtain⟨hrd0,hrd1⟩:=hrd
 have hh1:k.high<=400000000:=by omega
 clear hC hos hbx hba hko
 go_enter Tryz.func15,Tryz.ntmps15
 go_wp2_with fail
 go_quiet ((go_at_call 19;exact Calls.quiet_of_same (HPa.out _)))
 clear HPa
 have hbW1:Below W0.heap.size W0 (W0.drewN nq):=aj (Below.refl _ _) nq
 have t0:=ae s0 hbW1
 have t15:=ae x15 hbW1
 have t16:=ae x16 hbW1
 have t1:=ae p1 hbW1
 have t2:=ae p2 hbW1
 have z2':∀q,(W0.drewN nq).frozen? ⟨b2,q,none⟩= false:=z2
 have HB1:=ab hbW1
 have HC1:=ab (HC0.out.below hbW1)
 have HL1:=ab (HL0.out.below hbW1)
 clear hbW1 s0 s1 x14 x15 x16 p1 p2 z2 HC0 HL0
 generalize W0.drewN nq=W1 at *
 by_cases hfn:k.fin<0
 ·have HS2:=HSt.out
  rw[if_pos hfn]at HS2
  have HS3:=ab HS2
  have hf1:k.fin = -1:=by
   rcases(HI.out.1.str k (List.mem_of_getElem? HI.out.2)).fin with e|e<;>omega
  obtain⟨q1,q2⟩:=frameW_piece (k:=4) (st:=i) (fr:=k.high) (tt:=k.high) (Or.inr rfl) (by omega) (by omega) (by omega)
  have hd:=deal_end hg (HI.out.1.str k (List.mem_of_getElem? HI.out.2)) (i:=i) (credit:=c.credit) (H:=bE c.strs) hf1 HI.out.1.sum
  rw[<-hsc]at hd
  obtain⟨got1,hgot,hrecv⟩:=send_frame hAt q1 q2 (Or.inr (Or.inl rfl)) (i:=i) (k:=k) rfl HI.out.2 hd (by omega)
  have HRv:=ab hrecv
  have HGt:=ab hgot
  clear hgot
  obtain⟨e1,e2⟩:=HC1.out.put (j:=2) (i:=i) (f:=(·.fin)) (k':={k with fin:=k.high}) (m:=k.high) rfl (fun _=>rfl) (fun _=>rowsK_fin HI.out.2)
  have HC2:Hid (ClAt B (W1.setCell ⟨b2,i,none⟩ (.int .i64 k.high)).drew xb sb g {c with strs:=c.strs.set i {k with fin:=k.high}} v0 (.slice (some ⟨b1,0,none⟩) c.strs.length c1) (.slice (some ⟨b2,0,none⟩) c.strs.length c2) v3 v4 v5 v6):=e1.below (aj (Below.refl _ _) 1)
  obtain⟨osx,hCx,_,_⟩:=HC1.out.ex
  have HL2:Hid (LiveF w0 F N M L (W1.setCell ⟨b2,i,none⟩ (.int .i64 k.high)).drew sb s):=(HL1.out.cli hCx e2 hB0).below (aj (Below.refl _ _) 1)
  have HE2:Hid (Chg (cg xb v0 (.slice (some ⟨b1,0,none⟩) c.strs.length c1) (.slice (some ⟨b2,0,none⟩) c.strs.length c2) v3 v4 v5 v6) W1 (W1.setCell ⟨b2,i,none⟩ (.int .i64 k.high)).drew):=e2.trans (Chg.of_below (aj (Below.refl _ _) 1))
  have HAt:=ab hAt
  have HSc:=ab hsc
  clear HS2 q1 q2 hd hrecv hAt hsc e1 e2 hCx
  go_wp2_with fail
  go_region
  generalize (W1.setCell ⟨b2,i,none⟩ (.int .i64 k.high)).drew=W2 at *
  obtain⟨os2,hC2,_,_⟩:=HC2.out.ex
  have hk2:({c with strs:=c.strs.set i {k with fin:=k.high}}:aT).strs[i]? =some {k with fin:=k.high}:=List.getElem?_set_self (List.getElem?_eq_some_iff.1 HI.out.2).1
  obtain⟨b5,c5,e5,p5,_⟩:=hC2.at hk2 1 (f:=(·.high)) rfl rfl
  simp only[Value.slice.injEq,Option.some.injEq,Addr.mk.injEq,and_true]at e5
  obtain⟨rfl,he5,rfl⟩:=e5
  clear he5
  have y15:W2.cell? ⟨xb,15,none⟩= some (.slice (some ⟨b1,0,none⟩) c.strs.length c1):=ai hC2.blk 15
  have y1:W2.cell? ⟨b1,i,none⟩= some (.int .i64 k.high):=p5
  have d15:W2.drew.cell? ⟨xb,15,none⟩= some (.slice (some ⟨b1,0,none⟩) c.strs.length c1):=y15
  have d1:W2.drew.cell? ⟨b1,i,none⟩= some (.int .i64 k.high):=y1
  have HPi:=ab (fun W=>kpieceW_rd 4 i k.high k.high W (by decide) (by omega) (by omega) (by omega) (by omega))
  have hpl:=pieceW_len (k:=4) (st:=i) (fr:=k.high) (tt:=k.high) (by omega)
  have hsz2:W1.heap.size<=W2.heap.size:=HE2.out.size
  have hsz1:W0.heap.size<=W1.heap.size:=HB1.out.size
  have hsz0:w.heap.size<=W0.heap.size:=HW0.out.size
  obtain⟨cN,hcN⟩:∃cN:aT,{c with strs:=c.strs.set i {k with fin:=k.high},old:=c.old++[cO 4 i k.high k.high]}=cN:=⟨_,rfl⟩
  obtain⟨sN,hsN⟩:∃sN:ax,{s with conns:=s.conns.set j (bp {c with strs:=c.strs.set i {k with fin:=k.high},old:=c.old++[cO 4 i k.high k.high]} got1 sent waits)}=sN:=⟨_,rfl⟩
  have HSe:Hid (∀(W:World),Below W2.heap.size W2 W->∀fa fl fc,RdB W (.slice fa fl fc) (cO 4 i k.high k.high)->Calls Tryz.prog 39 #[.pointer (some ⟨xb,0,none⟩),.slice fa fl fc] W fun e w'=>e=.returned (.tuple #[])/\Hid (SendOut w0 B xb sb g F v0 (.slice (some ⟨b1,0,none⟩) c.strs.length c1) (.slice (some ⟨b2,0,none⟩) c.strs.length c2) v3 v4 v5 v6 W w' cN (N+1200) (M+1200) (L+2) sN)/\w'.cell? ⟨xb,15,none⟩= some (.slice (some ⟨b1,0,none⟩) c.strs.length c1)/\w'.cell? ⟨b1,i,none⟩= some (.int .i64 k.high)):=by
   intro W hW fa fl fc hfv
   have hsw:=hW.size
   refine(ksends_x (w:=W) hE (HC2.out.below hW) (HL2.out.below hW) hB0 (by omega) hfv (by omega) (show c.old.length<=1000000000 by omega) (by rw[HRv.out]) hM0 (by omega) (by omega)).mono ?_
   rintro e w' ⟨rfl,hso⟩
   rw[HRv.out]at hso
   obtain⟨u6,F',h1,_,_⟩:=hso.ex
   obtain⟨os6,hC6,_,_⟩:=h1.ex
   obtain⟨b6,c6,e6,p6,_⟩:=hC6.at (i:=i) (k:={k with fin:=k.high}) hk2 1 (f:=(·.high)) rfl rfl
   simp only[Value.slice.injEq,Option.some.injEq,Addr.mk.injEq,and_true]at e6
   obtain⟨rfl,_,rfl⟩:=e6
   exact⟨rfl,hcN▸hsN▸hso,ai hC6.blk 15,p6⟩
  have HCN:=ab hcN
  have HSN:=ab hsN
  have HY:=ab (And.intro HAt.out (And.intro HS3.out HSc.out))
  clear hC2 hk2 p5 hpl HRv HC2 HL2 HC1 HL1 hcN hsN hf1 HAt HS3 HSc hCl hLv hfn t0 t15 t16 t1 t2 z2'
  clear hW0 hk hi hI HSt ha hg hpp g1 g2 hkh hhi
  go_wp2_with fail
  go_region_held3 (fun w'=>w'.cell? ⟨xb,15,none⟩= some (.slice (some ⟨b1,0,none⟩) c.strs.length c1)/\w'.cell? ⟨b1,i,none⟩= some (.int .i64 k.high)) (first|with_reducible assumption|go_keep) (first
   |(go_at_call 23;refine(HPi.out _).mono ?_;rintro e W4 ⟨pa,pl,pc2,rfl,hpo,hb4⟩;have k4a:=ae y15 (al hb4);have k4b:=ae y1 (al hb4))
   |(go_at_call 39;refine(HSe.out W4 (al hb4) _ _ _ hpo).mono ?_;rintro e W5 ⟨rfl,hso,k5a,k5b⟩))
  have HB4:=ab (al hb4)
  clear hpo hb4 k4a k4b HSe HPi
  go_wp2_with fail
  go_end0
  have h9:=HY.out.1.set (c':=bp {c with strs:=c.strs.set i {k with fin:=k.high},old:=c.old++[cO 4 i k.high k.high]} got1 sent waits) rfl
  have hd:=hso.out.duo.pre (w:=w) (((Chg.of_below (ag HW0.out HB1.out)).trans (HE2.out.mono (fun _ _ h=>Or.inr h))).trans (Chg.of_below HB4.out))
  rw[<-HCN.out,<-HSN.out]at hd
  rw[HY.out.2.1]
  exact⟨rfl,{s with conns:=s.conns.set j (bp {c with strs:=c.strs.set i {k with fin:=k.high},old:=c.old++[cO 4 i k.high k.high]} got1 sent waits)},got1,sent,hd,h9,HY.out.2.2,gs_snoc (by decide) HGt.out rfl,fV (by decide)⟩
 ·have HS2:=HSt.out
  rw[if_neg hfn]at HS2
  have HS3:=ab HS2
  clear HS2
  go_wp2_with fail
  go_end0
  rw[HS3.out]
  exact⟨rfl,s,got,sent,((DuoOut.same hCl hLv (ag HW0.out HB1.out)).mono (by omega) (by omega) (by omega)),hAt,hsc,gs_same (by decide) rfl,fV (by decide)⟩
theorem MoreF.mono{w0:World}{F:Nat->Prop}{N N':Nat}{M M' L L':Int}{w w':World}{sb:Nat}{s:ax}(h:MoreF w0 F N M L w w' sb s)(h1:N<=N')(h2:M<=M')(h3:L<=L'):MoreF w0 F N' M' L' w w' sb s:=by
 obtain⟨F',h4,h5⟩:=h.ex
 exact⟨⟨F',h4.mono h1 h2 h3,h5⟩,h.chg⟩
theorem ClAt.srv{B:Nat}{w w':World}{xb sb:Nat}{g:Cfg}{c:aT}{v0 v1 v2 v3 v4 v5 v6:Value}(h:ClAt B w xb sb g c v0 v1 v2 v3 v4 v5 v6){w0:World}{F:Nat->Prop}{N:Nat}{M L:Int}{sb':Nat}{s:ax}(hL:LiveF w0 F N M L w sb' s)(hc:Chg F w w'):ClAt B w' xb sb g c v0 v1 v2 v3 v4 v5 v6:=by
 obtain⟨os,h1,h2,h3⟩:=h.ex
 exact⟨os,h1.srv hL hc,h2,fun q v fr hv hf=>⟨(h3 q v fr hv hf).1.srv hL hc,(h3 q v fr hv hf).2⟩⟩
theorem ClAt.okay{B:Nat}{w:World}{xb sb:Nat}{g:Cfg}{c:aT}{v0 v1 v2 v3 v4 v5 v6:Value}(h:ClAt B w xb sb g c v0 v1 v2 v3 v4 v5 v6):ClAt B (w.setCell ⟨xb,11,none⟩ (.bool true)) xb sb g c v0 v1 v2 v3 v4 v5 v6/\Chg (cg xb v0 v1 v2 v3 v4 v5 v6) w (w.setCell ⟨xb,11,none⟩ (.bool true)):=by
 obtain⟨os,h1,h2,h3⟩:=h.ex
 have hc:Chg (cg xb v0 v1 v2 v3 v4 v5 v6) w (w.setCell ⟨xb,11,none⟩ (.bool true)):=(eR w xb 11 _).mono (fun _ _ e=>Or.inl e)
 exact⟨⟨os,h1.scal 11 (.bool true) rfl,h2,fun q v fr hv hf=>⟨(h3 q v fr hv hf).1.cli h1 hc,(h3 q v fr hv hf).2⟩⟩,hc⟩
theorem ClAt.oldAt{B:Nat}{w:World}{xb sb:Nat}{g:Cfg}{c:aT}{v0 v1 v2 v3 v4 v5:Value}{ob p cp:Nat}(h:ClAt B w xb sb g c v0 v1 v2 v3 v4 v5 (.slice (some ⟨ob,0,none⟩) p cp)){q:Nat}{fq:List Int}(hq:c.old[q]? =some fq):∃pa pc,w.cell? ⟨ob,q,none⟩= some (.slice pa (bL 300 q fq).length pc)/\RdB w (.slice pa (bL 300 q fq).length pc) (bL 300 q fq)/\fq.length<=1000:=by
 obtain⟨os,hC,hl,ho⟩:=h.ex
 have hlt:=(List.getElem?_eq_some_iff.1 hq).1
 obtain⟨ov,hov⟩:∃ov,os[q]? =some ov:=⟨_,List.getElem?_eq_getElem (by omega)⟩
 obtain⟨hrd,hfl⟩:=ho q ov fq hov hq
 have ho6:=hC.rows.own 6 _ (44,os) rfl rfl
 obtain⟨_,_,pa,pc,hpe,_⟩:=id hrd
 subst hpe
 refine⟨pa,pc,?_,hrd,hfl⟩
 obtain⟨_,cc,e⟩:=aF ho6
 simp only[Value.slice.injEq]at e
 obtain⟨_,rfl,_⟩:=e
 rw[ho6.cellAt q (by omega)]
 exact hov
theorem kstep_2{w0:World}{F:Nat->Prop}{N:Nat}{M L:Int}{B:Nat}{w:World}{xb sb:Nat}{g:Cfg}{c:aT}{v0 v1 v2 v3 v4 v5 v6:Value}{s:ax}{j:Nat}{got sent waits Z:Int}(hE:Env w0)(hCl:ClAt B w xb sb g c v0 v1 v2 v3 v4 v5 v6)(hLv:LiveF w0 F N M L w sb s)(hB0:w0.heap.size<=B)(hg:bN g)(hsc:s.c=g)(hAt:AtK s j (bp c got sent waits))(hI:KInv g Z c)(hZ:Z<=400000000)(hsl:c.strs.length<=400000000)(hs0:0<c.strs.length)(hol:c.old.length<=900000000)(hM0:0<=M)(hM:M<=90000000000000)(hN:N<=90000000000000)(aa bb cc:Int)(ha:-9223372036854775808<=aa/\aa<=9223372036854775807)(hb:-9223372036854775808<=bb/\bb<=9223372036854775807):
  Calls Tryz.prog 15 #[.pointer (some ⟨xb,0,none⟩),.agg #[.int .i64 2,.int .i64 aa,.int .i64 bb,.int .i64 cc]] w fun e w'=>e=.returned (.tuple #[])/\StepOut w0 B xb sb g (fun k=>F k\/cg xb v0 v1 v2 v3 v4 v5 v6 k) w w' (fA g c 2 aa bb cc) (N+1200) (M+1200) (L+2) j waits (got+sentD c (fA g c 2 aa bb cc)+fI c 2 bb) (sent+heardD g c 2 aa bb):=by
 have hr:=aS aa (n:=(c.strs.length:Int)) (by omega)
 obtain⟨i,hi⟩:∃i:Nat,aM aa c.strs.length=i:=⟨(aM aa c.strs.length).toNat,by omega⟩
 rw[hi]at hr
 obtain⟨k,hk⟩:∃k,c.strs[i]? =some k:=⟨_,List.getElem?_eq_getElem (by omega)⟩
 have hko:=hI.str k (List.mem_of_getElem? hk)
 have hrd:=hko.read
 have hpp:=hko.piece
 have g1:=hg.c1
 have g2:=hg.c2
 have hkh:k.high<=bE c.strs:=sum_mem (fun k:KS=>k.high) (l:=c.strs) (fun x hx=>by have:=(hI.str x hx).read;omega) (List.mem_of_getElem? hk)
 have hhi:=hI.high
 have hba:=af w (.cells #[.int .i64 2,.int .i64 aa,.int .i64 bb,.int .i64 cc] 32)
 have hbx:(w.alloc (.cells #[.int .i64 2,.int .i64 aa,.int .i64 bb,.int .i64 cc] 32)).heap[w.heap.size]? =some (.cells #[.int .i64 2,.int .i64 aa,.int .i64 bb,.int .i64 cc] 32 (0,0)):=heap_alloc_new w _
 have HPa:=ab (fun W=>kpick_q aa c.strs.length W ha (by omega))
 rw[hi]at HPa
 have HSt:=ab (step_is (g:=g) (kd:=2) (bb:=bb) (cc:=cc) hi hk)
 rw[if_neg (by decide),if_neg (by decide),if_pos rfl]at HSt
 generalize hW0:w.alloc (.cells #[.int .i64 2,.int .i64 aa,.int .i64 bb,.int .i64 cc] 32)=W0 at *
 have HW0:=ab hba
 have HC0:=ab (hCl.below hba)
 have HL0:=ab (hLv.below hba)
 obtain⟨os,hC,hos,_⟩:=HC0.out.ex
 obtain⟨oa,ocp,e6⟩:∃a cp,v6=.slice a c.old.length cp:=by
  rw[<-hos]
  exact aF (hC.rows.own 6 v6 (44,os) rfl rfl)
 subst e6
 have x21:W0.cell? ⟨xb,21,none⟩= some (.slice oa c.old.length ocp):=ai hC.blk 21
 have x14:W0.cell? ⟨xb,14,none⟩= some (.int .i64 (c.strs.length:Int)):=ai hC.blk 14
 have s0:W0.cell? ⟨w.heap.size,0,none⟩= some (.int .i64 2):=ai hbx 0
 have s1:W0.cell? ⟨w.heap.size,1,none⟩= some (.int .i64 aa):=ai hbx 1
 have s2:W0.cell? ⟨w.heap.size,2,none⟩= some (.int .i64 bb):=ai hbx 2
 have HI:=ab (And.intro hI hk)
 obtain⟨hik0,hik⟩:=hr
 obtain⟨hrd0,hrd1⟩:=hrd
 have hh1:k.high<=400000000:=by omega
 have HBx:=ab hbx
 clear hC hos hbx hba hko
 go_enter Tryz.func15,Tryz.ntmps15
 go_wp2_with fail
 go_quiet ((go_at_call 19;exact Calls.quiet_of_same (HPa.out _)))
 clear HPa
 have hbW1:Below W0.heap.size W0 (W0.drewN nq):=aj (Below.refl _ _) nq
 have t0:=ae s0 hbW1
 have t2:=ae s2 hbW1
 have t21:=ae x21 hbW1
 have HB1:=ab hbW1
 have HC1:=ab (HC0.out.below hbW1)
 have HL1:=ab (HL0.out.below hbW1)
 clear hbW1 s0 s1 s2 x14 x21 HC0 HL0
 generalize W0.drewN nq=W1 at *
 have hsz1:W0.heap.size<=W1.heap.size:=HB1.out.size
 have hsz0:w.heap.size<=W0.heap.size:=HW0.out.size
 by_cases hpn:0<c.old.length
 ·have hrq:=aS bb (n:=(c.old.length:Int)) (by omega)
  obtain⟨q,hq⟩:∃q:Nat,aM bb c.old.length=q:=⟨(aM bb c.old.length).toNat,by omega⟩
  have HPb:=ab (fun W=>kpick_q bb c.old.length W hb (by omega))
  rw[hq]at hrq HPb
  obtain⟨os1,hC1,hos1,_⟩:=HC1.out.ex
  obtain⟨fq,hfq⟩:∃fq,c.old[q]? =some fq:=⟨_,List.getElem?_eq_getElem (by omega)⟩
  have ho6:=hC1.rows.own 6 (.slice oa c.old.length ocp) (44,os1) rfl rfl
  simp only[hos1]at ho6
  obtain⟨ob,ocp',e6,_,_,_⟩:=cV ho6 (by omega)
  simp only[Value.slice.injEq,true_and]at e6
  obtain⟨rfl,rfl⟩:=e6
  obtain⟨pa,pc,hcell,hrd,hfl⟩:=HC1.out.oldAt hfq
  have hdl:(bL 300 q fq).length<=1020:=by
   have k1:=aV 300
   have k2:=aV (q:Int)
   simp only[bL,List.length_append,List.length_cons,List.length_nil]
   omega
  obtain⟨got1,hgot,hrecv⟩:=send_old hAt (q:=q) (by omega) fq (by omega)
  have x0:W1.cell? ⟨xb,0,none⟩= some (.pointer (some ⟨sb,0,none⟩)):=ai hC1.blk 0
  obtain⟨sN,hsN⟩:∃sN:ax,{s with conns:=s.conns.set j (bp c got1 sent waits)}=sN:=⟨_,rfl⟩
  rw[hsN]at hrecv
  have HFq:=ab hfq
  have HGt:Hid (got1=got+sentD c c+fI c 2 bb):=ab (gs_again hq hfq hgot rfl)
  clear hgot
  have HBx1:=ab (eE HBx.out HB1.out)
  obtain⟨dn,hdn⟩:∃dn,(bL 300 q fq).length=dn:=⟨_,rfl⟩
  have HRc:Hid (∀(W:World),Below W1.heap.size W1 W->Calls Tryz.prog 20 #[.pointer (some ⟨sb,0,none⟩),.int .i64 1,.slice pa dn pc] W fun e w'=>∃ra rc,e=.returned (.slice ra 0 rc)/\Hid (ClAt B w' xb sb g c v0 v1 v2 v3 v4 v5 (.slice (some ⟨ob,0,none⟩) c.old.length ocp)/\MoreF w0 F (N+1200) (M+1200) (L+2) W w' sb sN)/\(w'.cell? ⟨xb,0,none⟩= some (.pointer (some ⟨sb,0,none⟩))/\w'.cell? ⟨xb,21,none⟩= some (.slice (some ⟨ob,0,none⟩) c.old.length ocp)/\w'.cell? ⟨w.heap.size,2,none⟩= some (.int .i64 bb)/\w'.cell? ⟨ob,q,none⟩= some (.slice pa dn pc))/\w'.cell? ⟨xb,11,none⟩= some (.bool true)/\∀q,w'.frozen? ⟨xb,q,none⟩= false):=by
   intro W hW
   have hLW:=HL1.out.below hW
   have hCW:=HC1.out.below hW
   have hrdW:=hrd.below hW
   rw[hdn]at hrdW
   refine(hLW.receive hE 1 hrdW (by omega) hM0 (by omega) (by omega)).mono ?_
   rintro e w' ⟨⟨v,rfl,ho⟩,hmo⟩
   rw[hrecv]at ho hmo
   obtain⟨ra,rc,e2⟩:=ho.form
   have hC2:=hCW.srv hLW hmo.chg
   obtain⟨os2,hCb2,_,_⟩:=hC2.ex
   have hbw:=eE HBx1.out hW
   have hbx2:w'.heap[w.heap.size]? =some (.cells #[.int .i64 2,.int .i64 aa,.int .i64 bb,.int .i64 cc] 32 (0,0)):=by
    rw[hmo.chg.block w.heap.size (Array.getElem?_eq_some_iff.1 hbw).1 (fun e=>(hLW.ty _ e).not hbw (by simp[SrvT]))]
    exact hbw
   have hcellW:=ae hcell hW
   have hc6:w'.cell? ⟨ob,q,none⟩= some (.slice pa dn pc):=by
    have hob:∃cur,W.heap[ob]? =some (.cells cur 44 (0,0)):=own_block (aD ho6 hW) rfl
    obtain⟨cur,hob⟩:=hob
    rw[<-hdn]
    refine(World.cell?_of_block (hmo.chg.block ob (Array.getElem?_eq_some_iff.1 hob).1 (fun e=>(hLW.ty _ e).not hob (by simp[SrvT])))).trans hcellW
   exact⟨ra,rc,by rw[e2];rfl,⟨hC2,hmo.mono (by omega) (by omega) (by omega)⟩,⟨ai hCb2.blk 0,ai hCb2.blk 21,ai hbx2 2,hc6⟩,ai hCb2.blk 11,eS hCb2⟩
  rw[hdn]at hcell
  have HSN:=ab hsN
  have HY:=ab (And.intro hAt (And.intro HSt.out hsc))
  obtain⟨hrq0,hrq1⟩:=hrq
  have d0:W1.drew.cell? ⟨xb,0,none⟩= some (.pointer (some ⟨sb,0,none⟩)):=x0
  have d21:W1.drew.cell? ⟨xb,21,none⟩= some (.slice (some ⟨ob,0,none⟩) c.old.length ocp):=t21
  have d2:W1.drew.cell? ⟨w.heap.size,2,none⟩= some (.int .i64 bb):=t2
  have dq:W1.drew.cell? ⟨ob,q,none⟩= some (.slice pa dn pc):=hcell
  clear hrd hdl hdn hrecv hsN hC1 ho6 hos1 hfq hAt hsc HSt hCl hLv hW0 hk hi hI hq HC1 hfl
  go_wp2_with fail
  go_region_held3 (fun w'=>w'.cell? ⟨xb,0,none⟩= some (.pointer (some ⟨sb,0,none⟩))/\w'.cell? ⟨xb,21,none⟩= some (.slice (some ⟨ob,0,none⟩) c.old.length ocp)/\w'.cell? ⟨w.heap.size,2,none⟩= some (.int .i64 bb)/\w'.cell? ⟨ob,q,none⟩= some (.slice pa dn pc)) (first|with_reducible assumption|go_keep) (first
   |(go_at_call 19;refine(HPb.out _).mono ?_;rintro e W4 ⟨rfl,rfl⟩)
   |(go_at_call 20;refine(HRc.out _ (aj (Below.refl _ W1) 1)).mono ?_;rintro e W5 ⟨ra,rc,rfl,HM5,⟨k50,k51,k52,k53⟩,k511,z5⟩))
  clear HRc HPb d0 d21 d2 dq x0 t21 t2 t0 hcell
  go_wp2_with fail
  go_end0
  obtain⟨hc5,hm5⟩:=HM5.out
  obtain⟨F',hL5,hin5⟩:=hm5.ex
  obtain⟨e1,e2⟩:=hc5.okay
  have hb5:Below w.heap.size w (W1.drewN 1):=ag (ag HW0.out HB1.out) (aj (Below.refl _ W1) 1)
  have hch:Chg (fun k=>F k\/cg xb v0 v1 v2 v3 v4 v5 (.slice (some ⟨ob,0,none⟩) c.old.length ocp) k) w W5:=(Chg.of_below hb5).trans (hm5.chg.mono (fun _ _ h=>Or.inl h))
  have hs5:=hb5.size
  have e3:=duo_then hc5 hL5 (fun k hk=>by
   rcases hk with hk|hk
   ·rcases hin5 k hk with h1|h1
    ·exact Or.inl (Or.inl h1)
    ·exact Or.inr (Nat.le_trans hs5 h1)
   ·exact Or.inl (Or.inr hk)) hch hB0 e1 e2 (fun _ h=>Or.inl h)
  rw[<-HSN.out]at e3
  rw[HY.out.2.1]
  exact⟨rfl,{s with conns:=s.conns.set j (bp c got1 sent waits)},got1,sent,e3,HY.out.1.set rfl,HY.out.2.2,HGt.out,fV (by decide)⟩
 ·have hpn':¬(0:Int)<(c.old.length:Int):=by omega
  go_wp2_with fail
  go_end0
  rw[HSt.out]
  exact⟨rfl,s,got,sent,((DuoOut.same hCl hLv (ag HW0.out HB1.out)).mono (by omega) (by omega) (by omega)),hAt,hsc,gs_none hpn rfl,fV (by decide)⟩
theorem fullL_letters(st fr:Int)(n:Nat):fullL (aP st fr n)=n:=by
 unfold fullL
 rw[List.countP_eq_length.2 (fun x hx=>by simpa using fX st fr n x hx),bH]
theorem buf_K{g:Cfg}{l:List KS}(h:∀k∈l,KsOk g k):bufS (du l)=bE l-readK l:=by
 have e:(du l).map (fun x=>(fullL x.bytes:Int))=l.map (fun k=>k.high-k.read):=by
  unfold du
  apply List.ext_getElem?
  intro i
  simp only[List.getElem?_map,List.getElem?_mapIdx]
  cases hk:l[i]? with
  |none=>rfl
  |some k=>
   have hr:=(h k (List.mem_of_getElem? hk)).read
   simp only[Option.map_some,bZ,fullL_letters]
   congr 1
   omega
 unfold bufS
 rw[e]
 clear e h
 unfold bE readK
 induction l with
 |nil=>rfl
 |cons a t ih=>
  simp only[List.map_cons,List.sum_cons]
  omega
theorem buf_le{g:Cfg}{Z:Int}{c:aT}(h:KInv g Z c):0<=bufS (du c.strs)/\bufS (du c.strs)<=g.c1:=by
 have h1:=h.sum
 have h2:=h.fol
 have h3:=readK_le h.str
 rw[buf_K h.str]
 omega
theorem one_le{g:Cfg}{Z:Int}{c:aT}(h:KInv g Z c){i:Nat}{k:KS}(hk:c.strs[i]? =some k):k.high-k.read<=g.c1:=by
 have h1:=h.sum
 have h2:=h.fol
 have h3:k.high-k.read<=(c.strs.map fun k:KS=>k.high-k.read).sum:=sum_mem (fun k:KS=>k.high-k.read) (l:=c.strs) (fun x hx=>by have:=(h.str x hx).read;omega) (List.mem_of_getElem? hk)
 have h4:(c.strs.map fun k:KS=>k.high-k.read).sum=bE c.strs-readK c.strs:=by
  unfold bE readK
  induction c.strs with
  |nil=>rfl
  |cons a t ih=>
   simp only[List.map_cons,List.sum_cons]
   omega
 omega
theorem look_K{s:ax}{j:Nat}{c:au}(h:AtK s j c):lookS s 300=(lookC c,0):=by
 unfold lookS
 rw[h.find]
 simp only[h.at_]
def cli0(g:Cfg):aT:=⟨g.c1,List.replicate g.c3.toNat (di g.c2),[]⟩
theorem con0(g:Cfg)(got sent:Int):conA g got sent [] (List.replicate g.c3.toNat (aX g.c2))=bp (cli0 g) got sent 1:=by
 have e:du (List.replicate g.c3.toNat (di g.c2))=List.replicate g.c3.toNat (aX g.c2):=by
  apply List.ext_getElem?
  intro i
  rw[strsK_get,List.getElem?_replicate,List.getElem?_replicate]
  split
  ·simp[strK_new]
  ·rfl
 unfold conA bp cli0
 simp only[e]
 rfl
theorem at0(g:Cfg)(got sent:Int):AtK (srvA g (conA g got sent [] (List.replicate g.c3.toNat (aX g.c2)))) 0 (bp (cli0 g) got sent 1):=by
 rw[con0]
 exact⟨srvA_found g _ rfl,rfl,rfl⟩
theorem inv0{g:Cfg}(hg:bN g):KInv g 0 (cli0 g):=by
 have h2:=hg.c2
 have h1:=hg.c1
 have e1:∀n:Nat,bE (List.replicate n (di g.c2))=0:=by
  intro n
  unfold bE
  induction n with
  |zero=>rfl
  |succ n ih=>rw[List.replicate_succ,List.map_cons,List.sum_cons,ih];rfl
 have e2:∀n:Nat,readK (List.replicate n (di g.c2))=0:=by
  intro n
  unfold readK
  induction n with
  |zero=>rfl
  |succ n ih=>rw[List.replicate_succ,List.map_cons,List.sum_cons,ih];rfl
 refine⟨fun k hk=>?_,?_,?_,?_,?_⟩
 ·obtain rfl:=List.eq_of_mem_replicate hk
  exact⟨by simp[di],by simp[di];omega,Or.inl rfl,fun e=>by simp[di]at e⟩
 ·simp only[cli0,e1];omega
 ·simp only[cli0,e2];omega
 ·simp only[cli0];omega
 ·simp only[cli0,e1];omega
theorem rows_nil(B:Nat)(w:World):RowsAt B w [.slice none 0 0,.slice none 0 0,.slice none 0 0,.slice none 0 0,.slice none 0 0,.slice none 0 0,.slice none 0 0] (bK [] []):=by
 refine⟨rfl,fun i v t hv ht=>?_,fun i j v u g _ hv _ hg=>?_⟩
 ·have hv':v=.slice none 0 0:=by
   have:=List.mem_of_getElem? hv
   simpa using this
  have ht':t.2=[]:=by
   have:=List.mem_of_getElem? ht
   simp only[bK,KI,KB,fL,List.map_nil,List.mem_cons,List.not_mem_nil,or_false]at this
   rcases this with rfl|rfl|rfl|rfl|rfl|rfl|rfl<;>rfl
  subst hv'
  rw[ht']
  exact World.ownsRow_nil _ _ _ _
 ·have hv':v=.slice none 0 0:=by
   have:=List.mem_of_getElem? hv
   simpa using this
  subst hv'
  cases hg
theorem cli_made{w:World}{xb sb:Nat}{g:Cfg}(hg:bN g)(B:Nat)(hB:B<=xb)(h:w.heap[xb]? =some (.cells (clientC sb g) 42 (0,0))):ClB B w xb sb g true g.c1 g.c3.toNat 0 (.slice none 0 0) (.slice none 0 0) (.slice none 0 0) (.slice none 0 0) (.slice none 0 0) (.slice none 0 0) (.slice none 0 0) (bK [] []):=by
 have h3:=hg.c3
 refine⟨?_,rows_nil B w,rowsK_ty [] [],hB⟩
 rw[h,Int.toNat_of_nonneg (by omega)]
 rfl
theorem kstreams_0{w:World}{xb sb:Nat}{g:Cfg}(hg:bN g)(B:Nat)(hB:B<=xb)(hBw:B<=w.heap.size)(h:w.heap[xb]? =some (.cells (clientC sb g) 42 (0,0))):
  Calls Tryz.prog 14 #[.pointer (some ⟨xb,0,none⟩)] w fun e w'=>e=.returned (.tuple #[])/\∃u0 u1 u2 u3 u4 u5,ClAt B w' xb sb g (cli0 g) u0 u1 u2 u3 u4 u5 (.slice none 0 0)/\Chg (fun k=>k=xb) w w'/\∀k,cg xb u0 u1 u2 u3 u4 u5 (.slice none 0 0) k->k=xb\/w.heap.size<=k:=by
 have h3:=hg.c3
 have hnil:∀k,cg xb (.slice none 0 0) (.slice none 0 0) (.slice none 0 0) (.slice none 0 0) (.slice none 0 0) (.slice none 0 0) (.slice none 0 0) k->k=xb:=by
  intro k hk
  rcases hk with e|⟨v,hv,hg⟩
  ·exact e
  ·have hv':v=.slice none 0 0:=by simpa using hv
   subst hv'
   cases hg
 refine(kstreams_any (cli_made hg B hB h) (by simp) (by omega) hBw).mono ?_
 rintro e w' ⟨rfl,u0,u1,u2,u3,u4,u5,h1,h2,h4⟩
 refine⟨rfl,u0,u1,u2,u3,u4,u5,⟨[],?_,rfl,fun q v fr hv=>by simp at hv⟩,h2.mono (fun k _ hk=>hnil k hk),fun k hk=>(h4 k hk).imp (hnil k) id⟩
 have e:([]:List KS)++List.replicate (g.c3.toNat-([]:List KS).length) (di g.c2)=(cli0 g).strs:=by simp[cli0]
 rw[e]at h1
 have e2:(((cli0 g).strs.length:Nat):Int)=(g.c3.toNat:Int):=by simp[cli0]
 rw[e2]
 exact h1
end Go.Proofs.YthmdjhlhodpbhaaGreatDoor
