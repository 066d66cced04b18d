/- Apart, 41 -/
import Derived.Deep.RegionHeld3
import Derived.Deep.LoopGhost
import Derived.BigRegion
import Derived.Test.YthmdjhlhodpbhaaGreatDoorA04
import Derived.Test.YthmdjhlhodpbhaaGreatDoorA40
import Derived.Test.YthmdjhlhodpbhaaGreatDoorRows
set_option maxHeartbeats 16000000
set_option maxRecDepth 8000
namespace Go.Proofs.YthmdjhlhodpbhaaGreatDoor
open Go.RowKit
theorem kstep_r [LoM] {w0:World}{F:Nat->Prop}{N:Nat}{M L:Int}{B:Nat}{w:World}{xb sb:Nat}{g:Cfg}{c:aY}{v0 v1 v2 v3 v4 v5 v6:Value}{s:ay}{j:Nat}{got sent waits Z:Int}(hE:Env w0)(hCl:ClAt B w xb sb g c v0 v1 v2 v3 v4 v5 v6)(hLv:LiveF w0 F N M L w sb s)(hB0:w0.heap.size<=B)(hg:bM g)(hsc:s.c=g)(hAt:AtK s j (bq c got sent waits))(hI:KInv g Z c)(hZ:Z<=400000000)(hsl:c.strs.length<=400000000)(hs0:0<c.strs.length)(hM0:0<=M)(hM:M<=90000000000000)(hN:N<=90000000000000)(kd aa bb cc:Int)(k0:kd≠0)(k1:kd≠1)(k2:kd≠2)(k3:kd≠3)(ha:-9223372036854775808<=aa/\aa<=9223372036854775807)(hb:-9223372036854775808<=bb/\bb<=9223372036854775807):
  Calls Tryz.prog 15 #[.pointer (some ⟨xb,0,none⟩),.agg #[.int .i64 kd,.int .i64 aa,.int .i64 bb,.int .i64 cc]] w fun e w'=>e=.returned (.tuple #[])/\lh w0 B xb sb g (fun k=>F k\/bO xb v0 v1 v2 v3 v4 v5 v6 k) w w' (eE g c kd aa bb cc) (N+1200) (M+1200) (L+2) j waits (got+gQ c (eE g c kd aa bb cc)+eK c kd bb) (sent+gy g c kd aa bb):=by
 have hr:=aT aa (n:=(c.strs.length:Int)) (by omega)
 obtain⟨i,hi⟩:∃i:Nat,aP aa c.strs.length=i:=⟨(aP aa c.strs.length).toNat,by omega⟩
 rw[hi]at hr
 obtain⟨k,hk⟩:∃k,c.strs[i]? =some k:=⟨_,lGe (by omega)⟩
 have hko:=hI.str k (lMm hk)
 have hrd:=hko.read
 have hpp:=hko.piece
 have g1:=hg.c1
 have g2:=hg.c2
 have hkh:k.high<=bN c.strs:=iY (fun k:KS=>k.high) (l:=c.strs) (fun x hx=>by have:=(hI.str x hx).read;omega) (lMm hk)
 have hhi:=hI.high
 have hba:=ag w (.cells #[.int .i64 kd,.int .i64 aa,.int .i64 bb,.int .i64 cc] 32)
 have hbx:(w.alloc (.cells #[.int .i64 kd,.int .i64 aa,.int .i64 bb,.int .i64 cc] 32)).heap[w.heap.size]? =some (.cells #[.int .i64 kd,.int .i64 aa,.int .i64 bb,.int .i64 cc] 32 (0,0)):=heap_alloc_new w _
 have HPa:=ab (fun W=>gG aa c.strs.length W ha (by omega))
 rw[hi]at HPa
 have HSt:=ab (mZ (g:=g) (kd:=kd) (bb:=bb) (cc:=cc) hi hk)
 rw[if_neg k0,if_neg k1,if_neg k2,if_neg k3]at HSt
 generalize hW0:w.alloc (.cells #[.int .i64 kd,.int .i64 aa,.int .i64 bb,.int .i64 cc] 32)=W0 at *
 have HW0:=ab hba
 have HC0:=ab (hCl.below hba)
 have HL0:=ab (hLv.below hba)
 obtain⟨os,hC,hos,hxx⟩:=HC0.out.ex
 obtain⟨b1,c1,rfl,_,_⟩:=hC.at hk 1 (v:=v1) (f:=(·.high)) rfl rfl
 obtain⟨b2,c2,rfl,_,_⟩:=hC.at hk 2 (v:=v2) (f:=(·.fin)) rfl rfl
 obtain⟨b4,c4,rfl,_,_⟩:=hC.at hk 4 (v:=v4) (f:=(·.read)) rfl rfl
 obtain⟨b5,c5,rfl,_,_⟩:=hC.bool hk 5 (v:=v5) (f:=(·.done)) rfl rfl
 clear hxx
 have x14:W0.cell? ⟨xb,14,none⟩= some (.int .i64 (c.strs.length:Int)):=aj hC.blk 14
 have s0:W0.cell? ⟨w.heap.size,0,none⟩= some (.int .i64 kd):=aj hbx 0
 have s1:W0.cell? ⟨w.heap.size,1,none⟩= some (.int .i64 aa):=aj hbx 1
 have s2:W0.cell? ⟨w.heap.size,2,none⟩= some (.int .i64 bb):=aj hbx 2
 have HI:=ab (And.intro hI hk)
 obtain⟨hik0,hik⟩:=hr
 obtain⟨hrd0,hrd1⟩:=hrd
 have hh1:k.high<=400000000:=by omega
 have HBx:=ab hbx
 clear hC hos hbx hba hko
 have q0:(kd==0)=false:=by simpa using k0
 have q1:(kd==1)=false:=by simpa using k1
 have q2:(kd==2)=false:=by simpa using k2
 have q3:(kd==3)=false:=by simpa using k3
 go_enter Tryz.func15,Tryz.ntmps15
 go_wp2_with fail
 go_quiet ((go_at_call 19;exact Calls.quiet_of_same (HPa.out _)))
 clear HPa
 have hbW1:Below W0.heap.size W0 (W0.drewN nq):=ak (Below.refl _ _) nq
 have t0:=ae s0 hbW1
 have t2:=ae s2 hbW1
 have HB1:=ab (ai HW0.out hbW1)
 have HC1:=ab (HC0.out.below hbW1)
 have HL1:=ab (HL0.out.below hbW1)
 have HX1:=ab (dh HBx.out hbW1)
 clear hbW1 s0 s1 s2 x14 HC0 HL0 HBx
 generalize W0.drewN nq=W1 at *
 have hmr:=aT bb (n:=40) (by decide)
 have HPb:=ab (fun W=>gG bb 40 W hb (by decide))
 generalize hmm:aP bb 40=mm at *
 have HKd:=ab (And.intro hi (And.intro hk hmm))
 obtain⟨hm0,hm1⟩:=hmr
 obtain⟨sN,sent',hAtN,hcall⟩:=LiveF.readK (w0:=w0) (F:=F) (N:=N) (M:=M) (L:=L) (sb:=sb) hg hsc hAt hI (by omega) (by omega) hk (mm:=mm) (by omega) (by omega) (by omega)
 obtain⟨e1,e2,e3,e4⟩:=evsK_ok hg hI (by omega) (by omega) hk hm0
 have HOk:=ab (And.intro e1 e4)
 have htk:=jb (HI.out.1.str k (lMm HI.out.2)) hm0
 have hll:=cz i k.read (dU k mm).toNat
 obtain⟨LL,hLL⟩:∃LL,aV (i:Int) k.read (dU k mm).toNat=LL:=⟨_,rfl⟩
 have HLe:Hid (∀q:Nat,q<LL.length->LL.getD q 0=dO i (k.read+q)):=by
  intro q hq
  rw[<-hLL,mG _ _ _ _ (by rw[<-hLL,hll]at hq;exact hq)]
 rw[hLL]at hcall hll
 obtain⟨n,hn⟩:∃n,LL.length=n:=⟨_,rfl⟩
 have hnt:(n:Int)=dU k mm:=by rw[<-hn,hll];omega
 obtain⟨fn,hfn⟩:∃fn,decide (k.read+dU k mm=k.fin)=fn:=⟨_,rfl⟩
 rw[hfn,hn]at hcall
 have hRK:bT k mm = {k with read:=k.read+n,done:=fn}:=by rw[hnt,<-hfn];rfl
 have HRK:=ab hRK
 have Hfn:Hid (fn=decide (k.read+(n:Int)=k.fin)):=ab (by rw[hnt];exact hfn.symm)
 have hnm:(n:Int)<=mm:=by omega
 have hnle:k.read+(n:Int)<=k.high:=by omega
 clear hnt
 have x0:W1.cell? ⟨xb,0,none⟩= some (.pointer (some ⟨sb,0,none⟩)):=by
  obtain⟨os1,hC1,_,_⟩:=HC1.out.ex
  exact aj hC1.blk 0
 have HRd:Hid (∀(W:World),Below W1.heap.size W1 W->Calls Tryz.prog 17 #[.pointer (some ⟨sb,0,none⟩),.int .i64 300,.int .i64 i,.int .i64 mm] W fun e w'=>∃ta tc va vn vc,e=.returned (.tuple #[.agg #[.slice ta n tc,.bool fn,.bool false],.slice va vn vc,.int .i64 0])/\Hid (RdM w0 F B w w' xb sb g c v0 (.slice (some ⟨b1,0,none⟩) c.strs.length c1) (.slice (some ⟨b2,0,none⟩) c.strs.length c2) v3 (.slice (some ⟨b4,0,none⟩) c.strs.length c4) (.slice (some ⟨b5,0,none⟩) c.strs.length c5) v6 #[.int .i64 kd,.int .i64 aa,.int .i64 bb,.int .i64 cc] (.slice ta n tc) (.slice va vn vc) LL (ey (iB g c i k mm)) (N+2) (M+60) L sN)/\(w'.cell? ⟨xb,0,none⟩= some (.pointer (some ⟨sb,0,none⟩))/\w'.cell? ⟨w.heap.size,2,none⟩= some (.int .i64 bb))/\Hid (∀(q:Nat) (cs:Array Value),W.heap[q]? =some (.cells cs 46 (0,0))->w'.heap[q]? =some (.cells cs 46 (0,0)))):=by
  intro W hW
  have hLW:=HL1.out.below hW
  refine(hcall W hLW).mono ?_
  rintro e w' ⟨ta,tc,va,vn,vc,rfl,ho,hou,hmo⟩
  have hr:=rdm_made (dh HX1.out hW) (HC1.out.below hW) hLW (ai HB1.out hW) (LL:=LL) (tv:=.slice ta n tc) (by rw[hn];exact ho) hou hmo
  obtain⟨os2,hC2,_,_⟩:=hr.cl.ex
  exact⟨ta,tc,va,vn,vc,rfl,hr,⟨aj hC2.blk 0,aj hr.stp 2⟩,fun q cs hq=>got_srv hLW hmo hq⟩
 have hw1:w.heap.size<=W1.heap.size:=HB1.out.size
 have hw01:w0.heap.size<=W1.heap.size:=HL1.out.bel.size
 have hxl:xb<W1.heap.size:=by
  obtain⟨os1,hC1,_,_⟩:=HC1.out.ex
  exact(aLt hC1.blk)
 have hwl:w.heap.size<W1.heap.size:=(aLt HX1.out)
 have n1:xb≠W1.heap.size:=by omega
 have n2:W1.heap.size≠xb:=by omega
 have n3:w.heap.size≠W1.heap.size:=by omega
 have n4:W1.heap.size≠w.heap.size:=by omega
 clear hcall hLL e1 e2 e3 e4 HC1 HL1 HX1 hfn hRK hmm hk hI hi hCl hLv hAt hsc hW0 hll
 have HY:=ab (And.intro hAtN HSt.out)
 clear hAtN HSt
 generalize hEv:iB g c i k mm=evs at *
 have HEv:=ab hEv
 clear hEv
 go_upto_region 3 with fail
 go_cut [9,10,11] from 22 to 34 (fun s9 s10 s11 wx=>∃gb ta tc va vn vc,s9=.pointer (some ⟨gb,0,none⟩)/\s10=.slice va vn vc/\s11=.int .i64 0/\Hid (RdM w0 F B w wx xb sb g c v0 (.slice (some ⟨b1,0,none⟩) c.strs.length c1) (.slice (some ⟨b2,0,none⟩) c.strs.length c2) v3 (.slice (some ⟨b4,0,none⟩) c.strs.length c4) (.slice (some ⟨b5,0,none⟩) c.strs.length c5) v6 #[.int .i64 kd,.int .i64 aa,.int .i64 bb,.int .i64 cc] (.slice ta n tc) (.slice va vn vc) LL (ey evs) (N+2) (M+60) L sN)/\Hid (wx.heap[gb]? =some (.cells #[.slice ta n tc,.bool fn,.bool false] 46 (0,0))))
 case first=>
  go_region_held3 (fun w'=>w'.cell? ⟨xb,0,none⟩= some (.pointer (some ⟨sb,0,none⟩))/\w'.cell? ⟨w.heap.size,2,none⟩= some (.int .i64 bb)) (first|with_reducible assumption|go_keep) (first
   |(go_at_call 19;refine(HPb.out _).mono ?_;rintro e W4 ⟨rfl,rfl⟩)
   |(go_at_call 17;refine(HRd.out _ (by first|exact ak (Below.refl _ W1) 1|exact ai (ak (Below.refl _ W1) 1) (ag _ _))).mono ?_;rintro e W5 ⟨ta,tc,va,vn,vc,rfl,HM5,⟨k50,k51⟩,HQ5⟩;try (have hgx:=HQ5.out W1.heap.size #[.slice none 0 0,.bool false,.bool false] (heap_alloc_new (W1.drewN 1) _);have gz:∀q,W5.frozen? ⟨W1.heap.size,q,none⟩= false:=fun q=>frozen_of_row W5 W1.heap.size q _ _ hgx;have gx0:W5.cell? ⟨W1.heap.size,0,none⟩= some (.slice none 0 0):=aj hgx 0;have gx1:W5.cell? ⟨W1.heap.size,1,none⟩= some (.bool false):=aj hgx 1;have gx2:W5.cell? ⟨W1.heap.size,2,none⟩= some (.bool false):=aj hgx 2)))
  all_goals
   go_wp2_with fail
   go_meet
   first
    |exact⟨_,ta,tc,va,vn,vc,rfl,rfl,rfl,HM5.out.below hB0 (ag _ _),heap_alloc_new W5 _⟩
    |exact⟨_,ta,tc,va,vn,vc,rfl,rfl,rfl,HM5.out.got hgx hw1 hw01 (((eS W5 W1.heap.size 0 _).trans (eS _ W1.heap.size 1 _)).trans (eS _ W1.heap.size 2 _)),al (al (al hgx 0 _) 1 _) 2 _⟩
 case rest=>
  obtain⟨gb,ta,tc,va,vn,vc,rfl,rfl,rfl,HMc,HGc⟩:=hcut
  clear t0 t2 HRd x0 n1 n2 n3 n4 hxl hwl HB1
  obtain⟨nx1,nx2,nx3,nx4⟩:(gb≠xb/\xb≠gb)/\(w.heap.size≠xb/\xb≠w.heap.size)/\(b4≠xb/\xb≠b4)/\(b1≠xb/\b2≠xb):=by
   obtain⟨osc,hCc,_,_⟩:=HMc.out.cl.ex
   have e1:gb≠xb:=fun e=>by
    have:=HGc.out
    rw[e,hCc.blk]at this
    simp at this
   have e2:w.heap.size≠xb:=fun e=>by
    have:=HMc.out.stp
    rw[e,hCc.blk]at this
    simp at this
   have e3:b4≠xb:=fun e=>hCc.xb_not (v:=.slice (some ⟨b4,0,none⟩) c.strs.length c4) (by simp) (by rw[e];rfl)
   have e4:b1≠xb:=fun e=>hCc.xb_not (v:=.slice (some ⟨b1,0,none⟩) c.strs.length c1) (by simp) (by rw[e];rfl)
   have e5:b2≠xb:=fun e=>hCc.xb_not (v:=.slice (some ⟨b2,0,none⟩) c.strs.length c2) (by simp) (by rw[e];rfl)
   exact⟨⟨e1,Ne.symm e1⟩,⟨e2,Ne.symm e2⟩,⟨e3,Ne.symm e3⟩,e4,e5⟩
  obtain⟨nx1,nx1'⟩:=nx1
  obtain⟨nx2,nx2'⟩:=nx2
  obtain⟨nx3,nx3'⟩:=nx3
  have HK:=ab HI.out.2
  clear htk
  have HOK:Hid (∀W:World,RdM w0 F B w W xb sb g c v0 (.slice (some ⟨b1,0,none⟩) c.strs.length c1) (.slice (some ⟨b2,0,none⟩) c.strs.length c2) v3 (.slice (some ⟨b4,0,none⟩) c.strs.length c4) (.slice (some ⟨b5,0,none⟩) c.strs.length c5) v6 #[.int .i64 kd,.int .i64 aa,.int .i64 bb,.int .i64 cc] (.slice ta n tc) (.slice va vn vc) LL (ey evs) (N+2) (M+60) L sN->RdM w0 F B w (W.setCell ⟨xb,11,none⟩ (.bool true)) xb sb g c v0 (.slice (some ⟨b1,0,none⟩) c.strs.length c1) (.slice (some ⟨b2,0,none⟩) c.strs.length c2) v3 (.slice (some ⟨b4,0,none⟩) c.strs.length c4) (.slice (some ⟨b5,0,none⟩) c.strs.length c5) v6 #[.int .i64 kd,.int .i64 aa,.int .i64 bb,.int .i64 cc] (.slice ta n tc) (.slice va vn vc) LL (ey evs) (N+2) (M+60) L sN/\(∀cs,W.heap[gb]? =some (.cells cs 46 (0,0))->(W.setCell ⟨xb,11,none⟩ (.bool true)).heap[gb]? =some (.cells cs 46 (0,0)))):=by
   intro W h
   obtain⟨o1,o2⟩:=h.cl.okay
   exact⟨h.next hB0 o1 o2,fun cs hq=>sY h o2 hq⟩
  go_upto_region 4 with fail
  go_cut [9] from 35 to 59 (fun s9 wx=>s9=.pointer (some ⟨gb,0,none⟩)/\Hid (RdM w0 F B w wx xb sb g c v0 (.slice (some ⟨b1,0,none⟩) c.strs.length c1) (.slice (some ⟨b2,0,none⟩) c.strs.length c2) v3 (.slice (some ⟨b4,0,none⟩) c.strs.length c4) (.slice (some ⟨b5,0,none⟩) c.strs.length c5) v6 #[.int .i64 kd,.int .i64 aa,.int .i64 bb,.int .i64 cc] (.slice ta n tc) (.slice va vn vc) LL (ey evs) (N+2) (M+60) L sN)/\Hid (wx.heap[gb]? =some (.cells #[.slice ta n tc,.bool fn,.bool false] 46 (0,0))))
  case first=>
   obtain⟨osc,hCc,_,hxx⟩:=HMc.out.cl.ex
   have x11:wc.cell? ⟨xb,11,none⟩= some (.bool true):=aj hCc.blk 11
   have zx:∀q,wc.frozen? ⟨xb,q,none⟩= false:=eU hCc
   have g0:wc.cell? ⟨gb,0,none⟩= some (.slice ta n tc):=aj HGc.out 0
   have g2:wc.cell? ⟨gb,2,none⟩= some (.bool false):=aj HGc.out 2
   have s2:wc.cell? ⟨w.heap.size,2,none⟩= some (.int .i64 bb):=aj HMc.out.stp 2
   have k11:(wc.setCell ⟨xb,11,none⟩ (.bool true)).drew.cell? ⟨xb,11,none⟩= some (.bool true):=aj (al hCc.blk 11 (.bool true)) 11
   clear hCc hxx
   go_region_held3 (fun w'=>w'.cell? ⟨xb,11,none⟩= some (.bool true)/\w'.cell? ⟨gb,0,none⟩= some (.slice ta n tc)/\w'.cell? ⟨gb,2,none⟩= some (.bool false)/\w'.cell? ⟨w.heap.size,2,none⟩= some (.int .i64 bb)) (first|with_reducible assumption|go_keep) (first
    |(go_at_call 19;refine(HPb.out _).mono ?_;rintro e W4 ⟨rfl,rfl⟩))
   all_goals
    go_wp2_with fail
    go_meet
    obtain⟨o1,o2⟩:=HOK.out wc HMc.out
    exact⟨rfl,o1.below hB0 (ak (Below.refl _ _) 1),o2 _ HGc.out⟩
  case rest=>
   obtain⟨rfl,HMd,HGd⟩:=hcut
   clear HMc HGc HPb
   go_wp2_with fail
   go_loopg [12] n (fun gk iv wr=>∃q:Nat,iv=.int .i64 q/\q<=n/\gk=n-q/\Hid (RdM w0 F B w wr xb sb g c v0 (.slice (some ⟨b1,0,none⟩) c.strs.length c1) (.slice (some ⟨b2,0,none⟩) c.strs.length c2) v3 (.slice (some ⟨b4,0,none⟩) c.strs.length c4) (.slice (some ⟨b5,0,none⟩) c.strs.length c5) v6 #[.int .i64 kd,.int .i64 aa,.int .i64 bb,.int .i64 cc] (.slice ta n tc) (.slice va vn vc) LL (ey evs) (N+2) (M+60) L sN)/\Hid (wr.heap[gb]? =some (.cells #[.slice ta n tc,.bool fn,.bool false] 46 (0,0))))
   case atStart=>exact⟨0,rfl,by omega,rfl,HMd,HGd⟩
   case round=>
    obtain⟨q,rfl,hqn,rfl,HMr,HGr⟩:=hrel
    clear HMd HGd
    obtain⟨osr,hCr,_,hxx⟩:=HMr.out.cl.ex
    have x11:wr.cell? ⟨xb,11,none⟩= some (.bool true):=aj hCr.blk 11
    have zx:∀q,wr.frozen? ⟨xb,q,none⟩= false:=eU hCr
    have g0:wr.cell? ⟨gb,0,none⟩= some (.slice ta n tc):=aj HGr.out 0
    have x18:wr.cell? ⟨xb,18,none⟩= some (.slice (some ⟨b4,0,none⟩) c.strs.length c4):=aj hCr.blk 18
    obtain⟨b4',c4',e4',p4,z4⟩:=hCr.at HK.out 4 (f:=(·.read)) rfl rfl
    simp only[Value.slice.injEq,Option.some.injEq,Addr.mk.injEq,and_true,true_and]at e4'
    obtain⟨rfl,rfl⟩:=e4'
    obtain⟨obs,hto⟩:=HMr.out.own
    rw[hn]at hto
    have k11:(wr.setCell ⟨xb,11,none⟩ (.bool true)).drew.cell? ⟨xb,11,none⟩= some (.bool true):=aj (al hCr.blk 11 (.bool true)) 11
    have k18:(wr.setCell ⟨xb,11,none⟩ (.bool true)).drew.cell? ⟨xb,18,none⟩= some (.slice (some ⟨b4,0,none⟩) c.strs.length c4):=aj (al hCr.blk 11 (.bool true)) 18
    by_cases hql:q<n
    ·have hql':(q:Int)<(n:Int):=by omega
     have htx:=qG hto hCr.blk (by decide)
     obtain⟨tb,tc',e1,_,_,_⟩:=dp hto (by omega)
     simp only[Value.slice.injEq,true_and]at e1
     obtain⟨rfl,rfl⟩:=e1
     have ntx:tb≠xb:=fun e=>htx (by rw[e];rfl)
     have ntx':xb≠tb:=Ne.symm ntx
     have hbyte:=dQ hto q (by rw[hn];exact hql)
     rw[HLe.out q (by rw[hn];exact hql),Nat.zero_add]at hbyte
     have HLq:=ab (fun W=>n7 i (k.read+q) W (by omega) (by omega))
     have hwr:IntKind.i64.wrap (k.read+(q:Int))=k.read+q:=by rw[IntKind.wrap_i64];omega
     clear hCr hxx hto htx z4
     generalize dO (i:Int) (k.read+(q:Int))=Lq at *
     go_wp2_with fail
     go_region_held3 (fun w'=>w'.cell? ⟨xb,11,none⟩= some (.bool true)/\w'.cell? ⟨gb,0,none⟩= some (.slice (some ⟨tb,0,none⟩) n tc)/\w'.cell? ⟨tb,q,none⟩= some (.int .u8 Lq)/\w'.cell? ⟨xb,18,none⟩= some (.slice (some ⟨b4,0,none⟩) c.strs.length c4)/\w'.cell? ⟨b4,i,none⟩= some (.int .i64 k.read)) (first|with_reducible assumption|go_keep) (first
      |(go_at_call 18;refine(HLq.out _).mono ?_;rintro e W4 ⟨rfl,rfl⟩))
     all_goals
      go_wp2_with fail
      go_roundg (n-(q+1))
      case measure=>omega
      case rel=>
       obtain⟨o1,o2⟩:=HOK.out wr HMr.out
       exact⟨q+1,by go_num,by omega,rfl,o1.below hB0 (ak (Below.refl _ _) 1),o2 _ HGr.out⟩
    ·have hql':¬(q:Int)<(n:Int):=by omega
     have HM9:Hid (RdM w0 F B w (wr.setCell ⟨b4,i,none⟩ (.int .i64 (k.read+n))).drew xb sb g {c with strs:=c.strs.set i {k with read:=k.read+n}} v0 (.slice (some ⟨b1,0,none⟩) c.strs.length c1) (.slice (some ⟨b2,0,none⟩) c.strs.length c2) v3 (.slice (some ⟨b4,0,none⟩) c.strs.length c4) (.slice (some ⟨b5,0,none⟩) c.strs.length c5) v6 #[.int .i64 kd,.int .i64 aa,.int .i64 bb,.int .i64 cc] (.slice ta n tc) (.slice va vn vc) LL (ey evs) (N+2) (M+60) L sN):=by
      obtain⟨o1,o2⟩:=HMr.out.cl.put (i:=i) (j:=4) (f:=(·.read)) (k':={k with read:=k.read+n}) (m:=k.read+n) rfl (fun _=>rfl) (fun _=>p8 HK.out)
      exact(HMr.out.next hB0 o1 o2).below hB0 (ak (Below.refl _ _) 1)
     have HG9:Hid ((wr.setCell ⟨b4,i,none⟩ (.int .i64 (k.read+n))).drew.heap[gb]? =some (.cells #[.slice ta n tc,.bool fn,.bool false] 46 (0,0))):=by
      obtain⟨o1,o2⟩:=HMr.out.cl.put (i:=i) (j:=4) (f:=(·.read)) (k':={k with read:=k.read+n}) (m:=k.read+n) rfl (fun _=>rfl) (fun _=>p8 HK.out)
      exact sY HMr.out o2 HGr.out
     have hwr:IntKind.i64.wrap (k.read+(n:Int))=k.read+n:=by rw[IntKind.wrap_i64];omega
     clear hCr hxx hto k11 k18 x11 zx
     go_wp2_with fail
     go_region
     clear HMr HGr x18 p4 z4 g0
     generalize (wr.setCell ⟨b4,i,none⟩ (.int .i64 (k.read+n))).drew=W9 at *
     have hk9:({c with strs:=c.strs.set i {k with read:=k.read+n}}:aY).strs[i]? =some {k with read:=k.read+n}:=List.getElem?_set_self (lLt HK.out)
     have HK9:=ab hk9
     go_upto_region 10 with fail
     go_cut [9] from 110 to 163 (fun s9 wx=>s9=.pointer (some ⟨gb,0,none⟩)/\Hid (RdM w0 F B w wx xb sb g {c with strs:=c.strs.set i {k with read:=k.read+n}} v0 (.slice (some ⟨b1,0,none⟩) c.strs.length c1) (.slice (some ⟨b2,0,none⟩) c.strs.length c2) v3 (.slice (some ⟨b4,0,none⟩) c.strs.length c4) (.slice (some ⟨b5,0,none⟩) c.strs.length c5) v6 #[.int .i64 kd,.int .i64 aa,.int .i64 bb,.int .i64 cc] (.slice ta n tc) (.slice va vn vc) LL (ey evs) (N+2) (M+60) L sN)/\Hid (wx.heap[gb]? =some (.cells #[.slice ta n tc,.bool fn,.bool false] 46 (0,0))))
     case first=>
      obtain⟨os9,hC9,_,hxx⟩:=HM9.out.cl.ex
      have x11:W9.cell? ⟨xb,11,none⟩= some (.bool true):=aj hC9.blk 11
      have zx:∀q,W9.frozen? ⟨xb,q,none⟩= false:=eU hC9
      have g1:W9.cell? ⟨gb,1,none⟩= some (.bool fn):=aj HG9.out 1
      have x15:W9.cell? ⟨xb,15,none⟩= some (.slice (some ⟨b1,0,none⟩) c.strs.length c1):=aj hC9.blk 15
      have x16:W9.cell? ⟨xb,16,none⟩= some (.slice (some ⟨b2,0,none⟩) c.strs.length c2):=aj hC9.blk 16
      have x18:W9.cell? ⟨xb,18,none⟩= some (.slice (some ⟨b4,0,none⟩) c.strs.length c4):=aj hC9.blk 18
      have p1:W9.cell? ⟨b1,i,none⟩= some (.int .i64 k.high):=by
       obtain⟨b',c',e',p',_⟩:=hC9.at hk9 1 (f:=(·.high)) rfl rfl
       simp only[Value.slice.injEq,Option.some.injEq,Addr.mk.injEq,and_true]at e'
       obtain⟨rfl,_,rfl⟩:=e'
       exact p'
      have p2:W9.cell? ⟨b2,i,none⟩= some (.int .i64 k.fin):=by
       obtain⟨b',c',e',p',_⟩:=hC9.at hk9 2 (f:=(·.fin)) rfl rfl
       simp only[Value.slice.injEq,Option.some.injEq,Addr.mk.injEq,and_true]at e'
       obtain⟨rfl,_,rfl⟩:=e'
       exact p'
      have p4:W9.cell? ⟨b4,i,none⟩= some (.int .i64 (k.read+n)):=by
       obtain⟨b',c',e',p',_⟩:=hC9.at hk9 4 (f:=(·.read)) rfl rfl
       simp only[Value.slice.injEq,Option.some.injEq,Addr.mk.injEq,and_true]at e'
       obtain⟨rfl,_,rfl⟩:=e'
       exact p'
      have k11:(W9.setCell ⟨xb,11,none⟩ (.bool true)).drew.cell? ⟨xb,11,none⟩= some (.bool true):=aj (al hC9.blk 11 (.bool true)) 11
      have k15:(W9.setCell ⟨xb,11,none⟩ (.bool true)).drew.cell? ⟨xb,15,none⟩= some (.slice (some ⟨b1,0,none⟩) c.strs.length c1):=aj (al hC9.blk 11 (.bool true)) 15
      have k16:(W9.setCell ⟨xb,11,none⟩ (.bool true)).drew.cell? ⟨xb,16,none⟩= some (.slice (some ⟨b2,0,none⟩) c.strs.length c2):=aj (al hC9.blk 11 (.bool true)) 16
      have k18:(W9.setCell ⟨xb,11,none⟩ (.bool true)).drew.cell? ⟨xb,18,none⟩= some (.slice (some ⟨b4,0,none⟩) c.strs.length c4):=aj (al hC9.blk 11 (.bool true)) 18
      have HE9:Hid (RdM w0 F B w (W9.setCell ⟨xb,11,none⟩ (.bool true)).drew xb sb g {c with strs:=c.strs.set i {k with read:=k.read+n}} v0 (.slice (some ⟨b1,0,none⟩) c.strs.length c1) (.slice (some ⟨b2,0,none⟩) c.strs.length c2) v3 (.slice (some ⟨b4,0,none⟩) c.strs.length c4) (.slice (some ⟨b5,0,none⟩) c.strs.length c5) v6 #[.int .i64 kd,.int .i64 aa,.int .i64 bb,.int .i64 cc] (.slice ta n tc) (.slice va vn vc) LL (ey evs) (N+2) (M+60) L sN):=by
       obtain⟨o1,o2⟩:=HM9.out.cl.okay
       exact(HM9.out.next hB0 o1 o2).below hB0 (ak (Below.refl _ _) 1)
      have HF9:Hid ((W9.setCell ⟨xb,11,none⟩ (.bool true)).drew.heap[gb]? =some (.cells #[.slice ta n tc,.bool fn,.bool false] 46 (0,0))):=by
       obtain⟨o1,o2⟩:=HM9.out.cl.okay
       exact sY HM9.out o2 HG9.out
      have hfin:=(HI.out.1.str k (lMm HI.out.2)).fin
      obtain⟨nb1,nb2⟩:=nx4
      have d11:W9.drew.cell? ⟨xb,11,none⟩= some (.bool true):=x11
      have dg1:W9.drew.cell? ⟨gb,1,none⟩= some (.bool fn):=g1
      have d15:W9.drew.cell? ⟨xb,15,none⟩= some (.slice (some ⟨b1,0,none⟩) c.strs.length c1):=x15
      have d16:W9.drew.cell? ⟨xb,16,none⟩= some (.slice (some ⟨b2,0,none⟩) c.strs.length c2):=x16
      have d18:W9.drew.cell? ⟨xb,18,none⟩= some (.slice (some ⟨b4,0,none⟩) c.strs.length c4):=x18
      have dp1:W9.drew.cell? ⟨b1,i,none⟩= some (.int .i64 k.high):=p1
      have dp2:W9.drew.cell? ⟨b2,i,none⟩= some (.int .i64 k.fin):=p2
      have dp4:W9.drew.cell? ⟨b4,i,none⟩= some (.int .i64 (k.read+n)):=p4
      have dz:∀q,W9.drew.frozen? ⟨xb,q,none⟩= false:=zx
      have hR0:0<=k.read+(n:Int):=by omega
      have HFn:=ab Hfn.out
      clear hC9 hxx hk9 HM9 HG9 Hfn hwr
      generalize k.read+(n:Int)=R at *
      rcases hfin with hf|hf
      ·have hfn:fn=false:=by
        rw[HFn.out]
        exact decide_eq_false (by omega)
       subst hfn
       rw[hf]at p2 dp2
       clear hf
       go_region
       all_goals
        go_wp2_with fail
        go_meet
        exact⟨rfl,HE9,HF9⟩
      ·have hf0:0<=k.fin:=by omega
       clear hf
       generalize k.fin=kf at *
       by_cases he:R=kf
       ·have hfn:fn=true:=by
         rw[HFn.out]
         exact decide_eq_true he
        subst hfn
        subst he
        clear HFn hf0
        go_region
        all_goals
         go_wp2_with fail
         go_meet
         exact⟨rfl,HE9,HF9⟩
       ·have hfn:fn=false:=by
         rw[HFn.out]
         exact decide_eq_false he
        subst hfn
        have hbe:(R==kf)=false:=by simpa using he
        clear HFn
        go_region
        all_goals
         go_wp2_with fail
         go_meet
         exact⟨rfl,HE9,HF9⟩
     case rest=>
      obtain⟨rfl,HMe,HGe⟩:=hcut
      clear HM9 HG9
      obtain⟨ose,hCe,_,hxx⟩:=HMe.out.cl.ex
      have x19:wc.cell? ⟨xb,19,none⟩= some (.slice (some ⟨b5,0,none⟩) c.strs.length c5):=aj hCe.blk 19
      have g1:wc.cell? ⟨gb,1,none⟩= some (.bool fn):=aj HGe.out 1
      obtain⟨q5,z5⟩:wc.cell? ⟨b5,i,none⟩= some (.bool k.done)/\∀q,wc.frozen? ⟨b5,q,none⟩= false:=by
       obtain⟨b',c',e',p',z'⟩:=hCe.bool HK9.out 5 (f:=(·.done)) rfl rfl
       simp only[Value.slice.injEq,Option.some.injEq,Addr.mk.injEq,and_true]at e'
       obtain⟨rfl,_,rfl⟩:=e'
       exact⟨p',z'⟩
      have HMf:Hid (RdM w0 F B w (wc.setCell ⟨b5,i,none⟩ (.bool fn)).drew xb sb g (dr c i k mm) v0 (.slice (some ⟨b1,0,none⟩) c.strs.length c1) (.slice (some ⟨b2,0,none⟩) c.strs.length c2) v3 (.slice (some ⟨b4,0,none⟩) c.strs.length c4) (.slice (some ⟨b5,0,none⟩) c.strs.length c5) v6 #[.int .i64 kd,.int .i64 aa,.int .i64 bb,.int .i64 cc] (.slice ta n tc) (.slice va vn vc) LL (ey evs) (N+2) (M+60) L sN):=by
       obtain⟨o1,o2⟩:=HMe.out.cl.putB (i:=i) (j:=5) (f:=(·.done)) (k':={({k with read:=k.read+n}:KS) with done:=fn}) (m:=fn) rfl (fun _=>rfl) (fun _=>rowsK_done HK9.out)
       have e9:({{c with strs:=c.strs.set i {k with read:=k.read+n}} with strs:=({c with strs:=c.strs.set i {k with read:=k.read+n}}:aY).strs.set i {({k with read:=k.read+n}:KS) with done:=fn}}:aY)=dr c i k mm:=by
        unfold dr
        simp only[List.set_set]
        rw[HRK.out]
       rw[e9]at o1
       exact(HMe.out.next hB0 o1 o2).below hB0 (ak (Below.refl _ _) 1)
      clear hCe hxx HMe
      go_wp2_with fail
      go_region
      clear x19 g1 q5 z5 HGe
      generalize (wc.setCell ⟨b5,i,none⟩ (.bool fn)).drew=W9 at *
      obtain⟨osf,hCf,hosf,holf⟩:=HMf.out.cl.ex
      obtain⟨bo,hout⟩:=HMf.out.outs
      obtain⟨FF,hLf,_⟩:=HMf.out.live
      have hBf:B<=W9.heap.size:=by
       have q1:=hCf.low
       have q2:=(aLt hCf.blk)
       omega
      have hel:evs.length<=3:=by
       rw[<-HEv.out]
       exact evs_few g c i k mm
      have HHr:=ab (khears_any hE hLf.bel hCf hB0 hBf (evs:=evs) HOk.out.1 hel (by simp only[dr,List.length_set];omega) hout)
      have HCf:=ab (And.intro hCf (And.intro hosf holf))
      clear hCf hosf holf hout hLf
      go_wp2_with fail
      refine HHr.out.mono ?_
      rintro e WE ⟨rfl,u0,u1,u2,u3,u4,u5,hG⟩
      have HG:=ab hG
      clear hG HHr
      go_wp2_with fail
      go_end0
      have hcE:evs.foldl (bk g) (dr c i k mm)=kj g c i k mm:=by
       rw[<-HEv.out]
       rfl
      have hG:=HG.out
      rw[hcE]at hG
      have hd:=HMf.out.heard hB0 HCf.out.1 HCf.out.2.1 HCf.out.2.2 hG HOk.out.2
      rw[HY.out.2]
      exact⟨rfl,sN,got,sent',hd.mono (by omega) (by omega) (by omega),HY.out.1.1,HY.out.1.2.1,oM k2 HOk.out.2,hs_heard (by omega) HKd.out.1 HKd.out.2.1 (by rw[HKd.out.2.2,HEv.out];exact HY.out.1.2.2)⟩
theorem kstep_any [LoM] {w0:World}{F:Nat->Prop}{N:Nat}{M L:Int}{B:Nat}{w:World}{xb sb:Nat}{g:Cfg}{c:aY}{v0 v1 v2 v3 v4 v5 v6:Value}{s:ay}{j:Nat}{got sent waits Z:Int}(hE:Env w0)(hCl:ClAt B w xb sb g c v0 v1 v2 v3 v4 v5 v6)(hLv:LiveF w0 F N M L w sb s)(hB0:w0.heap.size<=B)(hB:B<=w.heap.size)(hg:bM g)(hsc:s.c=g)(hAt:AtK s j (bq c got sent waits))(hI:KInv g Z c)(hZ:Z<=400000000)(hsl:c.strs.length<=400000000)(hs0:0<c.strs.length)(hol:c.old.length<=900000000)(hM0:0<=M)(hM:M<=90000000000000)(hN:N<=90000000000000)(kd aa bb cc:Int)(ha:-9223372036854775808<=aa/\aa<=9223372036854775807)(hb:-9223372036854775808<=bb/\bb<=9223372036854775807)(hc:-9223372036854775808<=cc/\cc<=9223372036854775807):
  Calls Tryz.prog 15 #[.pointer (some ⟨xb,0,none⟩),.agg #[.int .i64 kd,.int .i64 aa,.int .i64 bb,.int .i64 cc]] w fun e w'=>e=.returned (.tuple #[])/\lh w0 B xb sb g (fun k=>F k\/bO xb v0 v1 v2 v3 v4 v5 v6 k) w w' (eE g c kd aa bb cc) (N+1200) (M+1200) (L+2) j waits (got+gQ c (eE g c kd aa bb cc)+eK c kd bb) (sent+gy g c kd aa bb):=by
 by_cases h0:kd=0
 ·subst h0
  exact kstep_0 hE hCl hLv hB0 hB hg hsc hAt hI hZ hsl hs0 hol hM0 hM hN aa bb cc ha hb hc
 by_cases h1:kd=1
 ·subst h1
  exact kstep_1 hE hCl hLv hB0 hB hg hsc hAt hI hZ hsl hs0 hol hM0 hM hN aa bb cc ha
 by_cases h2:kd=2
 ·subst h2
  exact kstep_2 hE hCl hLv hB0 hg hsc hAt hI hZ hsl hs0 hol hM0 hM hN aa bb cc ha hb
 by_cases h3:kd=3
 ·subst h3
  exact kstep_3 hE hCl hLv hB0 hB hg hsc hAt hI hZ hsl hs0 hol hM0 hM hN aa bb cc ha
 exact kstep_r hE hCl hLv hB0 hg hsc hAt hI hZ hsl hs0 hM0 hM hN kd aa bb cc h0 h1 h2 h3 ha hb
structure uh where
 kd:Int
 aa:Int
 bb:Int
 cc:Int
structure StepsIn(w:World)(ao:Option Addr)(l:List uh):Prop where
 at_:∀(k:Nat) (o:uh),l[k]? =some o->∃b off,ao=some ⟨b,off,none⟩/\w.cell? ⟨b,off+k*4,none⟩= some (.int .i64 o.kd)/\w.cell? ⟨b,off+k*4+1,none⟩= some (.int .i64 o.aa)/\w.cell? ⟨b,off+k*4+2,none⟩= some (.int .i64 o.bb)/\w.cell? ⟨b,off+k*4+3,none⟩= some (.int .i64 o.cc)
 rng:∀o∈l,(-9223372036854775808<=o.aa/\o.aa<=9223372036854775807)/\(-9223372036854775808<=o.bb/\o.bb<=9223372036854775807)/\(-9223372036854775808<=o.cc/\o.cc<=9223372036854775807)
theorem StepsIn.below{w w':World}{ao:Option Addr}{l:List uh}(h:StepsIn w ao l)(hb:Below w.heap.size w w'):StepsIn w' ao l:=⟨fun k o hk=>by
 obtain⟨b,off,h1,h2,h3,h4,h5⟩:=h.at_ k o hk
 exact⟨b,off,h1,ae h2 hb,ae h3 hb,ae h4 hb,ae h5 hb⟩,h.rng⟩
end Go.Proofs.YthmdjhlhodpbhaaGreatDoor
namespace Go.Proofs.YthmdjhlhodpbhaaGreatDoor
open Go.RowKit Go.Deep Go.ChangeShapes Go.WideShapes Go.ChangeAt
theorem kbulk_pos{H:Type}(d:DataW H):1<=Rows.uptoBulk d:=by
 unfold Rows.uptoBulk
 split<;>omega
theorem nA{H:Type}:∀l:List (DataW H),l.length<=Rows.uptoBulkAll l
 |[]=>Nat.zero_le _
 |d::r=>by
  have h1:=kbulk_pos d
  have h2:=nA r
  simp only[Rows.uptoBulkAll,List.length_cons]
  omega
theorem nB{H:Type}{d:DataW H}:∀{l:List (DataW H)},d∈l->Rows.uptoBulk d<=Rows.uptoBulkAll l
 |x::l,hd=>by
  simp only[Rows.uptoBulkAll]
  rcases List.mem_cons.1 hd with rfl|h
  ·omega
  ·have:=nB h
   omega
theorem py:Tryz.prog.cellsOf 32=4:=by kernel_rfl
theorem klen4{l:List Value}(h:l.length=4):∃a b c d,l=[a,b,c,d]:=by
 match l,h with
 |[a,b,c,d],_=>exact⟨a,b,c,d,rfl⟩
theorem kchoose{α:Type} [Inhabited α] {n:Nat}{p:Nat->α->Prop}(h:∀i,i<n->∃x,p i x):∃f:Nat->α,∀i,i<n->p i (f i):=by
 refine⟨fun i=>if hi:i<n then Classical.choose (h i hi) else default,fun i hi=>?_⟩
 simp only[dif_pos hi]
 exact Classical.choose_spec (h i hi)
section
variable {H : Type} {enc : TypeId × Value -> H} {w : World} {spare : Nat -> Bool} {held : Bool}
theorem fA{n:Nat}{x:Value}{xs:List (DataW H×List MemPlace)}{i:Nat}(hi:i<xs.length)(h:DataW.trod enc Tryz.prog w 0 spare held n 3 [x]=xs[i]?):∃c,x=.int .i64 c/\(-9223372036854775808<=c/\c<=9223372036854775807):=by
 rw[lGe hi]at h
 obtain⟨c,e,_,hwf⟩:=DataW.trod_int Tryz.underlying3 h
 simp only[List.cons.injEq,and_true]at e
 exact⟨c,e,bounds_i64 hwf⟩
theorem vO{n:Nat}{cs:List Value}{x:DataW H×List MemPlace}(h:DataW.trod enc Tryz.prog w 0 spare held n 32 cs=some x):
  ∃o:uh,cs=[.int .i64 o.kd,.int .i64 o.aa,.int .i64 o.bb,.int .i64 o.cc]/\(-9223372036854775808<=o.aa/\o.aa<=9223372036854775807)/\(-9223372036854775808<=o.bb/\o.bb<=9223372036854775807)/\(-9223372036854775808<=o.cc/\o.cc<=9223372036854775807):=by
 obtain⟨xs,m,_,rfl,hl,hlen,hf⟩:=DataW.trod_struct Tryz.underlying32 h
 have hlen':xs.length=4:=hlen
 rw[py]at hl
 obtain⟨x0,x1,x2,x3,rfl⟩:=klen4 hl
 have g0:DataW.trod enc Tryz.prog w 0 spare held m 3 ((List.drop 0 [x0,x1,x2,x3]).take (Tryz.prog.cellsOf 3))=xs[0]?:=hf 0 _ rfl
 rw[cf]at g0
 obtain⟨c0,rfl,_⟩:=fA (xs:=xs) (i:=0) (by omega) (by simpa using g0)
 have g1:DataW.trod enc Tryz.prog w 0 spare held m 3 ((List.drop 1 [.int .i64 c0,x1,x2,x3]).take (Tryz.prog.cellsOf 3))=xs[1]?:=hf 1 _ rfl
 rw[cf]at g1
 obtain⟨c1,rfl,r1⟩:=fA (xs:=xs) (i:=1) (by omega) (by simpa using g1)
 have g2:DataW.trod enc Tryz.prog w 0 spare held m 3 ((List.drop 2 [.int .i64 c0,.int .i64 c1,x2,x3]).take (Tryz.prog.cellsOf 3))=xs[2]?:=hf 2 _ rfl
 rw[cf]at g2
 obtain⟨c2,rfl,r2⟩:=fA (xs:=xs) (i:=2) (by omega) (by simpa using g2)
 have g3:DataW.trod enc Tryz.prog w 0 spare held m 3 ((List.drop 3 [.int .i64 c0,.int .i64 c1,.int .i64 c2,x3]).take (Tryz.prog.cellsOf 3))=xs[3]?:=hf 3 _ rfl
 rw[cf]at g3
 obtain⟨c3,rfl,r3⟩:=fA (xs:=xs) (i:=3) (by omega) (by simpa using g3)
 exact⟨⟨c0,c1,c2,c3⟩,rfl,r1,r2,r3⟩
theorem qL{n:Nat}{v:Value}{x:DataW H×List MemPlace}(h:DataW.trod enc Tryz.prog w 0 spare held n 27 [v]=some x)(hw:Rows.uptoBulk x.1<=1048576):
  ∃(ao:Option Addr) (cap:Nat) (l:List uh),v=.slice ao l.length cap/\StepsIn w ao l/\l.length<=1048576:=by
 rcases open_slice Tryz.underlying27 h with⟨hcs,_⟩|⟨a,len,cap,m,n',D,Pl,hcs,_,hl,_,hm,hx,hel⟩
 ·simp only[List.cons.injEq,and_true]at hcs
  subst hcs
  exact⟨none,0,[],rfl,⟨fun k o hk=>by simp at hk,fun o ho=>by cases ho⟩,by simp⟩
 ·simp only[List.cons.injEq,and_true]at hcs
  subst hcs
  have hlm:len<=m:=by rw[hm];split<;>omega
  rw[hx]at hw
  simp only[Rows.uptoBulk]at hw
  have hlen:len<=1048576:=by
   have:=nA ((List.range len).map D)
   rw[List.length_map,List.length_range]at this
   omega
  rw[py]at hel
  have hops:∀i,i<len->∃o:uh,w.cells? 0 (a.add (i*4)) 4=some [.int .i64 o.kd,.int .i64 o.aa,.int .i64 o.bb,.int .i64 o.cc]/\(-9223372036854775808<=o.aa/\o.aa<=9223372036854775807)/\(-9223372036854775808<=o.bb/\o.bb<=9223372036854775807)/\(-9223372036854775808<=o.cc/\o.cc<=9223372036854775807):=by
   intro i hi
   obtain⟨cs,h1,h2⟩:=hel i (by omega)
   obtain⟨o,rfl,ho⟩:=vO h2
   exact⟨o,h1,ho⟩
  haveI:Inhabited uh:=⟨⟨0,0,0,0⟩⟩
  obtain⟨f,hf⟩:=kchoose hops
  have hol:((List.range len).map f).length=len:=by simp
  refine⟨some a,cap,(List.range len).map f,by rw[hol],⟨fun k o hk=>?_,fun o ho=>?_⟩,by rw[hol];exact hlen⟩
  ·have hkl:k<len:=by
    have:=(lLt hk)
    rw[hol]at this
    exact this
   have ho:o=f k:=by
    simp only[List.getElem?_map,List.getElem?_range hkl,Option.map_some,Option.some.injEq]at hk
    exact hk.symm
   subst ho
   obtain⟨_,_,hr⟩:=World.cells?_some (hf k hkl).1
   have c0:=hr 0 (by decide)
   have c1:=hr 1 (by decide)
   have c2:=hr 2 (by decide)
   have c3:=hr 3 (by decide)
   have z0:=(World.cells?_some (hf 0 (by omega)).1).2.2 0 (by decide)
   obtain⟨b,off,spot⟩:=a
   have hspot:spot=none:=by simpa[Addr.add] using World.cell?_spot z0
   subst hspot
   rw[add_plain,add_plain]at c0 c1 c2 c3
   exact⟨b,off,rfl,by simpa using c0,by simpa using c1,by simpa using c2,by simpa using c3⟩
  ·obtain⟨i,hi,rfl⟩:=List.mem_map.1 ho
   exact(hf i (List.mem_range.1 hi)).2
end
end Go.Proofs.YthmdjhlhodpbhaaGreatDoor
