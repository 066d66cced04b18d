/- InOrder, 41 -/
import Derived.Deep.RegionHeld3
import Derived.Deep.LoopGhost
import Derived.BigRegion
import Derived.Test.YthmdjhlhodpbhaaGreatDoorI40
set_option maxHeartbeats 16000000
set_option maxRecDepth 8000
namespace Go.Proofs.YthmdjhlhodpbhaaGreatDoor
open Go.RowKit
theorem kstep_r{w0:World}{F:Nat->Prop}{N:Nat}{M L:Int}{B:Nat}{w:World}{xb sb:Nat}{g:Cfg}{c:aT}{v0 v1 v2 v3 v4 v5 v6:Value}{s:ax}{j:Nat}{got sent waits Z:Int}(hE:Env w0)(hCl:ClAt B w xb sb g c v0 v1 v2 v3 v4 v5 v6)(hLv:LiveF w0 F N M L w sb s)(hB0:w0.heap.size<=B)(hg:bN g)(hsc:s.c=g)(hAt:AtK s j (bp c got sent waits))(hI:KInv g Z c)(hZ:Z<=400000000)(hsl:c.strs.length<=400000000)(hs0:0<c.strs.length)(hM0:0<=M)(hM:M<=90000000000000)(hN:N<=90000000000000)(kd aa bb cc:Int)(k0:kd≠0)(k1:kd≠1)(k2:kd≠2)(k3:kd≠3)(ha:-9223372036854775808<=aa/\aa<=9223372036854775807)(hb:-9223372036854775808<=bb/\bb<=9223372036854775807):
  Calls Tryz.prog 15 #[.pointer (some ⟨xb,0,none⟩),.agg #[.int .i64 kd,.int .i64 aa,.int .i64 bb,.int .i64 cc]] w fun e w'=>e=.returned (.tuple #[])/\StepOut w0 B xb sb g (fun k=>F k\/cg xb v0 v1 v2 v3 v4 v5 v6 k) w w' (fA g c kd aa bb cc) (N+1200) (M+1200) (L+2) j waits (got+sentD c (fA g c kd aa bb cc)+fI c kd bb) (sent+heardD g c kd aa bb):=by
 have hr:=aS aa (n:=(c.strs.length:Int)) (by omega)
 obtain⟨i,hi⟩:∃i:Nat,aM aa c.strs.length=i:=⟨(aM aa c.strs.length).toNat,by omega⟩
 rw[hi]at hr
 obtain⟨k,hk⟩:∃k,c.strs[i]? =some k:=⟨_,List.getElem?_eq_getElem (by omega)⟩
 have hko:=hI.str k (List.mem_of_getElem? hk)
 have hrd:=hko.read
 have hpp:=hko.piece
 have g1:=hg.c1
 have g2:=hg.c2
 have hkh:k.high<=bE c.strs:=sum_mem (fun k:KS=>k.high) (l:=c.strs) (fun x hx=>by have:=(hI.str x hx).read;omega) (List.mem_of_getElem? hk)
 have hhi:=hI.high
 have hba:=af w (.cells #[.int .i64 kd,.int .i64 aa,.int .i64 bb,.int .i64 cc] 32)
 have hbx:(w.alloc (.cells #[.int .i64 kd,.int .i64 aa,.int .i64 bb,.int .i64 cc] 32)).heap[w.heap.size]? =some (.cells #[.int .i64 kd,.int .i64 aa,.int .i64 bb,.int .i64 cc] 32 (0,0)):=heap_alloc_new w _
 have HPa:=ab (fun W=>kpick_q aa c.strs.length W ha (by omega))
 rw[hi]at HPa
 have HSt:=ab (step_is (g:=g) (kd:=kd) (bb:=bb) (cc:=cc) hi hk)
 rw[if_neg k0,if_neg k1,if_neg k2,if_neg k3]at HSt
 generalize hW0:w.alloc (.cells #[.int .i64 kd,.int .i64 aa,.int .i64 bb,.int .i64 cc] 32)=W0 at *
 have HW0:=ab hba
 have HC0:=ab (hCl.below hba)
 have HL0:=ab (hLv.below hba)
 obtain⟨os,hC,hos,hxx⟩:=HC0.out.ex
 obtain⟨b1,c1,rfl,_,_⟩:=hC.at hk 1 (v:=v1) (f:=(·.high)) rfl rfl
 obtain⟨b2,c2,rfl,_,_⟩:=hC.at hk 2 (v:=v2) (f:=(·.fin)) rfl rfl
 obtain⟨b4,c4,rfl,_,_⟩:=hC.at hk 4 (v:=v4) (f:=(·.read)) rfl rfl
 obtain⟨b5,c5,rfl,_,_⟩:=hC.bool hk 5 (v:=v5) (f:=(·.done)) rfl rfl
 clear hxx
 have x14:W0.cell? ⟨xb,14,none⟩= some (.int .i64 (c.strs.length:Int)):=ai hC.blk 14
 have s0:W0.cell? ⟨w.heap.size,0,none⟩= some (.int .i64 kd):=ai hbx 0
 have s1:W0.cell? ⟨w.heap.size,1,none⟩= some (.int .i64 aa):=ai hbx 1
 have s2:W0.cell? ⟨w.heap.size,2,none⟩= some (.int .i64 bb):=ai hbx 2
 have HI:=ab (And.intro hI hk)
 obtain⟨hik0,hik⟩:=hr
 obtain⟨hrd0,hrd1⟩:=hrd
 have hh1:k.high<=400000000:=by omega
 have HBx:=ab hbx
 clear hC hos hbx hba hko
 have q0:(kd==0)=false:=by simpa using k0
 have q1:(kd==1)=false:=by simpa using k1
 have q2:(kd==2)=false:=by simpa using k2
 have q3:(kd==3)=false:=by simpa using k3
 go_enter Tryz.func15,Tryz.ntmps15
 go_wp2_with fail
 go_quiet ((go_at_call 19;exact Calls.quiet_of_same (HPa.out _)))
 clear HPa
 have hbW1:Below W0.heap.size W0 (W0.drewN nq):=aj (Below.refl _ _) nq
 have t0:=ae s0 hbW1
 have t2:=ae s2 hbW1
 have HB1:=ab (ag HW0.out hbW1)
 have HC1:=ab (HC0.out.below hbW1)
 have HL1:=ab (HL0.out.below hbW1)
 have HX1:=ab (eE HBx.out hbW1)
 clear hbW1 s0 s1 s2 x14 HC0 HL0 HBx
 generalize W0.drewN nq=W1 at *
 have hmr:=aS bb (n:=40) (by decide)
 have HPb:=ab (fun W=>kpick_q bb 40 W hb (by decide))
 generalize hmm:aM bb 40=mm at *
 have HKd:=ab (And.intro hi (And.intro hk hmm))
 obtain⟨hm0,hm1⟩:=hmr
 obtain⟨sN,sent',hAtN,hcall⟩:=LiveF.readK (w0:=w0) (F:=F) (N:=N) (M:=M) (L:=L) (sb:=sb) hg hsc hAt hI (by omega) (by omega) hk (mm:=mm) (by omega) (by omega) (by omega)
 obtain⟨e1,e2,e3,e4⟩:=evsK_ok hg hI (by omega) (by omega) hk hm0
 have HOk:=ab (And.intro e1 e4)
 have htk:=tookK_range (HI.out.1.str k (List.mem_of_getElem? HI.out.2)) hm0
 have hll:=bH i k.read (dt k mm).toNat
 obtain⟨LL,hLL⟩:∃LL,aP (i:Int) k.read (dt k mm).toNat=LL:=⟨_,rfl⟩
 have HLe:Hid (∀q:Nat,q<LL.length->LL.getD q 0=cY i (k.read+q)):=by
  intro q hq
  rw[<-hLL,letters_getD _ _ _ _ (by rw[<-hLL,hll]at hq;exact hq)]
 rw[hLL]at hcall hll
 obtain⟨n,hn⟩:∃n,LL.length=n:=⟨_,rfl⟩
 have hnt:(n:Int)=dt k mm:=by rw[<-hn,hll];omega
 obtain⟨fn,hfn⟩:∃fn,decide (k.read+dt k mm=k.fin)=fn:=⟨_,rfl⟩
 rw[hfn,hn]at hcall
 have hRK:bO k mm = {k with read:=k.read+n,done:=fn}:=by rw[hnt,<-hfn];rfl
 have HRK:=ab hRK
 have Hfn:Hid (fn=decide (k.read+(n:Int)=k.fin)):=ab (by rw[hnt];exact hfn.symm)
 have hnm:(n:Int)<=mm:=by omega
 have hnle:k.read+(n:Int)<=k.high:=by omega
 clear hnt
 have x0:W1.cell? ⟨xb,0,none⟩= some (.pointer (some ⟨sb,0,none⟩)):=by
  obtain⟨os1,hC1,_,_⟩:=HC1.out.ex
  exact ai hC1.blk 0
 have HRd:Hid (∀(W:World),Below W1.heap.size W1 W->Calls Tryz.prog 17 #[.pointer (some ⟨sb,0,none⟩),.int .i64 300,.int .i64 i,.int .i64 mm] W fun e w'=>∃ta tc va vn vc,e=.returned (.tuple #[.agg #[.slice ta n tc,.bool fn,.bool false],.slice va vn vc,.int .i64 0])/\Hid (RdM w0 F B w w' xb sb g c v0 (.slice (some ⟨b1,0,none⟩) c.strs.length c1) (.slice (some ⟨b2,0,none⟩) c.strs.length c2) v3 (.slice (some ⟨b4,0,none⟩) c.strs.length c4) (.slice (some ⟨b5,0,none⟩) c.strs.length c5) v6 #[.int .i64 kd,.int .i64 aa,.int .i64 bb,.int .i64 cc] (.slice ta n tc) (.slice va vn vc) LL (ef (evsK g c i k mm)) (N+2) (M+60) L sN)/\(w'.cell? ⟨xb,0,none⟩= some (.pointer (some ⟨sb,0,none⟩))/\w'.cell? ⟨w.heap.size,2,none⟩= some (.int .i64 bb))/\Hid (∀(q:Nat) (cs:Array Value),W.heap[q]? =some (.cells cs 46 (0,0))->w'.heap[q]? =some (.cells cs 46 (0,0)))):=by
  intro W hW
  have hLW:=HL1.out.below hW
  refine(hcall W hLW).mono ?_
  rintro e w' ⟨ta,tc,va,vn,vc,rfl,ho,hou,hmo⟩
  have hr:=rdm_made (eE HX1.out hW) (HC1.out.below hW) hLW (ag HB1.out hW) (LL:=LL) (tv:=.slice ta n tc) (by rw[hn];exact ho) hou hmo
  obtain⟨os2,hC2,_,_⟩:=hr.cl.ex
  exact⟨ta,tc,va,vn,vc,rfl,hr,⟨ai hC2.blk 0,ai hr.stp 2⟩,fun q cs hq=>got_srv hLW hmo hq⟩
 have hw1:w.heap.size<=W1.heap.size:=HB1.out.size
 have hw01:w0.heap.size<=W1.heap.size:=HL1.out.bel.size
 have hxl:xb<W1.heap.size:=by
  obtain⟨os1,hC1,_,_⟩:=HC1.out.ex
  exact(Array.getElem?_eq_some_iff.1 hC1.blk).1
 have hwl:w.heap.size<W1.heap.size:=(Array.getElem?_eq_some_iff.1 HX1.out).1
 have n1:xb≠W1.heap.size:=by omega
 have n2:W1.heap.size≠xb:=by omega
 have n3:w.heap.size≠W1.heap.size:=by omega
 have n4:W1.heap.size≠w.heap.size:=by omega
 clear hcall hLL e1 e2 e3 e4 HC1 HL1 HX1 hfn hRK hmm hk hI hi hCl hLv hAt hsc hW0 hll
 have HY:=ab (And.intro hAtN HSt.out)
 clear hAtN HSt
 generalize hEv:evsK g c i k mm=evs at *
 have HEv:=ab hEv
 clear hEv
 go_upto_region 3 with fail
 go_cut [9,10,11] from 22 to 34 (fun s9 s10 s11 wx=>∃gb ta tc va vn vc,s9=.pointer (some ⟨gb,0,none⟩)/\s10=.slice va vn vc/\s11=.int .i64 0/\Hid (RdM w0 F B w wx xb sb g c v0 (.slice (some ⟨b1,0,none⟩) c.strs.length c1) (.slice (some ⟨b2,0,none⟩) c.strs.length c2) v3 (.slice (some ⟨b4,0,none⟩) c.strs.length c4) (.slice (some ⟨b5,0,none⟩) c.strs.length c5) v6 #[.int .i64 kd,.int .i64 aa,.int .i64 bb,.int .i64 cc] (.slice ta n tc) (.slice va vn vc) LL (ef evs) (N+2) (M+60) L sN)/\Hid (wx.heap[gb]? =some (.cells #[.slice ta n tc,.bool fn,.bool false] 46 (0,0))))
 case first=>
  go_region_held3 (fun w'=>w'.cell? ⟨xb,0,none⟩= some (.pointer (some ⟨sb,0,none⟩))/\w'.cell? ⟨w.heap.size,2,none⟩= some (.int .i64 bb)) (first|with_reducible assumption|go_keep) (first
   |(go_at_call 19;refine(HPb.out _).mono ?_;rintro e W4 ⟨rfl,rfl⟩)
   |(go_at_call 17;refine(HRd.out _ (by first|exact aj (Below.refl _ W1) 1|exact ag (aj (Below.refl _ W1) 1) (af _ _))).mono ?_;rintro e W5 ⟨ta,tc,va,vn,vc,rfl,HM5,⟨k50,k51⟩,HQ5⟩;try (have hgx:=HQ5.out W1.heap.size #[.slice none 0 0,.bool false,.bool false] (heap_alloc_new (W1.drewN 1) _);have gz:∀q,W5.frozen? ⟨W1.heap.size,q,none⟩= false:=fun q=>frozen_of_row W5 W1.heap.size q _ _ hgx;have gx0:W5.cell? ⟨W1.heap.size,0,none⟩= some (.slice none 0 0):=ai hgx 0;have gx1:W5.cell? ⟨W1.heap.size,1,none⟩= some (.bool false):=ai hgx 1;have gx2:W5.cell? ⟨W1.heap.size,2,none⟩= some (.bool false):=ai hgx 2)))
  all_goals
   go_wp2_with fail
   go_meet
   first
    |exact⟨_,ta,tc,va,vn,vc,rfl,rfl,rfl,HM5.out.below hB0 (af _ _),heap_alloc_new W5 _⟩
    |exact⟨_,ta,tc,va,vn,vc,rfl,rfl,rfl,HM5.out.got hgx hw1 hw01 (((eR W5 W1.heap.size 0 _).trans (eR _ W1.heap.size 1 _)).trans (eR _ W1.heap.size 2 _)),ak (ak (ak hgx 0 _) 1 _) 2 _⟩
 case rest=>
  obtain⟨gb,ta,tc,va,vn,vc,rfl,rfl,rfl,HMc,HGc⟩:=hcut
  clear t0 t2 HRd x0 n1 n2 n3 n4 hxl hwl HB1
  obtain⟨nx1,nx2,nx3,nx4⟩:(gb≠xb/\xb≠gb)/\(w.heap.size≠xb/\xb≠w.heap.size)/\(b4≠xb/\xb≠b4)/\(b1≠xb/\b2≠xb):=by
   obtain⟨osc,hCc,_,_⟩:=HMc.out.cl.ex
   have e1:gb≠xb:=fun e=>by
    have:=HGc.out
    rw[e,hCc.blk]at this
    simp at this
   have e2:w.heap.size≠xb:=fun e=>by
    have:=HMc.out.stp
    rw[e,hCc.blk]at this
    simp at this
   have e3:b4≠xb:=fun e=>hCc.xb_not (v:=.slice (some ⟨b4,0,none⟩) c.strs.length c4) (by simp) (by rw[e];rfl)
   have e4:b1≠xb:=fun e=>hCc.xb_not (v:=.slice (some ⟨b1,0,none⟩) c.strs.length c1) (by simp) (by rw[e];rfl)
   have e5:b2≠xb:=fun e=>hCc.xb_not (v:=.slice (some ⟨b2,0,none⟩) c.strs.length c2) (by simp) (by rw[e];rfl)
   exact⟨⟨e1,Ne.symm e1⟩,⟨e2,Ne.symm e2⟩,⟨e3,Ne.symm e3⟩,e4,e5⟩
  obtain⟨nx1,nx1'⟩:=nx1
  obtain⟨nx2,nx2'⟩:=nx2
  obtain⟨nx3,nx3'⟩:=nx3
  have HK:=ab HI.out.2
  clear htk
  have HOK:Hid (∀W:World,RdM w0 F B w W xb sb g c v0 (.slice (some ⟨b1,0,none⟩) c.strs.length c1) (.slice (some ⟨b2,0,none⟩) c.strs.length c2) v3 (.slice (some ⟨b4,0,none⟩) c.strs.length c4) (.slice (some ⟨b5,0,none⟩) c.strs.length c5) v6 #[.int .i64 kd,.int .i64 aa,.int .i64 bb,.int .i64 cc] (.slice ta n tc) (.slice va vn vc) LL (ef evs) (N+2) (M+60) L sN->RdM w0 F B w (W.setCell ⟨xb,11,none⟩ (.bool true)) xb sb g c v0 (.slice (some ⟨b1,0,none⟩) c.strs.length c1) (.slice (some ⟨b2,0,none⟩) c.strs.length c2) v3 (.slice (some ⟨b4,0,none⟩) c.strs.length c4) (.slice (some ⟨b5,0,none⟩) c.strs.length c5) v6 #[.int .i64 kd,.int .i64 aa,.int .i64 bb,.int .i64 cc] (.slice ta n tc) (.slice va vn vc) LL (ef evs) (N+2) (M+60) L sN/\(∀cs,W.heap[gb]? =some (.cells cs 46 (0,0))->(W.setCell ⟨xb,11,none⟩ (.bool true)).heap[gb]? =some (.cells cs 46 (0,0)))):=by
   intro W h
   obtain⟨o1,o2⟩:=h.cl.okay
   exact⟨h.next hB0 o1 o2,fun cs hq=>got_cli h o2 hq⟩
  go_upto_region 4 with fail
  go_cut [9] from 35 to 59 (fun s9 wx=>s9=.pointer (some ⟨gb,0,none⟩)/\Hid (RdM w0 F B w wx xb sb g c v0 (.slice (some ⟨b1,0,none⟩) c.strs.length c1) (.slice (some ⟨b2,0,none⟩) c.strs.length c2) v3 (.slice (some ⟨b4,0,none⟩) c.strs.length c4) (.slice (some ⟨b5,0,none⟩) c.strs.length c5) v6 #[.int .i64 kd,.int .i64 aa,.int .i64 bb,.int .i64 cc] (.slice ta n tc) (.slice va vn vc) LL (ef evs) (N+2) (M+60) L sN)/\Hid (wx.heap[gb]? =some (.cells #[.slice ta n tc,.bool fn,.bool false] 46 (0,0))))
  case first=>
   obtain⟨osc,hCc,_,hxx⟩:=HMc.out.cl.ex
   have x11:wc.cell? ⟨xb,11,none⟩= some (.bool true):=ai hCc.blk 11
   have zx:∀q,wc.frozen? ⟨xb,q,none⟩= false:=eS hCc
   have g0:wc.cell? ⟨gb,0,none⟩= some (.slice ta n tc):=ai HGc.out 0
   have g2:wc.cell? ⟨gb,2,none⟩= some (.bool false):=ai HGc.out 2
   have s2:wc.cell? ⟨w.heap.size,2,none⟩= some (.int .i64 bb):=ai HMc.out.stp 2
   have k11:(wc.setCell ⟨xb,11,none⟩ (.bool true)).drew.cell? ⟨xb,11,none⟩= some (.bool true):=ai (ak hCc.blk 11 (.bool true)) 11
   clear hCc hxx
   go_region_held3 (fun w'=>w'.cell? ⟨xb,11,none⟩= some (.bool true)/\w'.cell? ⟨gb,0,none⟩= some (.slice ta n tc)/\w'.cell? ⟨gb,2,none⟩= some (.bool false)/\w'.cell? ⟨w.heap.size,2,none⟩= some (.int .i64 bb)) (first|with_reducible assumption|go_keep) (first
    |(go_at_call 19;refine(HPb.out _).mono ?_;rintro e W4 ⟨rfl,rfl⟩))
   all_goals
    go_wp2_with fail
    go_meet
    obtain⟨o1,o2⟩:=HOK.out wc HMc.out
    exact⟨rfl,o1.below hB0 (aj (Below.refl _ _) 1),o2 _ HGc.out⟩
  case rest=>
   obtain⟨rfl,HMd,HGd⟩:=hcut
   clear HMc HGc HPb
   go_wp2_with fail
   go_loopg [12] n (fun gk iv wr=>∃q:Nat,iv=.int .i64 q/\q<=n/\gk=n-q/\Hid (RdM w0 F B w wr xb sb g c v0 (.slice (some ⟨b1,0,none⟩) c.strs.length c1) (.slice (some ⟨b2,0,none⟩) c.strs.length c2) v3 (.slice (some ⟨b4,0,none⟩) c.strs.length c4) (.slice (some ⟨b5,0,none⟩) c.strs.length c5) v6 #[.int .i64 kd,.int .i64 aa,.int .i64 bb,.int .i64 cc] (.slice ta n tc) (.slice va vn vc) LL (ef evs) (N+2) (M+60) L sN)/\Hid (wr.heap[gb]? =some (.cells #[.slice ta n tc,.bool fn,.bool false] 46 (0,0))))
   case atStart=>exact⟨0,rfl,by omega,rfl,HMd,HGd⟩
   case round=>
    obtain⟨q,rfl,hqn,rfl,HMr,HGr⟩:=hrel
    clear HMd HGd
    obtain⟨osr,hCr,_,hxx⟩:=HMr.out.cl.ex
    have x11:wr.cell? ⟨xb,11,none⟩= some (.bool true):=ai hCr.blk 11
    have zx:∀q,wr.frozen? ⟨xb,q,none⟩= false:=eS hCr
    have g0:wr.cell? ⟨gb,0,none⟩= some (.slice ta n tc):=ai HGr.out 0
    have x18:wr.cell? ⟨xb,18,none⟩= some (.slice (some ⟨b4,0,none⟩) c.strs.length c4):=ai hCr.blk 18
    obtain⟨b4',c4',e4',p4,z4⟩:=hCr.at HK.out 4 (f:=(·.read)) rfl rfl
    simp only[Value.slice.injEq,Option.some.injEq,Addr.mk.injEq,and_true,true_and]at e4'
    obtain⟨rfl,rfl⟩:=e4'
    obtain⟨obs,hto⟩:=HMr.out.own
    rw[hn]at hto
    have k11:(wr.setCell ⟨xb,11,none⟩ (.bool true)).drew.cell? ⟨xb,11,none⟩= some (.bool true):=ai (ak hCr.blk 11 (.bool true)) 11
    have k18:(wr.setCell ⟨xb,11,none⟩ (.bool true)).drew.cell? ⟨xb,18,none⟩= some (.slice (some ⟨b4,0,none⟩) c.strs.length c4):=ai (ak hCr.blk 11 (.bool true)) 18
    by_cases hql:q<n
    ·have hql':(q:Int)<(n:Int):=by omega
     have htx:=own_not_block hto hCr.blk (by decide)
     obtain⟨tb,tc',e1,_,_,_⟩:=cV hto (by omega)
     simp only[Value.slice.injEq,true_and]at e1
     obtain⟨rfl,rfl⟩:=e1
     have ntx:tb≠xb:=fun e=>htx (by rw[e];rfl)
     have ntx':xb≠tb:=Ne.symm ntx
     have hbyte:=dF hto q (by rw[hn];exact hql)
     rw[HLe.out q (by rw[hn];exact hql),Nat.zero_add]at hbyte
     have HLq:=ab (fun W=>kletter_any i (k.read+q) W (by omega) (by omega))
     have hwr:IntKind.i64.wrap (k.read+(q:Int))=k.read+q:=by rw[IntKind.wrap_i64];omega
     clear hCr hxx hto htx z4
     generalize cY (i:Int) (k.read+(q:Int))=Lq at *
     go_wp2_with fail
     go_region_held3 (fun w'=>w'.cell? ⟨xb,11,none⟩= some (.bool true)/\w'.cell? ⟨gb,0,none⟩= some (.slice (some ⟨tb,0,none⟩) n tc)/\w'.cell? ⟨tb,q,none⟩= some (.int .u8 Lq)/\w'.cell? ⟨xb,18,none⟩= some (.slice (some ⟨b4,0,none⟩) c.strs.length c4)/\w'.cell? ⟨b4,i,none⟩= some (.int .i64 k.read)) (first|with_reducible assumption|go_keep) (first
      |(go_at_call 18;refine(HLq.out _).mono ?_;rintro e W4 ⟨rfl,rfl⟩))
     all_goals
      go_wp2_with fail
      go_roundg (n-(q+1))
      case measure=>omega
      case rel=>
       obtain⟨o1,o2⟩:=HOK.out wr HMr.out
       exact⟨q+1,by go_num,by omega,rfl,o1.below hB0 (aj (Below.refl _ _) 1),o2 _ HGr.out⟩
    ·have hql':¬(q:Int)<(n:Int):=by omega
     have HM9:Hid (RdM w0 F B w (wr.setCell ⟨b4,i,none⟩ (.int .i64 (k.read+n))).drew xb sb g {c with strs:=c.strs.set i {k with read:=k.read+n}} v0 (.slice (some ⟨b1,0,none⟩) c.strs.length c1) (.slice (some ⟨b2,0,none⟩) c.strs.length c2) v3 (.slice (some ⟨b4,0,none⟩) c.strs.length c4) (.slice (some ⟨b5,0,none⟩) c.strs.length c5) v6 #[.int .i64 kd,.int .i64 aa,.int .i64 bb,.int .i64 cc] (.slice ta n tc) (.slice va vn vc) LL (ef evs) (N+2) (M+60) L sN):=by
      obtain⟨o1,o2⟩:=HMr.out.cl.put (i:=i) (j:=4) (f:=(·.read)) (k':={k with read:=k.read+n}) (m:=k.read+n) rfl (fun _=>rfl) (fun _=>rowsK_read HK.out)
      exact(HMr.out.next hB0 o1 o2).below hB0 (aj (Below.refl _ _) 1)
     have HG9:Hid ((wr.setCell ⟨b4,i,none⟩ (.int .i64 (k.read+n))).drew.heap[gb]? =some (.cells #[.slice ta n tc,.bool fn,.bool false] 46 (0,0))):=by
      obtain⟨o1,o2⟩:=HMr.out.cl.put (i:=i) (j:=4) (f:=(·.read)) (k':={k with read:=k.read+n}) (m:=k.read+n) rfl (fun _=>rfl) (fun _=>rowsK_read HK.out)
      exact got_cli HMr.out o2 HGr.out
     have hwr:IntKind.i64.wrap (k.read+(n:Int))=k.read+n:=by rw[IntKind.wrap_i64];omega
     clear hCr hxx hto k11 k18 x11 zx
     go_wp2_with fail
     go_region
     clear HMr HGr x18 p4 z4 g0
     generalize (wr.setCell ⟨b4,i,none⟩ (.int .i64 (k.read+n))).drew=W9 at *
     have hk9:({c with strs:=c.strs.set i {k with read:=k.read+n}}:aT).strs[i]? =some {k with read:=k.read+n}:=List.getElem?_set_self (List.getElem?_eq_some_iff.1 HK.out).1
     have HK9:=ab hk9
     go_upto_region 10 with fail
     go_cut [9] from 110 to 163 (fun s9 wx=>s9=.pointer (some ⟨gb,0,none⟩)/\Hid (RdM w0 F B w wx xb sb g {c with strs:=c.strs.set i {k with read:=k.read+n}} v0 (.slice (some ⟨b1,0,none⟩) c.strs.length c1) (.slice (some ⟨b2,0,none⟩) c.strs.length c2) v3 (.slice (some ⟨b4,0,none⟩) c.strs.length c4) (.slice (some ⟨b5,0,none⟩) c.strs.length c5) v6 #[.int .i64 kd,.int .i64 aa,.int .i64 bb,.int .i64 cc] (.slice ta n tc) (.slice va vn vc) LL (ef evs) (N+2) (M+60) L sN)/\Hid (wx.heap[gb]? =some (.cells #[.slice ta n tc,.bool fn,.bool false] 46 (0,0))))
     case first=>
      obtain⟨os9,hC9,_,hxx⟩:=HM9.out.cl.ex
      have x11:W9.cell? ⟨xb,11,none⟩= some (.bool true):=ai hC9.blk 11
      have zx:∀q,W9.frozen? ⟨xb,q,none⟩= false:=eS hC9
      have g1:W9.cell? ⟨gb,1,none⟩= some (.bool fn):=ai HG9.out 1
      have x15:W9.cell? ⟨xb,15,none⟩= some (.slice (some ⟨b1,0,none⟩) c.strs.length c1):=ai hC9.blk 15
      have x16:W9.cell? ⟨xb,16,none⟩= some (.slice (some ⟨b2,0,none⟩) c.strs.length c2):=ai hC9.blk 16
      have x18:W9.cell? ⟨xb,18,none⟩= some (.slice (some ⟨b4,0,none⟩) c.strs.length c4):=ai hC9.blk 18
      have p1:W9.cell? ⟨b1,i,none⟩= some (.int .i64 k.high):=by
       obtain⟨b',c',e',p',_⟩:=hC9.at hk9 1 (f:=(·.high)) rfl rfl
       simp only[Value.slice.injEq,Option.some.injEq,Addr.mk.injEq,and_true]at e'
       obtain⟨rfl,_,rfl⟩:=e'
       exact p'
      have p2:W9.cell? ⟨b2,i,none⟩= some (.int .i64 k.fin):=by
       obtain⟨b',c',e',p',_⟩:=hC9.at hk9 2 (f:=(·.fin)) rfl rfl
       simp only[Value.slice.injEq,Option.some.injEq,Addr.mk.injEq,and_true]at e'
       obtain⟨rfl,_,rfl⟩:=e'
       exact p'
      have p4:W9.cell? ⟨b4,i,none⟩= some (.int .i64 (k.read+n)):=by
       obtain⟨b',c',e',p',_⟩:=hC9.at hk9 4 (f:=(·.read)) rfl rfl
       simp only[Value.slice.injEq,Option.some.injEq,Addr.mk.injEq,and_true]at e'
       obtain⟨rfl,_,rfl⟩:=e'
       exact p'
      have k11:(W9.setCell ⟨xb,11,none⟩ (.bool true)).drew.cell? ⟨xb,11,none⟩= some (.bool true):=ai (ak hC9.blk 11 (.bool true)) 11
      have k15:(W9.setCell ⟨xb,11,none⟩ (.bool true)).drew.cell? ⟨xb,15,none⟩= some (.slice (some ⟨b1,0,none⟩) c.strs.length c1):=ai (ak hC9.blk 11 (.bool true)) 15
      have k16:(W9.setCell ⟨xb,11,none⟩ (.bool true)).drew.cell? ⟨xb,16,none⟩= some (.slice (some ⟨b2,0,none⟩) c.strs.length c2):=ai (ak hC9.blk 11 (.bool true)) 16
      have k18:(W9.setCell ⟨xb,11,none⟩ (.bool true)).drew.cell? ⟨xb,18,none⟩= some (.slice (some ⟨b4,0,none⟩) c.strs.length c4):=ai (ak hC9.blk 11 (.bool true)) 18
      have HE9:Hid (RdM w0 F B w (W9.setCell ⟨xb,11,none⟩ (.bool true)).drew xb sb g {c with strs:=c.strs.set i {k with read:=k.read+n}} v0 (.slice (some ⟨b1,0,none⟩) c.strs.length c1) (.slice (some ⟨b2,0,none⟩) c.strs.length c2) v3 (.slice (some ⟨b4,0,none⟩) c.strs.length c4) (.slice (some ⟨b5,0,none⟩) c.strs.length c5) v6 #[.int .i64 kd,.int .i64 aa,.int .i64 bb,.int .i64 cc] (.slice ta n tc) (.slice va vn vc) LL (ef evs) (N+2) (M+60) L sN):=by
       obtain⟨o1,o2⟩:=HM9.out.cl.okay
       exact(HM9.out.next hB0 o1 o2).below hB0 (aj (Below.refl _ _) 1)
      have HF9:Hid ((W9.setCell ⟨xb,11,none⟩ (.bool true)).drew.heap[gb]? =some (.cells #[.slice ta n tc,.bool fn,.bool false] 46 (0,0))):=by
       obtain⟨o1,o2⟩:=HM9.out.cl.okay
       exact got_cli HM9.out o2 HG9.out
      have hfin:=(HI.out.1.str k (List.mem_of_getElem? HI.out.2)).fin
      obtain⟨nb1,nb2⟩:=nx4
      have d11:W9.drew.cell? ⟨xb,11,none⟩= some (.bool true):=x11
      have dg1:W9.drew.cell? ⟨gb,1,none⟩= some (.bool fn):=g1
      have d15:W9.drew.cell? ⟨xb,15,none⟩= some (.slice (some ⟨b1,0,none⟩) c.strs.length c1):=x15
      have d16:W9.drew.cell? ⟨xb,16,none⟩= some (.slice (some ⟨b2,0,none⟩) c.strs.length c2):=x16
      have d18:W9.drew.cell? ⟨xb,18,none⟩= some (.slice (some ⟨b4,0,none⟩) c.strs.length c4):=x18
      have dp1:W9.drew.cell? ⟨b1,i,none⟩= some (.int .i64 k.high):=p1
      have dp2:W9.drew.cell? ⟨b2,i,none⟩= some (.int .i64 k.fin):=p2
      have dp4:W9.drew.cell? ⟨b4,i,none⟩= some (.int .i64 (k.read+n)):=p4
      have dz:∀q,W9.drew.frozen? ⟨xb,q,none⟩= false:=zx
      have hR0:0<=k.read+(n:Int):=by omega
      have HFn:=ab Hfn.out
      clear hC9 hxx hk9 HM9 HG9 Hfn hwr
      generalize k.read+(n:Int)=R at *
      rcases hfin with hf|hf
      ·have hfn:fn=false:=by
        rw[HFn.out]
        exact decide_eq_false (by omega)
       subst hfn
       rw[hf]at p2 dp2
       clear hf
       go_region
       all_goals
        go_wp2_with fail
        go_meet
        exact⟨rfl,HE9,HF9⟩
      ·have hf0:0<=k.fin:=by omega
       clear hf
       generalize k.fin=kf at *
       by_cases he:R=kf
       ·have hfn:fn=true:=by
         rw[HFn.out]
         exact decide_eq_true he
        subst hfn
        subst he
        clear HFn hf0
        go_region
        all_goals
         go_wp2_with fail
         go_meet
         exact⟨rfl,HE9,HF9⟩
       ·have hfn:fn=false:=by
         rw[HFn.out]
         exact decide_eq_false he
        subst hfn
        have hbe:(R==kf)=false:=by simpa using he
        clear HFn
        go_region
        all_goals
         go_wp2_with fail
         go_meet
         exact⟨rfl,HE9,HF9⟩
     case rest=>
      obtain⟨rfl,HMe,HGe⟩:=hcut
      clear HM9 HG9
      obtain⟨ose,hCe,_,hxx⟩:=HMe.out.cl.ex
      have x19:wc.cell? ⟨xb,19,none⟩= some (.slice (some ⟨b5,0,none⟩) c.strs.length c5):=ai hCe.blk 19
      have g1:wc.cell? ⟨gb,1,none⟩= some (.bool fn):=ai HGe.out 1
      obtain⟨q5,z5⟩:wc.cell? ⟨b5,i,none⟩= some (.bool k.done)/\∀q,wc.frozen? ⟨b5,q,none⟩= false:=by
       obtain⟨b',c',e',p',z'⟩:=hCe.bool HK9.out 5 (f:=(·.done)) rfl rfl
       simp only[Value.slice.injEq,Option.some.injEq,Addr.mk.injEq,and_true]at e'
       obtain⟨rfl,_,rfl⟩:=e'
       exact⟨p',z'⟩
      have HMf:Hid (RdM w0 F B w (wc.setCell ⟨b5,i,none⟩ (.bool fn)).drew xb sb g (dj c i k mm) v0 (.slice (some ⟨b1,0,none⟩) c.strs.length c1) (.slice (some ⟨b2,0,none⟩) c.strs.length c2) v3 (.slice (some ⟨b4,0,none⟩) c.strs.length c4) (.slice (some ⟨b5,0,none⟩) c.strs.length c5) v6 #[.int .i64 kd,.int .i64 aa,.int .i64 bb,.int .i64 cc] (.slice ta n tc) (.slice va vn vc) LL (ef evs) (N+2) (M+60) L sN):=by
       obtain⟨o1,o2⟩:=HMe.out.cl.putB (i:=i) (j:=5) (f:=(·.done)) (k':={({k with read:=k.read+n}:KS) with done:=fn}) (m:=fn) rfl (fun _=>rfl) (fun _=>rowsK_done HK9.out)
       have e9:({{c with strs:=c.strs.set i {k with read:=k.read+n}} with strs:=({c with strs:=c.strs.set i {k with read:=k.read+n}}:aT).strs.set i {({k with read:=k.read+n}:KS) with done:=fn}}:aT)=dj c i k mm:=by
        unfold dj
        simp only[List.set_set]
        rw[HRK.out]
       rw[e9]at o1
       exact(HMe.out.next hB0 o1 o2).below hB0 (aj (Below.refl _ _) 1)
      clear hCe hxx HMe
      go_wp2_with fail
      go_region
      clear x19 g1 q5 z5 HGe
      generalize (wc.setCell ⟨b5,i,none⟩ (.bool fn)).drew=W9 at *
      obtain⟨osf,hCf,hosf,holf⟩:=HMf.out.cl.ex
      obtain⟨bo,hout⟩:=HMf.out.outs
      obtain⟨FF,hLf,_⟩:=HMf.out.live
      have hBf:B<=W9.heap.size:=by
       have q1:=hCf.low
       have q2:=(Array.getElem?_eq_some_iff.1 hCf.blk).1
       omega
      have hel:evs.length<=3:=by
       rw[<-HEv.out]
       exact evs_few g c i k mm
      have HHr:=ab (khears_any hE hLf.bel hCf hB0 hBf (evs:=evs) HOk.out.1 hel (by simp only[dj,List.length_set];omega) hout)
      have HCf:=ab (And.intro hCf (And.intro hosf holf))
      clear hCf hosf holf hout hLf
      go_wp2_with fail
      refine HHr.out.mono ?_
      rintro e WE ⟨rfl,u0,u1,u2,u3,u4,u5,hG⟩
      have HG:=ab hG
      clear hG HHr
      go_wp2_with fail
      go_end0
      have hcE:evs.foldl (bd g) (dj c i k mm)=gotsK g c i k mm:=by
       rw[<-HEv.out]
       rfl
      have hG:=HG.out
      rw[hcE]at hG
      have hd:=HMf.out.heard hB0 HCf.out.1 HCf.out.2.1 HCf.out.2.2 hG HOk.out.2
      rw[HY.out.2]
      exact⟨rfl,sN,got,sent',hd.mono (by omega) (by omega) (by omega),HY.out.1.1,HY.out.1.2.1,gs_same k2 HOk.out.2,hs_heard (by omega) HKd.out.1 HKd.out.2.1 (by rw[HKd.out.2.2,HEv.out];exact HY.out.1.2.2)⟩
theorem kstep_any{w0:World}{F:Nat->Prop}{N:Nat}{M L:Int}{B:Nat}{w:World}{xb sb:Nat}{g:Cfg}{c:aT}{v0 v1 v2 v3 v4 v5 v6:Value}{s:ax}{j:Nat}{got sent waits Z:Int}(hE:Env w0)(hCl:ClAt B w xb sb g c v0 v1 v2 v3 v4 v5 v6)(hLv:LiveF w0 F N M L w sb s)(hB0:w0.heap.size<=B)(hB:B<=w.heap.size)(hg:bN g)(hsc:s.c=g)(hAt:AtK s j (bp c got sent waits))(hI:KInv g Z c)(hZ:Z<=400000000)(hsl:c.strs.length<=400000000)(hs0:0<c.strs.length)(hol:c.old.length<=900000000)(hM0:0<=M)(hM:M<=90000000000000)(hN:N<=90000000000000)(kd aa bb cc:Int)(ha:-9223372036854775808<=aa/\aa<=9223372036854775807)(hb:-9223372036854775808<=bb/\bb<=9223372036854775807)(hc:-9223372036854775808<=cc/\cc<=9223372036854775807):
  Calls Tryz.prog 15 #[.pointer (some ⟨xb,0,none⟩),.agg #[.int .i64 kd,.int .i64 aa,.int .i64 bb,.int .i64 cc]] w fun e w'=>e=.returned (.tuple #[])/\StepOut w0 B xb sb g (fun k=>F k\/cg xb v0 v1 v2 v3 v4 v5 v6 k) w w' (fA g c kd aa bb cc) (N+1200) (M+1200) (L+2) j waits (got+sentD c (fA g c kd aa bb cc)+fI c kd bb) (sent+heardD g c kd aa bb):=by
 by_cases h0:kd=0
 ·subst h0
  exact kstep_0 hE hCl hLv hB0 hB hg hsc hAt hI hZ hsl hs0 hol hM0 hM hN aa bb cc ha hb hc
 by_cases h1:kd=1
 ·subst h1
  exact kstep_1 hE hCl hLv hB0 hB hg hsc hAt hI hZ hsl hs0 hol hM0 hM hN aa bb cc ha
 by_cases h2:kd=2
 ·subst h2
  exact kstep_2 hE hCl hLv hB0 hg hsc hAt hI hZ hsl hs0 hol hM0 hM hN aa bb cc ha hb
 by_cases h3:kd=3
 ·subst h3
  exact kstep_3 hE hCl hLv hB0 hB hg hsc hAt hI hZ hsl hs0 hol hM0 hM hN aa bb cc ha
 exact kstep_r hE hCl hLv hB0 hg hsc hAt hI hZ hsl hs0 hM0 hM hN kd aa bb cc h0 h1 h2 h3 ha hb
theorem hears_other(g:Cfg){q:Nat}:∀(l:List Ev) (c:aT),(∀i m,Sum.inl (i,m)∈l->i≠q)->q<c.strs.length->(l.foldl (bd g) c).strs[q]? =c.strs[q]?/\q<(l.foldl (bd g) c).strs.length
 |[],_,_,hq=>⟨rfl,hq⟩
 |e::r,c,hl,hq=>by
  have h1:(bd g c e).strs[q]? =c.strs[q]?/\q<(bd g c e).strs.length:=by
   cases e using evCas with
   |piece i m=>
    have hi:=hl i m (List.mem_cons_self ..)
    simp only[bd]
    split
    ·exact⟨List.getElem?_set_ne hi,by rw[List.length_set];exact hq⟩
    ·exact⟨rfl,hq⟩
   |data m=>exact⟨rfl,hq⟩
   |streams m=>
    simp only[bd]
    exact⟨List.getElem?_append_left hq,by rw[List.length_append];omega⟩
  have h2:=hears_other g r (bd g c e) (fun i m h=>hl i m (List.mem_cons_of_mem _ h)) h1.2
  exact⟨h2.1.trans h1.1,h2.2⟩
theorem evs_piece{g:Cfg}{c:aT}{i:Nat}{k:KS}{most:Int}{i':Nat}{m:Int}(h:Sum.inl (i',m)∈evsK g c i k most):i'=i:=by
 unfold evsK at h
 simp only[List.mem_append]at h
 rcases h with(h|h)|h
 ·unfold ev1 at h
  split at h
  ·simp only[List.mem_singleton,Sum.inl.injEq,Prod.mk.injEq]at h
   exact h.1
  ·simp at h
 ·unfold ev2 at h
  split at h<;>simp at h
 ·unfold ev3 at h
  split at h<;>simp at h
theorem gots_other{g:Cfg}{c:aT}{i:Nat}{k:KS}{most:Int}{q:Nat}(hq:q≠i)(hl:q<c.strs.length):(gotsK g c i k most).strs[q]? =c.strs[q]?:=by
 have h:=(hears_other g (q:=q) (evsK g c i k most) {c with strs:=c.strs.set i (bO k most)} (fun i' m h=>by rw[evs_piece h];exact Ne.symm hq) (by simp only[List.length_set];exact hl)).1
 refine Eq.trans h ?_
 exact List.getElem?_set_ne (Ne.symm hq)
structure LastK(g:Cfg)(Z:Int)(c c':aT)(q:Nat):Prop where
 inv:KInv g Z c'
 len:c.strs.length<=c'.strs.length/\c'.strs.length<=c.strs.length+q
 oth:∀i,q<=i->i<c.strs.length->c'.strs[i]? =c.strs[i]?
theorem LastK.next{g:Cfg}(hg:bN g){Z:Int}{c c':aT}{q:Nat}(h:LastK g Z c c' q)(hZ:Z<=500000000)(hl:c'.strs.length<=500000000){k:KS}(hk:c.strs[q]? =some k):LastK g Z c (gotsK g c' q k 5000) (q+1):=by
 have hq:=(List.getElem?_eq_some_iff.1 hk).1
 have hk':c'.strs[q]? =some k:=by rw[h.oth q (Nat.le_refl _) hq];exact hk
 obtain⟨_,h2,h3,_⟩:=evsK_ok hg h.inv hZ hl hk' (most:=5000) (by decide)
 have h4:=gots_len (g:=g) (c:=c') (i:=q) (k:=k) (most:=5000)
 have h5:=h.len
 refine⟨h2,by omega,fun i hi hil=>?_⟩
 rw[gots_other (by omega) (by omega)]
 exact h.oth i (by omega) hil
theorem took_all{g:Cfg}(hg:bN g){Z:Int}{c:aT}(h:KInv g Z c){i:Nat}{k:KS}(hk:c.strs[i]? =some k):dt k 5000=k.high-k.read:=by
 have h1:=one_le h hk
 have h2:=hg.c1
 unfold dt
 omega
structure InAt(w0:World)(B:Nat)(wr:World)(xb sb:Nat)(g:Cfg)(m:Nat)(c:aT):Prop where
 ex:∃v0 v1 v2 v3 v4 v5 v6 F s got sent,ClAt B wr xb sb g c v0 v1 v2 v3 v4 v5 v6/\LiveF w0 F (100+1200*m) (1000+1200*(m:Int)) (100+2*(m:Int)) wr sb s/\AtK s 0 (bp c got sent 1)/\s.c=g
 inv:KInv g (11*(m:Int)) c
 len:0<c.strs.length/\c.strs.length<=8+m
 old:c.old.length<=m
theorem InAt.below{w0:World}{B:Nat}{wr w':World}{xb sb:Nat}{g:Cfg}{m:Nat}{c:aT}(h:InAt w0 B wr xb sb g m c)(hb:Below wr.heap.size wr w'):InAt w0 B w' xb sb g m c:=by
 obtain⟨v0,v1,v2,v3,v4,v5,v6,F,s,got,sent,h1,h2,h3⟩:=h.ex
 exact⟨⟨v0,v1,v2,v3,v4,v5,v6,F,s,got,sent,h1.below hb,h2.below hb,h3⟩,h.inv,h.len,h.old⟩
theorem InAt.bel{w0:World}{B:Nat}{wr:World}{xb sb:Nat}{g:Cfg}{m:Nat}{c:aT}(h:InAt w0 B wr xb sb g m c):Below w0.heap.size w0 wr:=by
 obtain⟨v0,v1,v2,v3,v4,v5,v6,F,s,got,sent,h1,h2,h3⟩:=h.ex
 exact h2.bel
theorem InAt.step{w0:World}{B:Nat}{wr:World}{xb sb:Nat}{g:Cfg}{m:Nat}{c:aT}(h:InAt w0 B wr xb sb g m c)(hE:Env w0)(hB0:w0.heap.size<=B)(hg:bN g)(hm:m<=1048576)(kd aa bb cc:Int)(ha:-9223372036854775808<=aa/\aa<=9223372036854775807)(hb:-9223372036854775808<=bb/\bb<=9223372036854775807)(hc:-9223372036854775808<=cc/\cc<=9223372036854775807):
  Calls Tryz.prog 15 #[.pointer (some ⟨xb,0,none⟩),.agg #[.int .i64 kd,.int .i64 aa,.int .i64 bb,.int .i64 cc]] wr fun e w'=>e=.returned (.tuple #[])/\InAt w0 B w' xb sb g (m+1) (fA g c kd aa bb cc):=by
 obtain⟨v0,v1,v2,v3,v4,v5,v6,F,s,got,sent,h1,h2,h3,h4⟩:=h.ex
 obtain⟨os,hC,_,_⟩:=h1.ex
 have hBw:B<=wr.heap.size:=by
  have q1:=hC.low
  have q2:=(Array.getElem?_eq_some_iff.1 hC.blk).1
  omega
 have hl:=h.len
 have ho:=h.old
 obtain⟨i1,i2,i3,i4⟩:=step_inv hg h.inv (by omega) (by omega) kd aa bb cc
 refine(kstep_any hE h1 h2 hB0 hBw hg h4 h3 h.inv (by omega) (by omega) hl.1 (by omega) (by omega) (by omega) (by omega) kd aa bb cc ha hb hc).mono ?_
 rintro e w' ⟨rfl,hs⟩
 obtain⟨s',got',sent',hd,hat,hsc,_,_⟩:=hs.ex
 obtain⟨u0,u1,u2,u3,u4,u5,u6,F',d1,d2,_⟩:=hd.ex
 refine⟨rfl,⟨⟨u0,u1,u2,u3,u4,u5,u6,F',s',got',sent',d1,d2.mono (by omega) (by omega) (by omega),hat,hsc⟩,i1.mono (by omega),by omega,by omega⟩⟩
theorem InAt.cells{w0:World}{B:Nat}{wr:World}{xb sb:Nat}{g:Cfg}{m:Nat}{c:aT}(h:InAt w0 B wr xb sb g m c):wr.cell? ⟨xb,0,none⟩= some (.pointer (some ⟨sb,0,none⟩))/\wr.cell? ⟨xb,2,none⟩= some (.int .i64 g.c1)/\wr.cell? ⟨xb,11,none⟩= some (.bool true)/\wr.cell? ⟨xb,12,none⟩= some (.int .i64 c.credit)/\wr.cell? ⟨xb,14,none⟩= some (.int .i64 (c.strs.length:Int)):=by
 obtain⟨v0,v1,v2,v3,v4,v5,v6,F,s,got,sent,h1,h2,h3,h4⟩:=h.ex
 obtain⟨os,hC,_,_⟩:=h1.ex
 exact⟨ai hC.blk 0,ai hC.blk 2,ai hC.blk 11,ai hC.blk 12,ai hC.blk 14⟩
theorem InAt.look{w0:World}{B:Nat}{wr:World}{xb sb:Nat}{g:Cfg}{m:Nat}{c:aT}(h:InAt w0 B wr xb sb g m c):
  Calls Tryz.prog 16 #[.pointer (some ⟨sb,0,none⟩),.int .i64 300] wr fun e w'=>∃got sent bf,e=.returned (.tuple #[.agg #[.bool true,.int .i64 got,.int .i64 sent,.int .i64 c.credit,.int .i64 (c.strs.length:Int),.int .i64 bf],.int .i64 0])/\bf<=g.c1/\Below wr.heap.size wr w':=by
 obtain⟨v0,v1,v2,v3,v4,v5,v6,F,s,got,sent,h1,h2,h3,h4⟩:=h.ex
 refine(h2.live.look 300 (by decide)).mono ?_
 rintro e w' ⟨rfl,hb⟩
 rw[look_K h3]
 refine⟨got,sent,bufS (du c.strs),?_,(buf_le h.inv).2,hb⟩
 simp only[lookC,bp,strsK_len]
structure LastAt(w0:World)(B:Nat)(wr:World)(xb sb:Nat)(g:Cfg)(m q:Nat)(c:aT):Prop where
 ex:∃v0 v1 v2 v3 v4 v5 v6 F s got sent c',ClAt B wr xb sb g c v0 v1 v2 v3 v4 v5 v6/\LiveF w0 F (100+1200*m+2*q) (1000+1200*(m:Int)+60*(q:Int)) (100+2*(m:Int)) wr sb s/\AtK s 0 (bp c' got sent 1)/\s.c=g/\LastK g (11*(m:Int)) c c' q
 len:c.strs.length<=8+m
theorem InAt.last{w0:World}{B:Nat}{wr:World}{xb sb:Nat}{g:Cfg}{m:Nat}{c:aT}(h:InAt w0 B wr xb sb g m c):LastAt w0 B wr xb sb g m 0 c:=by
 obtain⟨v0,v1,v2,v3,v4,v5,v6,F,s,got,sent,h1,h2,h3,h4⟩:=h.ex
 exact⟨⟨v0,v1,v2,v3,v4,v5,v6,F,s,got,sent,c,h1,h2.mono (by omega) (by omega) (by omega),h3,h4,⟨h.inv,by omega,fun i _ _=>rfl⟩⟩,h.len.2⟩
theorem LastAt.below{w0:World}{B:Nat}{wr w':World}{xb sb:Nat}{g:Cfg}{m q:Nat}{c:aT}(h:LastAt w0 B wr xb sb g m q c)(hb:Below wr.heap.size wr w'):LastAt w0 B w' xb sb g m q c:=by
 obtain⟨v0,v1,v2,v3,v4,v5,v6,F,s,got,sent,c',h1,h2,h3⟩:=h.ex
 exact⟨⟨v0,v1,v2,v3,v4,v5,v6,F,s,got,sent,c',h1.below hb,h2.below hb,h3⟩,h.len⟩
theorem LastAt.bel{w0:World}{B:Nat}{wr:World}{xb sb:Nat}{g:Cfg}{m q:Nat}{c:aT}(h:LastAt w0 B wr xb sb g m q c):Below w0.heap.size w0 wr:=by
 obtain⟨v0,v1,v2,v3,v4,v5,v6,F,s,got,sent,c',h1,h2,h3⟩:=h.ex
 exact h2.bel
theorem LastAt.cells{w0:World}{B:Nat}{wr:World}{xb sb:Nat}{g:Cfg}{m q:Nat}{c:aT}(h:LastAt w0 B wr xb sb g m q c){i:Nat}{k:KS}(hk:c.strs[i]? =some k):∃b1 c1 b4 c4,wr.cell? ⟨xb,0,none⟩= some (.pointer (some ⟨sb,0,none⟩))/\wr.cell? ⟨xb,15,none⟩= some (.slice (some ⟨b1,0,none⟩) c.strs.length c1)/\wr.cell? ⟨xb,18,none⟩= some (.slice (some ⟨b4,0,none⟩) c.strs.length c4)/\wr.cell? ⟨b1,i,none⟩= some (.int .i64 k.high)/\wr.cell? ⟨b4,i,none⟩= some (.int .i64 k.read):=by
 obtain⟨v0,v1,v2,v3,v4,v5,v6,F,s,got,sent,c',h1,h2,h3⟩:=h.ex
 obtain⟨os,hC,_,_⟩:=h1.ex
 obtain⟨b1,c1,rfl,p1,_⟩:=hC.at hk 1 (v:=v1) (f:=(·.high)) rfl rfl
 obtain⟨b4,c4,rfl,p4,_⟩:=hC.at hk 4 (v:=v4) (f:=(·.read)) rfl rfl
 exact⟨b1,c1,b4,c4,ai hC.blk 0,ai hC.blk 15,ai hC.blk 18,p1,p4⟩
theorem LastAt.high{w0:World}{B:Nat}{wr:World}{xb sb:Nat}{g:Cfg}{m q:Nat}{c:aT}(h:LastAt w0 B wr xb sb g m q c):∃a cp,wr.cell? ⟨xb,15,none⟩= some (.slice a c.strs.length cp):=by
 obtain⟨v0,v1,v2,v3,v4,v5,v6,F,s,got,sent,c',h1,h2,h3⟩:=h.ex
 obtain⟨os,hC,_,_⟩:=h1.ex
 have ho:=hC.rows.own 1 v1 (KI (c.strs.map (·.high))) rfl rfl
 obtain⟨a,cp,e⟩:=aF ho
 simp only[KI,I64L_len,List.length_map]at e
 exact⟨a,cp,by rw[<-e];exact ai hC.blk 15⟩
theorem LastAt.read{w0:World}{B:Nat}{wr:World}{xb sb:Nat}{g:Cfg}{m q:Nat}{c:aT}(h:LastAt w0 B wr xb sb g m q c)(hg:bN g)(hm:m<=1048576)(hq:q<=40){k:KS}(hk:c.strs[q]? =some k):
  ∃n:Nat,(0<=k.read/\k.read+n=k.high/\k.high<=11*(m:Int))/\Calls Tryz.prog 17 #[.pointer (some ⟨sb,0,none⟩),.int .i64 300,.int .i64 q,.int .i64 5000] wr fun e w'=>∃ta tc va vn vc fn,e=.returned (.tuple #[.agg #[.slice ta n tc,.bool fn,.bool false],.slice va vn vc,.int .i64 0])/\(∃b,w'.ownsRow b 5 1 (.slice ta n tc) n (U8 (aP q k.read n)))/\LastAt w0 B w' xb sb g m (q+1) c:=by
 obtain⟨v0,v1,v2,v3,v4,v5,v6,F,s,got,sent,c',h1,h2,h3,h4,h5⟩:=h.ex
 have hql:=(List.getElem?_eq_some_iff.1 hk).1
 have hk':c'.strs[q]? =some k:=by rw[h5.oth q (Nat.le_refl _) hql];exact hk
 have hl:=h.len
 have hl5:=h5.len
 have ht:=took_all hg h5.inv hk'
 have hko:=h5.inv.str k (List.mem_of_getElem? hk')
 have hr:=hko.read
 have hkh:k.high<=bE c'.strs:=sum_mem (fun k:KS=>k.high) (l:=c'.strs) (fun x hx=>by have:=(h5.inv.str x hx).read;omega) (List.mem_of_getElem? hk')
 have hhi:=h5.inv.high
 obtain⟨sN,sent',⟨hAtN,hsN,_⟩,hcall⟩:=LiveF.readK (w0:=w0) (F:=F) (N:=100+1200*m+2*q) (M:=1000+1200*(m:Int)+60*(q:Int)) (L:=100+2*(m:Int)) (sb:=sb) hg h4 h3 h5.inv (by omega) (by omega) hk' (mm:=5000) (by decide) (by omega) (by omega)
 refine⟨(dt k 5000).toNat,⟨hr.1,by omega,by omega⟩,?_⟩
 refine(hcall wr h2).mono ?_
 rintro e w' ⟨ta,tc,va,vn,vc,rfl,ho,_,hmo⟩
 rw[bH]at ho⊢
 obtain⟨F',hL,_⟩:=hmo.ex
 exact⟨ta,tc,va,vn,vc,_,rfl,ho,⟨⟨v0,v1,v2,v3,v4,v5,v6,F',sN,got,sent',_,h1.srv h2 hmo.chg,hL.mono (by omega) (by omega) (by omega),hAtN,hsN,h5.next hg (by omega) (by omega) hk⟩,h.len⟩⟩
end Go.Proofs.YthmdjhlhodpbhaaGreatDoor
