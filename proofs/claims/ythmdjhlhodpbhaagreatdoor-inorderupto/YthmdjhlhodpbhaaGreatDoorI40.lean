/- InOrder, 40 -/
import Derived.Deep.DeepFit
import Derived.Test.YthmdjhlhodpbhaaGreatDoorI39
set_option maxHeartbeats 16000000
set_option maxRecDepth 8000
namespace Go.Proofs.YthmdjhlhodpbhaaGreatDoor
open Go.RowKit
theorem kjoin3(v1 v2 v3:Value)(l1 l2 l3:List Int)(w:World)(h1:RdB w v1 l1)(h2:RdB w v2 l2)(h3:RdB w v3 l3)(hl:l1.length+l2.length+l3.length<=100000000):
  Calls Tryz.prog 32 #[.slice (some ⟨w.heap.size,0,none⟩) 3 3] (w.alloc (.cells #[v1,v2,v3] 44)) fun e w'=>∃ao l cap,e=.returned (.slice ao l cap)/\RdB w' (.slice ao l cap) (l1++l2++l3)/\Below w.heap.size w w':=by
 have hb:=af w (.cells #[v1,v2,v3] 44)
 have e:ei [(v1,l1),(v2,l2),(v3,l3)]=l1++l2++l3:=by simp[ei]
 have h9:=kjoined_any [(v1,l1),(v2,l2),(v3,l3)] w.heap.size 3 (w.alloc (.cells #[v1,v2,v3] 44)) (fun j p hj=>?_) (fun p hp=>?_) (by simp) (by rw[e];simp only[List.length_append];omega)
 ·rw[e]at h9
  refine h9.mono ?_
  rintro e' w' ⟨v,rfl,ho,hbl⟩
  obtain⟨ao,cap,rfl⟩:=aF ho
  exact⟨_,_,_,rfl,RdB.of_own ho ((h1.1.append h2.1).append h3.1) (by simp only[List.length_append];omega),ag hb hbl⟩
 ·match j with
  |0=>simp only[List.getElem?_cons_zero,Option.some.injEq]at hj;subst hj;simp
  |1=>simp only[List.getElem?_cons_succ,List.getElem?_cons_zero,Option.some.injEq]at hj;subst hj;simp
  |2=>simp only[List.getElem?_cons_succ,List.getElem?_cons_zero,Option.some.injEq]at hj;subst hj;simp
  |j+3=>simp at hj
 ·simp only[List.mem_cons,List.not_mem_nil,or_false]at hp
  rcases hp with rfl|rfl|rfl
  ·exact h1.below hb
  ·exact h2.below hb
  ·exact h3.below hb
theorem kjoin3g(v1 v2 v3:Value)(l1 l2 l3:List Int)(w:World)(h1:RdB w v1 l1)(h2:RdB w v2 l2)(h3:RdB w v3 l3)(hl:l1.length+l2.length+l3.length<=100000000)(b:Nat)(hb:b=w.heap.size):
  Calls Tryz.prog 32 #[.slice (some ⟨b,0,none⟩) 3 3] (w.alloc (.cells #[v1,v2,v3] 44)) fun e w'=>∃ao l cap,e=.returned (.slice ao l cap)/\RdB w' (.slice ao l cap) (l1++l2++l3)/\Below w.heap.size w w':=by
 subst hb
 exact kjoin3 v1 v2 v3 l1 l2 l3 w h1 h2 h3 hl
theorem kstep_3{w0:World}{F:Nat->Prop}{N:Nat}{M L:Int}{B:Nat}{w:World}{xb sb:Nat}{g:Cfg}{c:aT}{v0 v1 v2 v3 v4 v5 v6:Value}{s:ax}{j:Nat}{got sent waits Z:Int}(hE:Env w0)(hCl:ClAt B w xb sb g c v0 v1 v2 v3 v4 v5 v6)(hLv:LiveF w0 F N M L w sb s)(hB0:w0.heap.size<=B)(hB:B<=w.heap.size)(hg:bN g)(hsc:s.c=g)(hAt:AtK s j (bp c got sent waits))(hI:KInv g Z c)(hZ:Z<=400000000)(hsl:c.strs.length<=400000000)(hs0:0<c.strs.length)(hol:c.old.length<=900000000)(hM0:0<=M)(hM:M<=90000000000000)(hN:N<=90000000000000)(aa bb cc:Int)(ha:-9223372036854775808<=aa/\aa<=9223372036854775807):
  Calls Tryz.prog 15 #[.pointer (some ⟨xb,0,none⟩),.agg #[.int .i64 3,.int .i64 aa,.int .i64 bb,.int .i64 cc]] w fun e w'=>e=.returned (.tuple #[])/\StepOut w0 B xb sb g (fun k=>F k\/cg xb v0 v1 v2 v3 v4 v5 v6 k) w w' (fA g c 3 aa bb cc) (N+1200) (M+1200) (L+2) j waits (got+sentD c (fA g c 3 aa bb cc)+fI c 3 bb) (sent+heardD g c 3 aa bb):=by
 have hr:=aS aa (n:=(c.strs.length:Int)) (by omega)
 obtain⟨i,hi⟩:∃i:Nat,aM aa c.strs.length=i:=⟨(aM aa c.strs.length).toNat,by omega⟩
 rw[hi]at hr
 obtain⟨k,hk⟩:∃k,c.strs[i]? =some k:=⟨_,List.getElem?_eq_getElem (by omega)⟩
 have hko:=hI.str k (List.mem_of_getElem? hk)
 have hrd:=hko.read
 have hpp:=hko.piece
 have g1:=hg.c1
 have g2:=hg.c2
 have hkh:k.high<=bE c.strs:=sum_mem (fun k:KS=>k.high) (l:=c.strs) (fun x hx=>by have:=(hI.str x hx).read;omega) (List.mem_of_getElem? hk)
 have hhi:=hI.high
 have hba:=af w (.cells #[.int .i64 3,.int .i64 aa,.int .i64 bb,.int .i64 cc] 32)
 have hbx:(w.alloc (.cells #[.int .i64 3,.int .i64 aa,.int .i64 bb,.int .i64 cc] 32)).heap[w.heap.size]? =some (.cells #[.int .i64 3,.int .i64 aa,.int .i64 bb,.int .i64 cc] 32 (0,0)):=heap_alloc_new w _
 have HPa:=ab (fun W=>kpick_q aa c.strs.length W ha (by omega))
 rw[hi]at HPa
 have HSt:=ab (step_is (g:=g) (kd:=3) (bb:=bb) (cc:=cc) hi hk)
 rw[if_neg (by decide),if_neg (by decide),if_neg (by decide),if_pos rfl]at HSt
 generalize hW0:w.alloc (.cells #[.int .i64 3,.int .i64 aa,.int .i64 bb,.int .i64 cc] 32)=W0 at *
 have HW0:=ab hba
 have HC0:=ab (hCl.below hba)
 have HL0:=ab (hLv.below hba)
 obtain⟨os,hC,hos,_⟩:=HC0.out.ex
 obtain⟨b1,c1,rfl,p1,_⟩:=hC.at hk 1 (v:=v1) (f:=(·.high)) rfl rfl
 obtain⟨b2,c2,rfl,p2,z2⟩:=hC.at hk 2 (v:=v2) (f:=(·.fin)) rfl rfl
 have x16:W0.cell? ⟨xb,16,none⟩= some (.slice (some ⟨b2,0,none⟩) c.strs.length c2):=ai hC.blk 16
 obtain⟨b4,c4,rfl,p4,_⟩:=hC.at hk 4 (v:=v4) (f:=(·.read)) rfl rfl
 have x18:W0.cell? ⟨xb,18,none⟩= some (.slice (some ⟨b4,0,none⟩) c.strs.length c4):=ai hC.blk 18
 have x14:W0.cell? ⟨xb,14,none⟩= some (.int .i64 (c.strs.length:Int)):=ai hC.blk 14
 have x15:W0.cell? ⟨xb,15,none⟩= some (.slice (some ⟨b1,0,none⟩) c.strs.length c1):=ai hC.blk 15
 have s0:W0.cell? ⟨w.heap.size,0,none⟩= some (.int .i64 3):=ai hbx 0
 have s1:W0.cell? ⟨w.heap.size,1,none⟩= some (.int .i64 aa):=ai hbx 1
 have HI:=ab (And.intro hI hk)
 obtain⟨hik0,hik⟩:=hr
 obtain⟨hrd0,hrd1⟩:=hrd
 have hh1:k.high<=400000000:=by omega
 clear hC hos hbx hba hko
 go_enter Tryz.func15,Tryz.ntmps15
 go_wp2_with fail
 go_quiet ((go_at_call 19;exact Calls.quiet_of_same (HPa.out _)))
 clear HPa
 have hbW1:Below W0.heap.size W0 (W0.drewN nq):=aj (Below.refl _ _) nq
 have t0:=ae s0 hbW1
 have t15:=ae x15 hbW1
 have t16:=ae x16 hbW1
 have t18:=ae x18 hbW1
 have t1:=ae p1 hbW1
 have t2:=ae p2 hbW1
 have t4:=ae p4 hbW1
 have z2':∀q,(W0.drewN nq).frozen? ⟨b2,q,none⟩= false:=z2
 have HB1:=ab hbW1
 have HC1:=ab (HC0.out.below hbW1)
 have HL1:=ab (HL0.out.below hbW1)
 clear hbW1 s0 s1 x14 x15 x16 x18 p1 p2 p4 z2 HC0 HL0
 generalize W0.drewN nq=W1 at *
 go_upto_region 32 with fail
 go_cut [340] from 316 to 339 (fun s340 wx=>s340=.bool (decide (k.fin<0/\k.read<k.high))/\Below W1.heap.size W1 wx)
 case first=>
  by_cases hfn:k.fin<0
  ·rcases Int.lt_or_le k.read k.high with hrh|hrh
   ·have HD:Hid (decide (k.fin<0/\k.read<k.high)=true):=ab (decide_eq_true ⟨hfn,hrh⟩)
    go_quiet (fail)
    go_wp2_with fail
    go_meet
    exact⟨by rw[HD.out],aj (Below.refl _ _) _⟩
   ·have HD:Hid (decide (k.fin<0/\k.read<k.high)=false):=ab (decide_eq_false (fun h=>by omega))
    go_quiet (fail)
    go_wp2_with fail
    go_meet
    exact⟨by rw[HD.out,decide_eq_false (by omega)],aj (Below.refl _ _) _⟩
  ·have HD:Hid (decide (k.fin<0/\k.read<k.high)=false):=ab (decide_eq_false (fun h=>by omega))
   go_quiet (fail)
   go_wp2_with fail
   go_meet
   exact⟨by rw[HD.out],aj (Below.refl _ _) _⟩
 case rest=>
  obtain⟨rfl,hbc⟩:=hcut
  have r15:=ae t15 hbc
  have r16:=ae t16 hbc
  have r1:=ae t1 hbc
  have r2:=ae t2 hbc
  have HBc:=ab (ag HB1.out hbc)
  have HCc:=ab (HC1.out.below hbc)
  have HLc:=ab (HL1.out.below hbc)
  obtain⟨osc,hCc,_,_⟩:=HCc.out.ex
  obtain⟨b2',c2',e2',_,zc⟩:=hCc.at hk 2 (f:=(·.fin)) rfl rfl
  simp only[Value.slice.injEq,Option.some.injEq,Addr.mk.injEq,and_true,true_and]at e2'
  obtain⟨rfl,rfl⟩:=e2'
  clear hbc t15 t16 t18 t1 t2 t4 z2' HC1 HL1 HB1 hCc t0
  by_cases hcd:k.fin<0/\k.read<k.high
  ·have hdt:decide (k.fin<0/\k.read<k.high)=true:=decide_eq_true hcd
   have HS2:=HSt.out
   rw[if_pos hcd]at HS2
   have HS3:=ab HS2
   have hf1:k.fin = -1:=by
    rcases(HI.out.1.str k (List.mem_of_getElem? HI.out.2)).fin with e|e<;>omega
   obtain⟨q1,q2⟩:=frame_reset (st:=i) (n:=k.high) (by omega) (by omega)
   have hd:=deal_reset (HI.out.1.str k (List.mem_of_getElem? HI.out.2)) (i:=i) (credit:=c.credit) (H:=bE c.strs) hf1 HI.out.1.sum
   rw[<-hsc]at hd
   obtain⟨got1,hgot,hrecv⟩:=send_frame hAt q1 q2 (Or.inr (Or.inr rfl)) (i:=i) (k:=k) rfl HI.out.2 hd (by omega)
   have HRv:=ab hrecv
   have HGt:=ab hgot
   clear hgot
   obtain⟨e1,e2⟩:=HCc.out.put (j:=2) (i:=i) (f:=(·.fin)) (k':={k with fin:=k.high}) (m:=k.high) rfl (fun _=>rfl) (fun _=>rowsK_fin HI.out.2)
   have HC2:Hid (ClAt B (wc.setCell ⟨b2,i,none⟩ (.int .i64 k.high)).drew xb sb g {c with strs:=c.strs.set i {k with fin:=k.high}} v0 (.slice (some ⟨b1,0,none⟩) c.strs.length c1) (.slice (some ⟨b2,0,none⟩) c.strs.length c2) v3 (.slice (some ⟨b4,0,none⟩) c.strs.length c4) v5 v6):=e1.below (aj (Below.refl _ _) 1)
   obtain⟨osx,hCx,_,_⟩:=HCc.out.ex
   have HL2:Hid (LiveF w0 F N M L (wc.setCell ⟨b2,i,none⟩ (.int .i64 k.high)).drew sb s):=(HLc.out.cli hCx e2 hB0).below (aj (Below.refl _ _) 1)
   have HE2:Hid (Chg (cg xb v0 (.slice (some ⟨b1,0,none⟩) c.strs.length c1) (.slice (some ⟨b2,0,none⟩) c.strs.length c2) v3 (.slice (some ⟨b4,0,none⟩) c.strs.length c4) v5 v6) wc (wc.setCell ⟨b2,i,none⟩ (.int .i64 k.high)).drew):=e2.trans (Chg.of_below (aj (Below.refl _ _) 1))
   have HAt:=ab hAt
   have HSc:=ab hsc
   rw[hdt]
   clear HS2 q1 q2 hd hrecv hAt hsc e1 e2 hCx hcd hdt
   go_wp2_with fail
   go_region
   generalize (wc.setCell ⟨b2,i,none⟩ (.int .i64 k.high)).drew=W2 at *
   obtain⟨os2,hC2,_,_⟩:=HC2.out.ex
   have hk2:({c with strs:=c.strs.set i {k with fin:=k.high}}:aT).strs[i]? =some {k with fin:=k.high}:=List.getElem?_set_self (List.getElem?_eq_some_iff.1 HI.out.2).1
   obtain⟨b5,c5,e5,p5,_⟩:=hC2.at hk2 1 (f:=(·.high)) rfl rfl
   simp only[Value.slice.injEq,Option.some.injEq,Addr.mk.injEq,and_true]at e5
   obtain⟨rfl,he5,rfl⟩:=e5
   clear he5
   have y15:W2.cell? ⟨xb,15,none⟩= some (.slice (some ⟨b1,0,none⟩) c.strs.length c1):=ai hC2.blk 15
   have y1:W2.cell? ⟨b1,i,none⟩= some (.int .i64 k.high):=p5
   have HN:=ab (fun(n:Int) (W:World) (hn:0<=n/\n<=1073741823)=>dW n W hn)
   clear hC2 hk2 p5 hW0 hk hi hI HSt hCl hLv
   have hli:=aV (i:Int)
   have hlh:=aV k.high
   have hsz2:wc.heap.size<=W2.heap.size:=HE2.out.size
   have hszc:W0.heap.size<=wc.heap.size:=HBc.out.size
   have hsz0:w.heap.size<=W0.heap.size:=HW0.out.size
   obtain⟨cN,hcN⟩:∃cN:aT,{c with strs:=c.strs.set i {k with fin:=k.high},old:=c.old++[fK i k.high]}=cN:=⟨_,rfl⟩
   obtain⟨sN,hsN⟩:∃sN:ax,{s with conns:=s.conns.set j (bp {c with strs:=c.strs.set i {k with fin:=k.high},old:=c.old++[fK i k.high]} got1 sent waits)}=sN:=⟨_,rfl⟩
   have HSe:Hid (∀(W:World),Below W2.heap.size W2 W->∀fa fl fc,RdB W (.slice fa fl fc) ([5]++aw i++aw k.high)->Calls Tryz.prog 39 #[.pointer (some ⟨xb,0,none⟩),.slice fa fl fc] W fun e w'=>e=.returned (.tuple #[])/\Hid (SendOut w0 B xb sb g F v0 (.slice (some ⟨b1,0,none⟩) c.strs.length c1) (.slice (some ⟨b2,0,none⟩) c.strs.length c2) v3 (.slice (some ⟨b4,0,none⟩) c.strs.length c4) v5 v6 W w' cN (N+1200) (M+1200) (L+2) sN)/\w'.cell? ⟨xb,15,none⟩= some (.slice (some ⟨b1,0,none⟩) c.strs.length c1)/\w'.cell? ⟨b1,i,none⟩= some (.int .i64 k.high)):=by
    intro W hW fa fl fc hfv
    have hsw:=hW.size
    refine(ksends_x (w:=W) hE (HC2.out.below hW) (HL2.out.below hW) hB0 (by omega) hfv (by simp only[List.length_append,List.length_cons,List.length_nil];omega) (show c.old.length<=1000000000 by omega) (by rw[show([5]++aw (i:Int)++aw k.high)=fK i k.high from rfl,HRv.out]) hM0 (by omega) (by omega)).mono ?_
    rintro e w' ⟨rfl,hso⟩
    rw[show([5]++aw (i:Int)++aw k.high)=fK i k.high from rfl,HRv.out]at hso
    obtain⟨u6,F9,hcl9,_,_⟩:=hso.ex
    obtain⟨os9,hC9,_,_⟩:=hcl9.ex
    have hk9:({c with strs:=c.strs.set i {k with fin:=k.high},old:=c.old++[fK i k.high]}:aT).strs[i]? =some {k with fin:=k.high}:=List.getElem?_set_self (List.getElem?_eq_some_iff.1 HI.out.2).1
    obtain⟨b9,c9,e9,p9,_⟩:=hC9.at hk9 1 (f:=(·.high)) rfl rfl
    simp only[Value.slice.injEq,Option.some.injEq,Addr.mk.injEq,and_true]at e9
    obtain⟨rfl,_,rfl⟩:=e9
    exact⟨rfl,hcN▸hsN▸hso,ai hC9.blk 15,p9⟩
   have HCN:=ab hcN
   have HSN:=ab hsN
   have HY:=ab (And.intro HAt.out (And.intro HS3.out HSc.out))
   have HNa:=ab (fun W=>HN.out i W (by omega))
   have HNb:=ab (fun W=>HN.out k.high W (by omega))
   have HL5:=ab (fun W=>RdB.lit W [5] (by unfold Bytes;decide) (by decide) (by decide))
   clear HC2 HL2 HRv hcN hsN HAt HS3 HSc hf1 HN HCc HLc
   go_upto_region 34 with fail
   have y15a:(W2.alloc (.cells #[.int .u8 5] 5)).cell? ⟨xb,15,none⟩= some (.slice (some ⟨b1,0,none⟩) c.strs.length c1):=ae y15 (af _ _)
   have y1a:(W2.alloc (.cells #[.int .u8 5] 5)).cell? ⟨b1,i,none⟩= some (.int .i64 k.high):=ae y1 (af _ _)
   have HKp:Hid (∀W W':World,W.cell? ⟨xb,15,none⟩= some (.slice (some ⟨b1,0,none⟩) c.strs.length c1)/\W.cell? ⟨b1,i,none⟩= some (.int .i64 k.high)->Below W.heap.size W W'->W'.cell? ⟨xb,15,none⟩= some (.slice (some ⟨b1,0,none⟩) c.strs.length c1)/\W'.cell? ⟨b1,i,none⟩= some (.int .i64 k.high)):=fun W W' h hb=>⟨ae h.1 hb,ae h.2 hb⟩
   go_region_held3 (fun w'=>w'.cell? ⟨xb,15,none⟩= some (.slice (some ⟨b1,0,none⟩) c.strs.length c1)/\w'.cell? ⟨b1,i,none⟩= some (.int .i64 k.high)) (first|with_reducible assumption|go_keep) (first
    |(go_at_call 31;go_fit (HNa.out _);rintro e WA ⟨vA,rfl,hoA,hbA⟩;obtain⟨aA,cA,rfl⟩:=aF hoA;have RA:=RdB.of_own hoA (br _ (by omega) (by omega)) (by omega);have kA:=HKp.out _ WA (by assumption) hbA)
    |(go_at_call 31;go_fit (HNb.out _);rintro e WB ⟨vB,rfl,hoB,hbB⟩;obtain⟨aB,cB,rfl⟩:=aF hoB;have RB:=RdB.of_own hoB (br _ (by omega) (by omega)) (by omega);have kB:=HKp.out _ WB (by assumption) hbB)
    |(go_at_call 32;go_fit (kjoin3g _ _ _ [5] (aw i) (aw k.high) _ (by first|exact((HL5.out W2).below (al hbA)).below hbB|exact((HL5.out W2).below (al hbB)).below hbA|exact(HL5.out WA).below hbB|exact HL5.out WB|exact(HL5.out WB).below hbA|exact HL5.out WA) (by first|exact RA|exact RA.below hbB|exact(RA.below (af _ _)).below hbB|exact(RA.below hbB).below (af _ _)|exact RA.below (af _ _)) (by first|exact RB|exact RB.below hbA|exact(RB.below (af _ _)).below hbA|exact(RB.below hbA).below (af _ _)|exact RB.below (af _ _)) (by simp only[List.length_cons,List.length_nil];omega) _ (by first|rfl|simp));rintro e WJ ⟨ja,jl,jc,rfl,RJ,hbJ⟩;have hbJ2:Below W2.heap.size W2 WJ:=(by first|exact ag (ag (ag (af W2 _) (al hbA)) hbB) hbJ|exact ag (ag (ag (af W2 _) (al hbB)) hbA) hbJ|exact ag (ag (ag (al hbA) (af WA _)) hbB) hbJ|exact ag (ag (ag (al hbA) hbB) (af WB _)) hbJ|exact ag (ag (ag (al hbB) (af WB _)) hbA) hbJ|exact ag (ag (ag (al hbB) hbA) (af WA _)) hbJ);have kJ:=HKp.out _ WJ (by first|assumption |(refine⟨?_,?_⟩<;>go_keep)) hbJ)
    |(go_at_call 39;refine(HSe.out WJ hbJ2 _ _ _ RJ).mono ?_;rintro e W5 ⟨rfl,hso,k51,k52⟩))
   all_goals
    go_wp2_with fail
    go_end0
    have h9:=HY.out.1.set (c':=bp {c with strs:=c.strs.set i {k with fin:=k.high},old:=c.old++[fK i k.high]} got1 sent waits) rfl
    have hd:=hso.out.duo.pre (w:=w) (((Chg.of_below (ag HW0.out HBc.out)).trans (HE2.out.mono (fun _ _ h=>Or.inr h))).trans (Chg.of_below hbJ2))
    rw[<-HCN.out,<-HSN.out]at hd
    rw[HY.out.2.1]
    exact⟨rfl,{s with conns:=s.conns.set j (bp {c with strs:=c.strs.set i {k with fin:=k.high},old:=c.old++[fK i k.high]} got1 sent waits)},got1,sent,hd,h9,HY.out.2.2,gs_snoc (by decide) HGt.out rfl,fV (by decide)⟩
  ·have hdt:decide (k.fin<0/\k.read<k.high)=false:=decide_eq_false hcd
   have HS2:=HSt.out
   rw[if_neg hcd]at HS2
   have HS3:=ab HS2
   rw[hdt]
   clear HS2 hcd hdt
   go_wp2_with fail
   go_end0
   rw[HS3.out]
   exact⟨rfl,s,got,sent,((DuoOut.same hCl hLv (ag HW0.out HBc.out)).mono (by omega) (by omega) (by omega)),hAt,hsc,gs_same (by decide) rfl,fV (by decide)⟩
theorem rowsK_read{l:List KS}{i:Nat}{k:KS}{os:List Value}{m:Int}(hk:l[i]? =some k):(bK l os).set 4 ((KI (l.map (·.read))).1,(KI (l.map (·.read))).2.set i (.int .i64 m))=bK (l.set i {k with read:=m}) os:=by
 unfold bK
 rw[bF (k':={k with read:=m}) (·.piece) hk rfl,bF (k':={k with read:=m}) (·.high) hk rfl,bF (k':={k with read:=m}) (·.fin) hk rfl,cX (k':={k with read:=m}) (fun _=>false) hk rfl,cX (k':={k with read:=m}) (·.done) hk rfl]
 simp only[List.set_cons_succ,List.set_cons_zero,KI,List.map_set,I64L_set]
theorem rowsK_done{l:List KS}{i:Nat}{k:KS}{os:List Value}{m:Bool}(hk:l[i]? =some k):(bK l os).set 5 ((KB (l.map (·.done))).1,(KB (l.map (·.done))).2.set i (.bool m))=bK (l.set i {k with done:=m}) os:=by
 unfold bK
 rw[bF (k':={k with done:=m}) (·.piece) hk rfl,bF (k':={k with done:=m}) (·.high) hk rfl,bF (k':={k with done:=m}) (·.fin) hk rfl,cX (k':={k with done:=m}) (fun _=>false) hk rfl,bF (k':={k with done:=m}) (·.read) hk rfl]
 simp only[List.set_cons_succ,List.set_cons_zero,KB,List.map_set]
theorem ClAt.putB{B:Nat}{w:World}{xb sb:Nat}{g:Cfg}{c:aT}{v0 v1 v2 v3 v4 v5 v6:Value}(h:ClAt B w xb sb g c v0 v1 v2 v3 v4 v5 v6){i gb n cap j:Nat}{k':KS}{f:KS->Bool}{m:Bool}(hv:[v0,v1,v2,v3,v4,v5,v6][j]? =some (.slice (some ⟨gb,0,none⟩) n cap))(ht:∀os,(bK c.strs os)[j]? =some (KB (c.strs.map f)))(hs:∀os,(bK c.strs os).set j ((KB (c.strs.map f)).1,(KB (c.strs.map f)).2.set i (.bool m))=bK (c.strs.set i k') os):ClAt B (w.setCell ⟨gb,i,none⟩ (.bool m)) xb sb g {c with strs:=c.strs.set i k'} v0 v1 v2 v3 v4 v5 v6/\Chg (cg xb v0 v1 v2 v3 v4 v5 v6) w (w.setCell ⟨gb,i,none⟩ (.bool m)):=by
 obtain⟨os,hC,h1,h2⟩:=h.ex
 have hc:Chg (cg xb v0 v1 v2 v3 v4 v5 v6) w (w.setCell ⟨gb,i,none⟩ (.bool m)):=(eR w gb i _).mono (fun q _ e=>Or.inr ⟨_,List.mem_of_getElem? hv,by rw[e];rfl⟩)
 refine⟨⟨os,?_,h1,fun q v fr hq hf=>⟨(h2 q v fr hq hf).1.cli hC hc,(h2 q v fr hq hf).2⟩⟩,hc⟩
 have hq:=hC.put hv (ht os) i (.bool m)
 rw[hs os]at hq
 simp only[List.length_set]
 exact hq
theorem own_cli{w w':World}{b:Nat}{v:Value}{n:Nat}{l:List Value}(ho:w.ownsRow b 5 1 v n l){B:Nat}{xb sb:Nat}{g:Cfg}{ok:Bool}{credit lim packet:Int}{v0 v1 v2 v3 v4 v5 v6:Value}{ts:List (TypeId×List Value)}(hC:ClB B w xb sb g ok credit lim packet v0 v1 v2 v3 v4 v5 v6 ts)(hc:Chg (cg xb v0 v1 v2 v3 v4 v5 v6) w w'):w'.ownsRow b 5 1 v n l:=by
 refine bW ho hc fun q hq e=>?_
 obtain⟨cur,hb⟩:=own_block ho hq
 exact(cli_far hC e).2 cur (0,0) hb
theorem box_cli{w w':World}{q:Nat}{cs:Array Value}{e:TypeId}{fr:Nat×Nat}(hq:w.heap[q]? =some (.cells cs e fr))(he:e≠42/\¬cliT e){B:Nat}{xb sb:Nat}{g:Cfg}{ok:Bool}{credit lim packet:Int}{v0 v1 v2 v3 v4 v5 v6:Value}{ts:List (TypeId×List Value)}(hC:ClB B w xb sb g ok credit lim packet v0 v1 v2 v3 v4 v5 v6 ts)(hc:Chg (cg xb v0 v1 v2 v3 v4 v5 v6) w w'):w'.heap[q]? =some (.cells cs e fr):=by
 rw[hc.block q (Array.getElem?_eq_some_iff.1 hq).1 (fun h=>?_)]
 ·exact hq
 ·obtain⟨_,_,cur,e',h1,h2⟩:=hC.types h
  rw[hq]at h1
  simp only[Option.some.injEq,Obj.cells.injEq]at h1
  rw[<-h1.2.1]at h2
  exact h2.elim he.1 he.2
theorem gots_close{w0:World}{F F':Nat->Prop}{N:Nat}{M L:Int}{B:Nat}{w W3 W8 W9:World}{xb sb:Nat}{g:Cfg}{c cE:aT}{v0 v1 v2 v3 v4 v5 v6 u0 u1 u2 u3 u4 u5:Value}{s':ax}{os:List Value}(hB0:w0.heap.size<=B)(hL:LiveF w0 F' N M L W3 sb s')(hin:∀k,F' k->F k\/w.heap.size<=k)(hch:Chg (fun k=>F k\/cg xb v0 v1 v2 v3 v4 v5 v6 k) w W3){cM:aT}(hC3:ClAt B W3 xb sb g cM v0 v1 v2 v3 v4 v5 v6)(h38:Chg (cg xb v0 v1 v2 v3 v4 v5 v6) W3 W8)(hC8:ClB B W8 xb sb g true c.credit c.strs.length c.old.length v0 v1 v2 v3 v4 v5 v6 (bK c.strs os))(hos:os.length=c.old.length)(hold:∀(q:Nat) (v:Value) (fr:List Int),os[q]? =some v->c.old[q]? =some fr->RdB W8 v (bL 300 q fr)/\fr.length<=1000)(hG:ClG B W8 (cg xb v0 v1 v2 v3 v4 v5 v6) W9 xb sb g true cE.credit cE.strs.length c.old.length u0 u1 u2 u3 u4 u5 v6 (bK cE.strs os))(ho:cE.old=c.old):DuoOut w0 B xb sb g (fun k=>F k\/cg xb v0 v1 v2 v3 v4 v5 v6 k) w W9 cE N M L s':=by
 obtain⟨os3,hCb3,_,_⟩:=hC3.ex
 have h39:Chg (cg xb v0 v1 v2 v3 v4 v5 v6) W3 W9:=h38.trans hG.chg
 have hs:w.heap.size<=W8.heap.size:=Nat.le_trans hch.size h38.size
 refine⟨⟨u0,u1,u2,u3,u4,u5,v6,F',⟨os,?_,by rw[ho];exact hos,fun q v fr hv hf=>?_⟩,hL.cli hCb3 h39 hB0,fun k hk=>?_⟩,hch.trans (h39.mono (fun _ _ h=>Or.inr h))⟩
 ·rw[ho]
  exact hG.cl
 ·rw[ho]at hf
  exact⟨(hold q v fr hv hf).1.cli hC8 hG.chg,(hold q v fr hv hf).2⟩
 ·rcases hk with hk|hk
  ·exact(hin k hk).imp Or.inl id
  ·rcases hG.inn k hk with h|h
   ·exact Or.inl (Or.inr h)
   ·exact Or.inr (by omega)
theorem evs_few(g:Cfg)(c:aT)(i:Nat)(k:KS)(most:Int):(evsK g c i k most).length<=3:=by
 unfold evsK ev1 ev2 ev3
 simp only[List.length_append]
 repeat' split
 all_goals simp
structure RdM(w0:World)(F:Nat->Prop)(B:Nat)(w W:World)(xb sb:Nat)(g:Cfg)(c:aT)(v0 v1 v2 v3 v4 v5 v6:Value)(ss:Array Value)(tv ov:Value)(LL:List Int)(outs:List (Int×List Int))(N:Nat)(M L:Int)(sN:ax):Prop where
 stp:W.heap[w.heap.size]? =some (.cells ss 32 (0,0))
 cl:ClAt B W xb sb g c v0 v1 v2 v3 v4 v5 v6
 own:∃b,W.ownsRow b 5 1 tv LL.length (U8 LL)
 outs:∃b,OutsAt W b ov outs
 live:∃F',LiveF w0 F' N M L W sb sN/\∀k,F' k->F k\/w.heap.size<=k
 chg:Chg (fun k=>F k\/cg xb v0 v1 v2 v3 v4 v5 v6 k) w W
theorem RdM.next{w0:World}{F:Nat->Prop}{B:Nat}{w W W':World}{xb sb:Nat}{g:Cfg}{c c':aT}{v0 v1 v2 v3 v4 v5 v6:Value}{ss:Array Value}{tv ov:Value}{LL:List Int}{outs:List (Int×List Int)}{N:Nat}{M L:Int}{sN:ax}(h:RdM w0 F B w W xb sb g c v0 v1 v2 v3 v4 v5 v6 ss tv ov LL outs N M L sN)(hB0:w0.heap.size<=B)(hc:ClAt B W' xb sb g c' v0 v1 v2 v3 v4 v5 v6)(hch:Chg (cg xb v0 v1 v2 v3 v4 v5 v6) W W'):RdM w0 F B w W' xb sb g c' v0 v1 v2 v3 v4 v5 v6 ss tv ov LL outs N M L sN:=by
 obtain⟨os,hC,_,_⟩:=h.cl.ex
 obtain⟨b1,h1⟩:=h.own
 obtain⟨b2,h2⟩:=h.outs
 obtain⟨F',h3,h4⟩:=h.live
 exact⟨box_cli h.stp (by simp[cliT]) hC hch,hc,⟨b1,own_cli h1 hC hch⟩,⟨b2,h2.cli hC hch⟩,⟨F',h3.cli hC hch hB0,h4⟩,h.chg.trans (hch.mono (fun _ _ h=>Or.inr h))⟩
theorem RdM.below{w0:World}{F:Nat->Prop}{B:Nat}{w W W':World}{xb sb:Nat}{g:Cfg}{c:aT}{v0 v1 v2 v3 v4 v5 v6:Value}{ss:Array Value}{tv ov:Value}{LL:List Int}{outs:List (Int×List Int)}{N:Nat}{M L:Int}{sN:ax}(h:RdM w0 F B w W xb sb g c v0 v1 v2 v3 v4 v5 v6 ss tv ov LL outs N M L sN)(hB0:w0.heap.size<=B)(hb:Below W.heap.size W W'):RdM w0 F B w W' xb sb g c v0 v1 v2 v3 v4 v5 v6 ss tv ov LL outs N M L sN:=
 h.next hB0 (h.cl.below hb) (Chg.of_below hb)
theorem RdM.got{w0:World}{F:Nat->Prop}{B:Nat}{w W W':World}{xb sb:Nat}{g:Cfg}{c:aT}{v0 v1 v2 v3 v4 v5 v6:Value}{ss:Array Value}{tv ov:Value}{LL:List Int}{outs:List (Int×List Int)}{N:Nat}{M L:Int}{sN:ax}(h:RdM w0 F B w W xb sb g c v0 v1 v2 v3 v4 v5 v6 ss tv ov LL outs N M L sN){q:Nat}{cs:Array Value}(hq:W.heap[q]? =some (.cells cs 46 (0,0)))(hw:w.heap.size<=q)(h0:w0.heap.size<=q)(hch:Chg (fun k=>k=q) W W'):RdM w0 F B w W' xb sb g c v0 v1 v2 v3 v4 v5 v6 ss tv ov LL outs N M L sN:=by
 obtain⟨os,hC,ho,hold⟩:=h.cl.ex
 obtain⟨b1,h1⟩:=h.own
 obtain⟨b2,h2⟩:=h.outs
 obtain⟨F',h3,h4⟩:=h.live
 have n8:∀k cur fr,W.heap[k]? =some (.cells cur 5 fr)->¬k=q:=by
  intro k cur fr hk e
  rw[e,hq]at hk
  simp at hk
 have ns:∀k cur fr,W.heap[k]? =some (.cells cur 60 fr)->¬k=q:=by
  intro k cur fr hk e
  rw[e,hq]at hk
  simp at hk
 have nf:∀k,F' k->¬k=q:=by
  intro k hk e
  rw[e]at hk
  exact(h3.ty q hk).not hq (by simp[SrvT])
 have nc:∀k,cg xb v0 v1 v2 v3 v4 v5 v6 k->¬k=q:=by
  intro k hk e
  obtain⟨_,_,cur,e',q1,q2⟩:=hC.types hk
  rw[e,hq]at q1
  simp only[Option.some.injEq,Obj.cells.injEq]at q1
  rw[<-q1.2.1]at q2
  simp[cliT]at q2
 refine⟨?_,⟨os,hC.chg hch nc,ho,fun a v fr hv hf=>⟨(hold a v fr hv hf).1.chg hch (fun k cur fr hk=>n8 k cur fr hk),(hold a v fr hv hf).2⟩⟩,⟨b1,bW h1 hch (fun k hk e=>?_)⟩,⟨b2,h2.chg hch ns n8⟩,⟨F',h3.chg hch nf n8 (fun k e=>by rw[e];exact h0),h4⟩,?_⟩
 ·rw[hch.block _ (Array.getElem?_eq_some_iff.1 h.stp).1 (fun e=>?_)]
  ·exact h.stp
  ·have:=h.stp
   rw[e,hq]at this
   simp at this
 ·obtain⟨cur,hb⟩:=own_block h1 hk
  exact n8 k cur _ hb e
 ·have hs:=h.chg.size
  refine⟨hch.os.trans h.chg.os,hch.tape.trans h.chg.tape,hch.output.trans h.chg.output,Nat.le_trans hs hch.size,fun k hk hn=>?_⟩
  rw[hch.block k (by omega) (by omega),h.chg.block k hk hn]
theorem rdm_made{w0:World}{F:Nat->Prop}{B:Nat}{w W W':World}{xb sb:Nat}{g:Cfg}{c:aT}{v0 v1 v2 v3 v4 v5 v6:Value}{ss:Array Value}{tv ov:Value}{LL:List Int}{outs:List (Int×List Int)}{N N':Nat}{M L M' L':Int}{s sN:ax}(hs:W.heap[w.heap.size]? =some (.cells ss 32 (0,0)))(hCl:ClAt B W xb sb g c v0 v1 v2 v3 v4 v5 v6)(hLv:LiveF w0 F N M L W sb s)(hb:Below w.heap.size w W)(ho:∃b,W'.ownsRow b 5 1 tv LL.length (U8 LL))(hou:∃b,OutsAt W' b ov outs)(hmo:MoreF w0 F N' M' L' W W' sb sN):RdM w0 F B w W' xb sb g c v0 v1 v2 v3 v4 v5 v6 ss tv ov LL outs N' M' L' sN:=by
 obtain⟨F',h3,h4⟩:=hmo.ex
 have hsz:=hb.size
 refine⟨?_,hCl.srv hLv hmo.chg,ho,hou,⟨F',h3,fun k hk=>(h4 k hk).imp id (fun h=>by omega)⟩,(Chg.of_below hb).trans (hmo.chg.mono (fun _ _ h=>Or.inl h))⟩
 rw[hmo.chg.block _ (Array.getElem?_eq_some_iff.1 hs).1 (fun e=>(hLv.ty _ e).not hs (by simp[SrvT]))]
 exact hs
theorem got_srv{w0:World}{F:Nat->Prop}{N N':Nat}{M L M' L':Int}{W W':World}{sb:Nat}{s sN:ax}(hLv:LiveF w0 F N M L W sb s)(hmo:MoreF w0 F N' M' L' W W' sb sN){q:Nat}{cs:Array Value}(hq:W.heap[q]? =some (.cells cs 46 (0,0))):W'.heap[q]? =some (.cells cs 46 (0,0)):=by
 rw[hmo.chg.block _ (Array.getElem?_eq_some_iff.1 hq).1 (fun e=>(hLv.ty _ e).not hq (by simp[SrvT]))]
 exact hq
theorem got_cli{w0:World}{F:Nat->Prop}{B:Nat}{w W W':World}{xb sb:Nat}{g:Cfg}{c:aT}{v0 v1 v2 v3 v4 v5 v6:Value}{ss:Array Value}{tv ov:Value}{LL:List Int}{outs:List (Int×List Int)}{N:Nat}{M L:Int}{sN:ax}(h:RdM w0 F B w W xb sb g c v0 v1 v2 v3 v4 v5 v6 ss tv ov LL outs N M L sN)(hch:Chg (cg xb v0 v1 v2 v3 v4 v5 v6) W W'){q:Nat}{cs:Array Value}(hq:W.heap[q]? =some (.cells cs 46 (0,0))):W'.heap[q]? =some (.cells cs 46 (0,0)):=by
 obtain⟨os,hC,_,_⟩:=h.cl.ex
 exact box_cli hq (by simp[cliT]) hC hch
theorem RdM.heard{w0:World}{F:Nat->Prop}{B:Nat}{w W W9:World}{xb sb:Nat}{g:Cfg}{c cE:aT}{v0 v1 v2 v3 v4 v5 v6 u0 u1 u2 u3 u4 u5:Value}{ss:Array Value}{tv ov:Value}{LL:List Int}{outs:List (Int×List Int)}{N:Nat}{M L:Int}{sN:ax}{os:List Value}(h:RdM w0 F B w W xb sb g c v0 v1 v2 v3 v4 v5 v6 ss tv ov LL outs N M L sN)(hB0:w0.heap.size<=B)(hC8:ClB B W xb sb g true c.credit c.strs.length c.old.length v0 v1 v2 v3 v4 v5 v6 (bK c.strs os))(hos:os.length=c.old.length)(hold:∀(q:Nat) (v:Value) (fr:List Int),os[q]? =some v->c.old[q]? =some fr->RdB W v (bL 300 q fr)/\fr.length<=1000)(hG:ClG B W (cg xb v0 v1 v2 v3 v4 v5 v6) W9 xb sb g true cE.credit cE.strs.length c.old.length u0 u1 u2 u3 u4 u5 v6 (bK cE.strs os))(ho:cE.old=c.old):DuoOut w0 B xb sb g (fun k=>F k\/cg xb v0 v1 v2 v3 v4 v5 v6 k) w W9 cE N M L sN:=by
 obtain⟨F',h3,h4⟩:=h.live
 exact gots_close hB0 h3 h4 h.chg h.cl (Chg.refl _ _) hC8 hos hold hG ho
theorem LiveF.readK{w0:World}{F:Nat->Prop}{N:Nat}{M L:Int}{sb:Nat}{g:Cfg}{c:aT}{s:ax}{j:Nat}{got sent waits Z:Int}(hg:bN g)(hsc:s.c=g)(hAt:AtK s j (bp c got sent waits))(hI:KInv g Z c)(hZ:Z<=500000000)(hsl:c.strs.length<=500000000){i:Nat}{k:KS}(hk:c.strs[i]? =some k){mm:Int}(hm:0<=mm/\mm<=5000)(hM:M<=100000000000000)(hN:N<=100000000000000):∃sN sent',(AtK sN j (bp (gotsK g c i k mm) got sent' waits)/\sN.c=g/\sent'=sent+fm (evsK g c i k mm))/\∀W,LiveF w0 F N M L W sb s->
  Calls Tryz.prog 17 #[.pointer (some ⟨sb,0,none⟩),.int .i64 300,.int .i64 i,.int .i64 mm] W fun e w'=>∃ta tc va vn vc,e=.returned (.tuple #[.agg #[.slice ta (aP i k.read (dt k mm).toNat).length tc,.bool (decide (k.read+dt k mm=k.fin)),.bool false],.slice va vn vc,.int .i64 0])/\(∃b,w'.ownsRow b 5 1 (.slice ta (aP i k.read (dt k mm).toNat).length tc) (aP i k.read (dt k mm).toNat).length (U8 (aP i k.read (dt k mm).toNat)))/\(∃b,OutsAt w' b (.slice va vn vc) (ef (evsK g c i k mm)))/\MoreF w0 F (N+2) (M+60) L W w' sb sN:=by
 subst hsc
 obtain⟨sent',hse,hrd⟩:=read_client hg hAt hI hZ hsl hk hm.1
 refine⟨_,sent',⟨hAt.set (c':=bp (gotsK s.c c i k mm) got sent' waits) rfl,rfl,hse⟩,fun W hL=>?_⟩
 refine(hL.read 300 i mm (by omega) (by omega) (by decide) (by omega)).mono ?_
 rintro e w' ⟨⟨tv,v,rfl,hto,hvo⟩,hmo⟩
 rw[hrd]at hto hvo hmo⊢
 obtain⟨ta,tc,rfl⟩:=aF hto
 obtain⟨va,vc,rfl⟩:=hvo.form
 exact⟨ta,tc,va,_,vc,rfl,⟨_,hto⟩,⟨_,hvo⟩,hmo⟩
end Go.Proofs.YthmdjhlhodpbhaaGreatDoor
