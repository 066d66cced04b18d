/- Bounded, 42 -/
import Derived.BigRegion
import Derived.Deep.RegionHeld3
import Derived.Deep.CutRange
import Derived.Deep.CutBlock
import Derived.Deep.LoopGhost
import Derived.BigQuiet
import Derived.Test.YthmdjhlhodpbhaaGreatDoorJ41
set_option maxHeartbeats 16000000
set_option maxRecDepth 8000
namespace Go.Proofs.YthmdjhlhodpbhaaGreatDoor
open Go.RowKit
theorem kbounded_any [LoM] (raw:Cfg)(gs:List GrmE)(ga:Option Addr)(gcap:Nat)(w:World)(hE:Env w)(hraw:CfgRaw raw)(hG:GramsAt w ga gs)(hn:gs.length<=1048576):
  Calls Tryz.prog 9 #[.agg (ez raw),.slice ga gs.length gcap] w fun e w'=>e=.returned (.bool true)/\Below w.heap.size w w':=by
 have hb0:Below w.heap.size w (w.alloc (.cells (ez raw) 26)):=ag w _
 have HX:Hid ((w.alloc (.cells (ez raw) 26)).heap[w.heap.size]? =some (.cells (ez raw) 26 (0,0))):=heap_alloc_new w _
 have HAw:=ae (kawake_any _ (hE.below hb0))
 have HCf:=ae (fun W=>kconfig_any raw W hraw)
 have HRt:=ae (cfgN_right raw)
 have HOk:=ae (cfgN_ok raw)
 have HSt:=ae (fun(w2 w4:World) (sb:Nat) h1 h2 h3=>bd_start (wi:=w) (w2:=w2) (w4:=w4) (sb:=sb) (g:=cfgN raw) h1 (cfgN_ok raw) h2 h3)
 have HNew:=ae (fun W=>live_new W (cfgN raw) (cfgN_right raw) W (Below.refl _ _))
 have E0:∀(sb:Nat) (W:World),(binOp .eql 37 (.pointer (some ⟨sb,0,none⟩)) (.pointer none)).run Tryz.prog W=.ok (.bool false) W:=fun sb W=>by kernel_rfl
 have HE:=ae hE
 have HG:=ae hG
 have HB0:=ae hb0
 clear hE hb0 hraw hG
 generalize cfgN raw=G at *
 unfold ez at HX HCf HB0 HAw⊢
 go_enter Tryz.func9,Tryz.ntmps9
 go_wp2_with fail
 refine HAw.out.mono ?_
 rintro e w1 ⟨rfl,hb1⟩
 have x1:=dq HX.out hb1
 have r0:w1.cell? ⟨w.heap.size,0,none⟩= some (.int .i64 raw.c0):=ax x1 0
 have r1:w1.cell? ⟨w.heap.size,1,none⟩= some (.int .i64 raw.c1):=ax x1 1
 have r2:w1.cell? ⟨w.heap.size,2,none⟩= some (.int .i64 raw.c2):=ax x1 2
 have r3:w1.cell? ⟨w.heap.size,3,none⟩= some (.int .i64 raw.c3):=ax x1 3
 have r4:w1.cell? ⟨w.heap.size,4,none⟩= some (.int .i64 raw.c4):=ax x1 4
 have r5:w1.cell? ⟨w.heap.size,5,none⟩= some (.int .i64 raw.c5):=ax x1 5
 have r6:w1.cell? ⟨w.heap.size,6,none⟩= some (.int .i64 raw.c6):=ax x1 6
 have r7:w1.cell? ⟨w.heap.size,7,none⟩= some (.int .i64 raw.c7):=ax x1 7
 have r8:w1.cell? ⟨w.heap.size,8,none⟩= some (.int .i64 raw.c8):=ax x1 8
 have r9:w1.cell? ⟨w.heap.size,9,none⟩= some (.int .i64 raw.c9):=ax x1 9
 have HB1:=ae (ai HB0.out hb1)
 clear x1 hb1 HB0 HX HAw
 go_wp2_with fail
 refine(HCf.out w1).mono ?_
 rintro e w2 ⟨rfl,hb2⟩
 have HB2:=ae (ai HB1.out hb2)
 clear hb2 HB1 HCf r0 r1 r2 r3 r4 r5 r6 r7 r8 r9
 have x3:(w2.alloc (.cells (ez G) 26)).heap[w2.heap.size]? =some (.cells (ez G) 26 (0,0)):=heap_alloc_new w2 _
 have c0:(w2.alloc (.cells (ez G) 26)).cell? ⟨w2.heap.size,0,none⟩= some (.int .i64 G.c0):=ax x3 0
 have HN3:=ae (HNew.out (w2.alloc (.cells (ez G) 26)))
 unfold ez at c0 HN3
 clear x3
 go_wp2_with fail
 refine HN3.out.mono ?_
 rintro e w4 ⟨⟨sb,rfl,hL⟩,hb4⟩
 have HBd:=ae (HSt.out w2 w4 sb HB2.out hb4 hL)
 have HEn:=ae (HE.out.below (ai HB2.out (ag w2 (.cells (ez G) 26))))
 clear hL hb4 HN3 HNew HB2 HSt c0
 go_wp2_with fail
 unfold ez at HBd HEn
 generalize w2.alloc (.cells #[.int .i64 G.c0,.int .i64 G.c1,.int .i64 G.c2,.int .i64 G.c3,.int .i64 G.c4,.int .i64 G.c5,.int .i64 G.c6,.int .i64 G.c7,.int .i64 G.c8,.int .i64 G.c9] 26)=wn at *
 generalize ((w4.alloc (.cells Tryz.zeroCells70 70)).alloc (.cells Tryz.zeroCells70 70)).alloc (.cells Tryz.zeroCells71 71)=w7 at *
 generalize w4.heap.size+1+1=pb at *
 generalize w4.heap.size+1=eb at *
 generalize w4.heap.size=ab at *
 generalize w2.heap.size=cb at *
 have H0:Hid (BdAt ⟨w,wn,cb,ab,eb,pb,sb,G⟩ 0 0 w7):=⟨dk G,_,_,_,HBd.out,Acc.new G,rfl,fun _=>⟨Int.le_refl _,Int.le_refl _⟩,fun _=>⟨Int.le_refl _,Int.le_refl _⟩⟩
 clear HBd
 obtain⟨n,hn'⟩:∃n,gs.length=n:=⟨_,rfl⟩
 rw[hn']at hn⊢
 have HN:=ae hn'
 clear hn'
 go_loopg [12,13] n (fun gk nv iv wr=>∃(k:Nat) (now:Int),nv=.int .i64 now/\iv=.int .i64 k/\k<=n/\gk=n-k/\(0<=now/\now<=1000020)/\Hid (BdAt ⟨w,wn,cb,ab,eb,pb,sb,G⟩ k now wr))
 case atStart=>exact⟨0,0,rfl,rfl,by omega,rfl,by omega,H0⟩
 case round=>
  clear H0
  obtain⟨k,now,rfl,rfl,hk,rfl,hnow,HU⟩:=hrel
  by_cases hlt:k<n
  ·have hlt':(k:Int)<(n:Int):=by omega
   go_upto_block 1 with fail
   refine wp_block ?_
   show Code.wp Tryz.prog (dW Tryz.f9) _ _ _
   refine bd_round (fun _ _ _ _ _ _ _ _ _ _ _ _ _ _ _ _ _ _ _ _ _ _ _ _ _ _ _ _ _ _ _ _ _ _ _ _ _ _ _ _ _ _ _ _ _ _ _ _ _ _ _ _ _ _ _ _ _ _ _ _ _ _ _ _ _ _ _ _ _ _ _ _ _ _ _ _ _ _ _ _ _ _ _ _ _ _ _ _ _ _ _ _ _ _ _ _ _ _ _ _ _ _ _ _ _ _ _ _ _ _ _ _ _ _ _ _ _ _ _ _ _ _ _ _ _ _ _ _ _ _ _ _ _ _ _ _ _ _ _ _ _ _ _ _ _ _ _ _ _ _ _ _ _ _ _ _ _ _ _ _ _ _ _ _ _ _ _ _ _ _ _ _ _ _ _ _ _ _ _ _ _ _ _ _ _ _ _ _ _ _ _ _ _ _ _ _ _ _ _ _ _ _ _ _ _ _ _ _ _ _ _ _ _ _ _ _ _ _ _ _ _ _ _ _ _ _ _ _ _ _ _ _ _ _ _ _ _ _ _ _ _ _ _ _ _ _ _ _ _ _ _ _ _ _ _ _ _ _ _ _ _ _ _ _ _ _ _ _ _ _ now' wz hnow' HAt=>?_) HG HN hlt hn hnow HU HEn HRt HOk
   go_wp2_with fail
   go_roundg (n-(k+1))
   case measure=>omega
   case rel=>exact⟨k+1,now',rfl,by go_num,by omega,rfl,hnow',HAt⟩
  ·have hlt':¬(k:Int)<(n:Int):=by omega
   obtain⟨s,came,went,pv,hbd,_⟩:=HU.out.ex
   have HF:=ae hbd.bel
   clear hbd
   go_wp2_with fail
   go_ret
   exact⟨rfl,HF.out⟩
end Go.Proofs.YthmdjhlhodpbhaaGreatDoor
