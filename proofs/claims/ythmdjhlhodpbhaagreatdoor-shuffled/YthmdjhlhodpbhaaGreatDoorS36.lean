/- Shuffled, 36 -/
import Derived.BigRegion
import Derived.Deep.RegionHeld3
import Derived.Deep.CutRange
import Derived.Deep.CutBlock
import Derived.Deep.LoopGhost
import Derived.BigQuiet
import Derived.Test.YthmdjhlhodpbhaaGreatDoorS35
set_option maxHeartbeats 16000000
set_option maxRecDepth 8000
namespace Go.Proofs.YthmdjhlhodpbhaaGreatDoor
open Go.RowKit
theorem runsB_range (T : Nat -> Bool) : ∀ k, 0 <= runsB T k /\ runsB T k <= k
 | 0 => by simp [runsB]
 | k + 1 => by
  have := runsB_range T k
  rw [runsB]
  split <;> omega
theorem plusT_nil (T : Nat -> Bool) (a : Int) : plusT T a a = T := by
 funext i
 unfold plusT
 have e : (decide (a <= (i : Int)) && decide ((i : Int) < a)) = false := by
  by_cases h : a <= (i : Int)
  ·rw [decide_eq_false (p := (i : Int) < a) (by omega), Bool.and_false]
  ·rw [decide_eq_false h, Bool.false_and]
 rw [e, Bool.or_false]
theorem plusT_succ (T : Nat -> Bool) (a p : Nat) (h : a <= p) (i : Nat) : plusT T a ((p + 1 : Nat) : Int) i = (plusT T a (p : Int) i || decide (i = p)) := by
 unfold plusT
 rw [Bool.or_assoc]
 congr 1
 rw [Bool.eq_iff_iff]
 simp only [Bool.and_eq_true, Bool.or_eq_true, decide_eq_true_eq]
 omega
theorem ShAt.outs {x : ShX} {N : Nat} {M L : Int} {s : SrvS} {T : Nat -> Bool} {PL : List (Int × Int)} {wx : World} (h : ShAt x N M L s T PL wx) {b : Nat} {v : Value} {o : List (Int × List Int)} (ho : OutsAt wx b v o) (p : Nat) : OutsAt (wx.setCell ⟨x.mb, p, none⟩ (.bool true)) b v o := by
 obtain ⟨cm, hm1, _⟩ := h.marks
 exact ho.chg (chg_setc wx x.mb p _) (fun k cur fr hk e => by subst e; rw [hm1] at hk; simp at hk) (fun k cur fr hk e => by subst e; rw [hm1] at hk; simp at hk)
theorem kshuffled_any (raw : Cfg) (len : Int) (ca oa : Option Addr) (cc oc : Nat) (cuts order : List Int) (w : World) (hE : Env w) (hraw : CfgRaw raw) (hlen : -9223372036854775808 <= len /\ len <= 9223372036854775807) (hcu : IntsIn w ca cuts) (hor : IntsIn w oa order) :
  Calls Tryz.prog 8 #[.agg (cfgC raw), .int .i64 len, .slice ca cuts.length cc, .slice oa order.length oc] w fun e w' => e = .returned (.bool true) /\ Below w.heap.size w w' := by
 obtain ⟨i0, hi, hz0, hz1, hz2⟩ := info_parts info_int
 have hb0 : Below w.heap.size w (w.alloc (.cells (cfgC raw) 26)) := below_alloc w _
 have HCn := hideIt (kconnected_any raw (w.alloc (.cells (cfgC raw) 26)) (hE.below hb0) hraw)
 have E0 : ∀ (xb : Nat) (W : World), (binOp .eql 28 (.pointer (some ⟨xb, 0, none⟩)) (.pointer none)).run Tryz.prog W = .ok (.bool false) W := fun xb W => by kernel_rfl
 have hok := keepC_ok raw
 have k1 := hok.c1
 have k2 := hok.c2
 have k4 := hok.c4
 have hsm : (keepC raw).c2 <= 67 := by
  have r1 := pickN_range raw.c1 (n := 60) (by decide)
  have r2 := pickN_range raw.c2 (n := 8 + pickN raw.c1 60 - 8 + 1) (by omega)
  simp only [keepC, cfgN]
  omega
 have HPn := hideIt (fun W => kpick_any len ((keepC raw).c2 + 1) W hlen (by omega))
 have hn := pickN_range len (n := (keepC raw).c2 + 1) (by omega)
 obtain ⟨n, hnn⟩ : ∃ n : Nat, pickN len ((keepC raw).c2 + 1) = n := ⟨(pickN len ((keepC raw).c2 + 1)).toNat, by omega⟩
 rw [hnn] at HPn hn
 have HPk := hideIt (fun (c m : Int) (W : World) (hc : -9223372036854775808 <= c /\ c <= 9223372036854775807) (hm : 0 < m /\ m <= 1000000000000) => kpick_any c m W hc hm)
 have HE := hideIt (hE.below hb0)
 have HB0 := hideIt hb0
 have HOk := hideIt hok
 have HCu := hideIt hcu
 have HOr := hideIt hor
 have hcl := hcu.len
 have hol := hor.len
 clear hE hb0 hraw hlen hok hnn hcu hor
 unfold cfgC at HCn HE HB0 ⊢
 generalize hcn : cuts.length = cn at *
 generalize hon : order.length = on at *
 have HCN := hideIt hcn
 have HON := hideIt hon
 clear hcn hon
 go_enter Tryz.func8, Tryz.ntmps8
 go_wp2_with fail
 refine HCn.out.mono ?_
 intro e w1 hC
 obtain ⟨sb, xb, got, sent, rfl, hL, hx, hxb⟩ := hC.ex
 have HL := hideIt hL
 have HX := hideIt hx
 have HB1 := hideIt (below_join HB0.out hC.bel)
 have x0 : w1.cell? ⟨xb, 0, none⟩ = some (.pointer (some ⟨sb, 0, none⟩)) := box_cells hx 0
 have x3 : w1.cell? ⟨xb, 3, none⟩ = some (.int .i64 (keepC raw).c2) := box_cells hx 3
 clear hC hL hx HCn HB0
 generalize keepC raw = G at *
 go_wp2_with fail
 refine (HPn.out _).mono ?_
 rintro e w2 ⟨rfl, rfl⟩
 clear HPn
 generalize hw0 : w.alloc (.cells #[.int .i64 raw.c0, .int .i64 raw.c1, .int .i64 raw.c2, .int .i64 raw.c3, .int .i64 raw.c4, .int .i64 raw.c5, .int .i64 raw.c6, .int .i64 raw.c7, .int .i64 raw.c8, .int .i64 raw.c9] 26) = w0 at HE HL hxb
 have HW0 : Hid (w0.heap.size = w.heap.size + 1 /\ Below w.heap.size w w0) := by
  rw [<- hw0]
  exact ⟨by simp, below_alloc w _⟩
 clear hw0
 go_upto_block 0 with fail
 go_cut [11, 12, 13, 14, 15] from 47 to 88 (fun f t a _ _ wx => ∃ fa fc ta tc p m, f = .slice fa m fc /\ t = .slice ta m tc /\ a = .int .i64 p /\ 0 <= p /\ p <= (n : Int) /\ m <= 68 /\ Hid (∃ l, m = l.length /\ CutInv n l p /\ TwoL w1.heap.size wx (.slice fa m fc) (.slice ta m tc) l) /\ Below w1.heap.size w1 wx)
 case first =>
  go_wp2_with fail
  go_loopw [11, 12, 13, 14] (fun f t a i wr => ∃ (k : Nat) (fa : Option Addr) (fc : Nat) (ta : Option Addr) (tc : Nat) (p : Int) (m : Nat), k <= cn /\ i = .int .i64 k /\ f = .slice fa m fc /\ t = .slice ta m tc /\ a = .int .i64 p /\ 0 <= p /\ p <= (n : Int) /\ (m : Int) <= p /\ Hid (∃ l, m = l.length /\ CutInv n l p /\ TwoL w1.heap.size wr (.slice fa m fc) (.slice ta m tc) l) /\ Below w1.heap.size w1 wr) (fun _ _ _ i _ => cn - (intOf i).toNat)
  case atStart => exact ⟨0, none, 0, none, 0, 0, 0, Nat.zero_le _, rfl, rfl, rfl, rfl, by omega, by omega, by omega, ⟨[], rfl, CutInv.nil n, TwoL.nil _ _⟩, Below.refl _ _⟩
  case round =>
   obtain ⟨k, fa, fc, ta, tc, p, m, hk, rfl, rfl, rfl, rfl, hp0, hp1, hm, hO, hbw⟩ := hrel
   have HB := hideIt hbw
   have hsz := hbw.size
   by_cases hlt : k < cn
   ·by_cases hpn : p < (n : Int)
    ·have hlt' : ((k : Int) < (cn : Int)) := by omega
     obtain ⟨b, off, hca, hcell⟩ := (HCu.out.below (below_join HB1.out hbw)).cell k (by rw [HCN.out]; exact hlt)
     have hcw := HCu.out.wf k
     subst hca
     generalize cuts.getD k 0 = c at hcell hcw
     have hq6 : -9223372036854775808 <= c.tdiv 6 /\ c.tdiv 6 <= 9223372036854775807 := tdiv6_range hcw
     have hr6 := pickN_range c (n := 6) (by decide)
     obtain ⟨q6, hqe⟩ : ∃ q6, wrap64 (c.tdiv 6) = q6 := ⟨_, rfl⟩
     have hq6' : -9223372036854775808 <= q6 /\ q6 <= 9223372036854775807 := by rw [<- hqe, wrap64_tdiv hcw]; exact hq6
     have hr3 := pickN_range q6 (n := 3) (by decide)
     have HP6 := hideIt (HPk.out c 6 wr hcw (by decide))
     have HP3 := hideIt (HPk.out q6 3 wr hq6' (by decide))
     generalize pickN c 6 = p6 at *
     generalize pickN q6 3 = p3 at *
     obtain ⟨hr60, hr61⟩ := hr6
     obtain ⟨hr30, hr31⟩ := hr3
     clear hbw hcw hq6 hq6'
     have hrem : 0 <= p3 % (p + 1) /\ p3 % (p + 1) <= p := ⟨Int.emod_nonneg _ (by omega), by have := Int.emod_lt_of_pos p3 (show 0 < p + 1 by omega); omega⟩
     rcases Int.lt_or_le (n : Int) (p + 1 + p6) with hgt | hgt
     ·go_wp2_with fail
      refine HP6.out.mono ?_
      rintro e w5 ⟨rfl, rfl⟩
      go_wp2_with fail
      refine HP3.out.mono ?_
      rintro e w5 ⟨rfl, rfl⟩
      have HLc := hideIt (lit_cells wr 3 [.int .i64 (p - p3 % (p + 1))] (by simp [maxLen]))
      have hba := below_alloc wr (.cells #[.int .i64 (p - p3 % (p + 1))] 3)
      obtain ⟨l, hml, hcut, htw⟩ := hO.out
      have HOa := hideIt ((htw.below hba).f)
      have HTw := hideIt htw
      have HBa := hideIt hba
      have HCut := hideIt (And.intro hml hcut)
      rw [<- hml] at HOa
      have hsz2 : w1.heap.size <= (wr.alloc (.cells #[.int .i64 (p - p3 % (p + 1))] 3)).heap.size := by simp; omega
      clear htw hba hO hml hcut
      go_upto_region 15 with (first
       | (at_builtin; refine wpList_append_nigh rfl _ _ 38 rfl w1.heap.size 3 i0 (.int .i64 0) 1 8 Tryz.underlying38 hi hz0 hz1 hz2 rfl (by decide) (.slice fa m fc) m (I64L (l.map (·.1))) rfl HOa.out ⟨wr.heap.size, 0, none⟩ 1 1 [.int .i64 (p - p3 % (p + 1))] rfl rfl HLc.out (by simp [Value.oneCell']) (by unfold maxLen; omega) (by omega) hsz2 ?_; intro v1 w6 hown1 hgrow1 hn1))
      obtain ⟨va, vc, rfl⟩ := own_form hown1
      obtain ⟨ht1, hap1⟩ := HTw.out.mid HBa.out hgrow1 hn1
      have hb2 := below_alloc w6 (.cells #[.int .i64 ((n : Int))] 3)
      have HOt := hideIt (own_below ht1 hb2)
      rw [<- HCut.out.1] at HOt
      have HLc2 := hideIt (lit_cells w6 3 [.int .i64 ((n : Int))] (by simp [maxLen]))
      have hsz6 : w1.heap.size <= w6.heap.size := by have := hgrow1.size; omega
      have hsz3 : w1.heap.size <= (w6.alloc (.cells #[.int .i64 ((n : Int))] 3)).heap.size := by simp; omega
      have HB6 := hideIt ((below_join HB.out HBa.out).grown hgrow1 hsz2 (fun q hq => (HOa.out.lt q hq).1))
      have HO1 := hideIt (And.intro hown1 (And.intro hap1 hb2))
      clear hown1 hgrow1 hn1 ht1 hap1 hb2 HOa HLc HTw HBa
      go_wp2_with (first
       | (at_builtin; refine wpList_append_nigh rfl _ _ 38 rfl w1.heap.size 3 i0 (.int .i64 0) 1 8 Tryz.underlying38 hi hz0 hz1 hz2 rfl (by decide) (.slice ta m tc) m (I64L (l.map (·.2))) rfl HOt.out ⟨w6.heap.size, 0, none⟩ 1 1 [.int .i64 ((n : Int))] rfl rfl HLc2.out (by simp [Value.oneCell']) (by unfold maxLen; omega) (by omega) hsz3 ?_; intro v2 w8 hown2 hgrow2 hn2))
      obtain ⟨ua, uc, rfl⟩ := own_form hown2
      have HO2 := hideIt (And.intro hown2 (And.intro hgrow2 hn2))
      clear hown2 hgrow2 hn2
      go_wp2_with fail
      go_roundw
      case rel =>
       obtain ⟨h1, h2, h3⟩ := HO1.out
       obtain ⟨q1, q2, q3⟩ := HO2.out
       obtain ⟨c1, c2⟩ := HCut.out
       refine ⟨k + 1, va, vc, ua, uc, (n : Int), m + 1, by omega, by go_num, rfl, rfl, rfl, by omega, by omega, by omega, ⟨l ++ [(p - p3 % (p + 1), (n : Int))], by simp [c1], c2.snoc (by omega) (by omega), ?_⟩, ?_⟩
       ·subst c1
        exact TwoL.snoc h1 h2 h3 q2 q3 q1
       ·exact (below_join HB6.out (below_alloc w6 _)).grown q2 (by simp; omega) (fun q hq => (HOt.out.lt q hq).1)
      case measure => simp [intOf]; omega
     ·go_wp2_with fail
      refine HP6.out.mono ?_
      rintro e w5 ⟨rfl, rfl⟩
      go_wp2_with fail
      refine HP3.out.mono ?_
      rintro e w5 ⟨rfl, rfl⟩
      have HLc := hideIt (lit_cells wr 3 [.int .i64 (p - p3 % (p + 1))] (by simp [maxLen]))
      have hba := below_alloc wr (.cells #[.int .i64 (p - p3 % (p + 1))] 3)
      obtain ⟨l, hml, hcut, htw⟩ := hO.out
      have HOa := hideIt ((htw.below hba).f)
      have HTw := hideIt htw
      have HBa := hideIt hba
      have HCut := hideIt (And.intro hml hcut)
      rw [<- hml] at HOa
      have hsz2 : w1.heap.size <= (wr.alloc (.cells #[.int .i64 (p - p3 % (p + 1))] 3)).heap.size := by simp; omega
      clear htw hba hO hml hcut
      go_upto_region 15 with (first
       | (at_builtin; refine wpList_append_nigh rfl _ _ 38 rfl w1.heap.size 3 i0 (.int .i64 0) 1 8 Tryz.underlying38 hi hz0 hz1 hz2 rfl (by decide) (.slice fa m fc) m (I64L (l.map (·.1))) rfl HOa.out ⟨wr.heap.size, 0, none⟩ 1 1 [.int .i64 (p - p3 % (p + 1))] rfl rfl HLc.out (by simp [Value.oneCell']) (by unfold maxLen; omega) (by omega) hsz2 ?_; intro v1 w6 hown1 hgrow1 hn1))
      obtain ⟨va, vc, rfl⟩ := own_form hown1
      obtain ⟨ht1, hap1⟩ := HTw.out.mid HBa.out hgrow1 hn1
      have hb2 := below_alloc w6 (.cells #[.int .i64 (p + 1 + p6)] 3)
      have HOt := hideIt (own_below ht1 hb2)
      rw [<- HCut.out.1] at HOt
      have HLc2 := hideIt (lit_cells w6 3 [.int .i64 (p + 1 + p6)] (by simp [maxLen]))
      have hsz6 : w1.heap.size <= w6.heap.size := by have := hgrow1.size; omega
      have hsz3 : w1.heap.size <= (w6.alloc (.cells #[.int .i64 (p + 1 + p6)] 3)).heap.size := by simp; omega
      have HB6 := hideIt ((below_join HB.out HBa.out).grown hgrow1 hsz2 (fun q hq => (HOa.out.lt q hq).1))
      have HO1 := hideIt (And.intro hown1 (And.intro hap1 hb2))
      clear hown1 hgrow1 hn1 ht1 hap1 hb2 HOa HLc HTw HBa
      go_wp2_with (first
       | (at_builtin; refine wpList_append_nigh rfl _ _ 38 rfl w1.heap.size 3 i0 (.int .i64 0) 1 8 Tryz.underlying38 hi hz0 hz1 hz2 rfl (by decide) (.slice ta m tc) m (I64L (l.map (·.2))) rfl HOt.out ⟨w6.heap.size, 0, none⟩ 1 1 [.int .i64 (p + 1 + p6)] rfl rfl HLc2.out (by simp [Value.oneCell']) (by unfold maxLen; omega) (by omega) hsz3 ?_; intro v2 w8 hown2 hgrow2 hn2))
      obtain ⟨ua, uc, rfl⟩ := own_form hown2
      have HO2 := hideIt (And.intro hown2 (And.intro hgrow2 hn2))
      clear hown2 hgrow2 hn2
      go_wp2_with fail
      go_roundw
      case rel =>
       obtain ⟨h1, h2, h3⟩ := HO1.out
       obtain ⟨q1, q2, q3⟩ := HO2.out
       obtain ⟨c1, c2⟩ := HCut.out
       refine ⟨k + 1, va, vc, ua, uc, p + 1 + p6, m + 1, by omega, by go_num, rfl, rfl, rfl, by omega, by omega, by omega, ⟨l ++ [(p - p3 % (p + 1), p + 1 + p6)], by simp [c1], c2.snoc (by omega) (by omega), ?_⟩, ?_⟩
       ·subst c1
        exact TwoL.snoc h1 h2 h3 q2 q3 q1
       ·exact (below_join HB6.out (below_alloc w6 _)).grown q2 (by simp; omega) (fun q hq => (HOt.out.lt q hq).1)
      case measure => simp [intOf]; omega
    ·obtain rfl : p = (n : Int) := by omega
     have hlt' : ((k : Int) < (cn : Int)) := by omega
     go_wp2_with fail
     go_meet
     exact ⟨fa, fc, ta, tc, _, m, rfl, rfl, rfl, by omega, by omega, by omega, hO, HB.out⟩
   ·have hlt' : ¬ ((k : Int) < (cn : Int)) := by omega
    go_wp2_with fail
    go_meet
    exact ⟨fa, fc, ta, tc, _, m, rfl, rfl, rfl, by omega, by omega, by omega, hO, HB.out⟩
 case rest =>
  obtain ⟨fa, fc, ta, tc, p, m, rfl, rfl, rfl, hp0, hp1, hm, hO, hbc⟩ := hcut
  have hsz := hbc.size
  have HBc := hideIt hbc
  have HLc := hideIt (lit_cells wc 3 [.int .i64 p] (by simp [maxLen]))
  have hba := below_alloc wc (.cells #[.int .i64 p] 3)
  obtain ⟨l, hml, hcut, htw⟩ := hO.out
  have HOa := hideIt ((htw.below hba).f)
  have HTw := hideIt htw
  have HBa := hideIt hba
  have HCut := hideIt (And.intro hml hcut)
  rw [<- hml] at HOa
  have hsz2 : w1.heap.size <= (wc.alloc (.cells #[.int .i64 p] 3)).heap.size := by simp; omega
  clear htw hba hO hml hcut hbc
  go_upto_region 18 with (first
   | (at_builtin; refine wpList_append_nigh rfl _ _ 38 rfl w1.heap.size 3 i0 (.int .i64 0) 1 8 Tryz.underlying38 hi hz0 hz1 hz2 rfl (by decide) (.slice fa m fc) m (I64L (l.map (·.1))) rfl HOa.out ⟨wc.heap.size, 0, none⟩ 1 1 [.int .i64 p] rfl rfl HLc.out (by simp [Value.oneCell']) (by unfold maxLen; omega) (by omega) hsz2 ?_; intro v1 w6 hown1 hgrow1 hn1))
  obtain ⟨va, vc, rfl⟩ := own_form hown1
  obtain ⟨ht1, hap1⟩ := HTw.out.mid HBa.out hgrow1 hn1
  have hb2 := below_alloc w6 (.cells #[.int .i64 (n : Int)] 3)
  have HOt := hideIt (own_below ht1 hb2)
  rw [<- HCut.out.1] at HOt
  have HLc2 := hideIt (lit_cells w6 3 [.int .i64 (n : Int)] (by simp [maxLen]))
  have hsz6 : w1.heap.size <= w6.heap.size := by have := hgrow1.size; omega
  have hsz3 : w1.heap.size <= (w6.alloc (.cells #[.int .i64 (n : Int)] 3)).heap.size := by simp; omega
  have HB6 := hideIt ((below_join HBc.out HBa.out).grown hgrow1 hsz2 (fun q hq => (HOa.out.lt q hq).1))
  have HO1 := hideIt (And.intro hown1 (And.intro hap1 hb2))
  clear hown1 hgrow1 hn1 ht1 hap1 hb2 HOa HLc HTw HBa
  go_upto_region 19 with (first
   | (at_builtin; refine wpList_append_nigh rfl _ _ 38 rfl w1.heap.size 3 i0 (.int .i64 0) 1 8 Tryz.underlying38 hi hz0 hz1 hz2 rfl (by decide) (.slice ta m tc) m (I64L (l.map (·.2))) rfl HOt.out ⟨w6.heap.size, 0, none⟩ 1 1 [.int .i64 (n : Int)] rfl rfl HLc2.out (by simp [Value.oneCell']) (by unfold maxLen; omega) (by omega) hsz3 ?_; intro v2 w8 hown2 hgrow2 hn2))
  obtain ⟨ua, uc, rfl⟩ := own_form hown2
  obtain ⟨h1, h2, h3⟩ := HO1.out
  obtain ⟨c1, c2⟩ := HCut.out
  have HB8 := hideIt ((below_join HB6.out h3).grown hgrow2 hsz3 (fun q hq => (HOt.out.lt q hq).1))
  subst c1
  have htl := TwoL.snoc h1 h2 h3 hgrow2 hn2 hown2
  obtain ⟨fb, fcap, e1, hfb, _, hfcap⟩ := own_some h1 (by omega)
  obtain ⟨tb, tcap, e2, htb, _, htcap⟩ := own_some hown2 (by omega)
  rw [e1, e2] at htl ⊢
  have hsi := c2.done
  have hll : (l ++ [(p, (n : Int))]).length = l.length + 1 := by simp
  rw [<- hll] at htl ⊢
  generalize l ++ [(p, (n : Int))] = PL at *
  have hkn := hsi.len
  have HTL := hideIt htl
  have HSI := hideIt hsi
  clear h1 h2 h3 hown2 hgrow2 hn2 htl hsi e1 e2 HO1 HOt HLc2 HB6 HCut c2 hll hsz6 hsz3 hsz2 hm hp0 hp1
  obtain ⟨K, hK⟩ : ∃ K, PL.length = K := ⟨_, rfl⟩
  rw [hK] at HTL hkn ⊢
  have HKK := hideIt hK
  have hmb := below_alloc w8 (.cells Tryz.zeroCells62 62)
  have HM0 : Hid (MarksAt (w8.alloc (.cells Tryz.zeroCells62 62)) w8.heap.size (fun _ => false)) := ⟨_, heap_alloc_new w8 _, fun p hp => by
   have e : Tryz.zeroCells62 = (List.replicate 80 (Value.bool false)).toArray := by kernel_rfl
   rw [e, List.getElem?_toArray, List.getElem?_replicate, if_pos hp]⟩
  have hs8 : w1.heap.size <= w8.heap.size := HB8.out.size
  have hsw : w.heap.size <= w1.heap.size := HB1.out.size
  have hs0 : w0.heap.size <= w1.heap.size := HL.out.bel.size
  have HI0 : Hid (∃ PL' T y got', ShAt ⟨w, w0, w1.heap.size, sb, xb, w8.heap.size, fb, fcap, tb, tcap, K, G⟩ (100 + 300 * 0) (1000 + 500 * ((0 : Nat) : Int)) (100 + 4 * ((0 : Nat) : Int)) (shufS G got' sent (numsA 0) y) T PL' (w8.alloc (.cells Tryz.zeroCells62 62)) /\ Shuf G n T y /\ SentInv n PL' 0 T y.final) := by
   refine ⟨PL, fun _ => false, strNew G.c2, got, ⟨hsw, hs0, hs8, hK, ?_, HTL.out.below hmb, HM0.out, box_below (box_below HX.out HB8.out) hmb, below_join (below_join HB1.out HB8.out) hmb⟩, shuf_new G n, HSI.out⟩
   have e : shufS G got sent (numsA 0) (strNew G.c2) = srvA G (conA G got sent [] (List.replicate G.c3.toNat (strNew G.c2))) := by
    unfold shufS
    rw [show (List.replicate G.c3.toNat (strNew G.c2)).set 0 (strNew G.c2) = List.replicate G.c3.toNat (strNew G.c2) from set_self (by rw [List.getElem?_replicate, if_pos (by have := HOk.out.c3; omega)])]
    rfl
   rw [e]
   exact (HL.out.below HB8.out).below hmb
  clear hmb HM0 HTL HSI HL HX HB8 x0 x3 hK
  clear hsz hs8 hsw hs0
  go_wp2_with fail
  go_loopg [18] K (fun gk i wr => ∃ k : Nat, i = .int .i64 k /\ gk = K - k /\ k <= K /\ Hid (∃ PL T y got, ShAt ⟨w, w0, w1.heap.size, sb, xb, w8.heap.size, fb, fcap, tb, tcap, K, G⟩ (100 + 300 * k) (1000 + 500 * (k : Int)) (100 + 4 * (k : Int)) (shufS G got sent (numsA k) y) T PL wr /\ Shuf G n T y /\ SentInv n PL k T y.final))
  case atStart => exact ⟨0, rfl, rfl, Nat.zero_le _, HI0⟩
  case round =>
   obtain ⟨k, rfl, rfl, hk, HI⟩ := hrel
   obtain ⟨PL, T, y, got, hS, hSh, hSi⟩ := HI.out
   have HS := hideIt hS
   have HSh := hideIt hSh
   have HSi := hideIt hSi
   clear HI HI0 hS hSh hSi
   by_cases hlt : k < K
   ·have hlt' : (k : Int) < (K : Int) := by omega
    go_upto_if 108 with fail
    go_cut [19] from 108 to 118 (fun s19 wx => ∃ j : Nat, s19 = .int .i64 j /\ k <= j /\ j < K /\ wr = wx)
    case first =>
     by_cases hko : k < on
     ·have hko' : (k : Int) < (on : Int) := by omega
      obtain ⟨b, off, hoa, hcell⟩ := (HOr.out.below HS.out.bel).cell k (by rw [HON.out]; exact hko)
      have hcw := HOr.out.wf k
      subst hoa
      generalize order.getD k 0 = c at hcell hcw
      have hr := pickN_range c (n := (K : Int) - (k : Int)) (by omega)
      have HP := hideIt (HPk.out c ((K : Int) - (k : Int)) wr hcw (by omega))
      generalize pickN c ((K : Int) - (k : Int)) = pk at *
      obtain ⟨pn, rfl⟩ : ∃ pn : Nat, pk = pn := ⟨pk.toNat, by omega⟩
      clear hcw
      go_wp2_with fail
      refine HP.out.mono ?_
      rintro e w5 ⟨rfl, rfl⟩
      go_wp2_with fail
      go_meet
      exact ⟨k + pn, by simp, by omega, by omega, rfl⟩
     ·have hko' : ¬ (k : Int) < (on : Int) := by omega
      go_wp2_with fail
      go_meet
      exact ⟨k, rfl, by omega, by omega, rfl⟩
    case rest =>
     obtain ⟨j, rfl, hkj, hjK, rfl⟩ := hcut
     clear HPk HOr HCu hcl hol
     have hPl : PL.length = K := HS.out.len
     have hfl : (PL.map (·.1)).length = K := by simp [hPl]
     have htl : (PL.map (·.2)).length = K := by simp [hPl]
     have htwo : TwoL w1.heap.size wr (.slice (some ⟨fb, 0, none⟩) K fcap) (.slice (some ⟨tb, 0, none⟩) K tcap) PL := HS.out.two
     have f1 := own_int (hPl ▸ htwo.f) j (by rw [hfl]; exact hjK)
     have t1 := own_int (hPl ▸ htwo.t) j (by rw [htl]; exact hjK)
     have f2 := own_int (hPl ▸ htwo.f) k (by rw [hfl]; exact hlt)
     have t2 := own_int (hPl ▸ htwo.t) k (by rw [htl]; exact hlt)
     have zf : ∀ q, wr.frozen? ⟨fb, q, none⟩ = false := own_frozen (hPl ▸ htwo.f)
     have zt : ∀ q, wr.frozen? ⟨tb, q, none⟩ = false := own_frozen (hPl ▸ htwo.t)
     have hne : fb ≠ tb := HS.out.lows.2.2
     have hne2 : tb ≠ fb := Ne.symm hne
     rw [pairAt_fst] at f1 f2
     rw [pairAt_snd] at t1 t2
     have hrg := HSi.out.rng _ (List.mem_of_getElem? (pairAt_some (l := PL) (j := j) (by rw [hPl]; exact hjK)))
     have HStep := hideIt (fun fin' h => HSi.out.step (fin' := fin') hkj (by rw [hPl]; exact hjK) h)
     have HSw : Hid (swapL PL k j = (PL.set j (pairAt PL k)).set k (pairAt PL j)) := rfl
     clear hfl htl htwo hPl
     generalize pairAt PL j = ab at *
     obtain ⟨A, B⟩ := ab
     generalize pairAt PL k = cd at *
     obtain ⟨C, D⟩ := cd
     simp only at hrg f1 f2 t1 t2 HStep
     obtain ⟨a, rfl⟩ : ∃ a : Nat, A = a := ⟨A.toNat, by omega⟩
     obtain ⟨b, rfl⟩ : ∃ b : Nat, B = b := ⟨B.toNat, by omega⟩
     obtain ⟨hrg0, hrg1, hrg2⟩ := hrg
     go_wp2_with fail
     go_region
     go_upto_region 28 with fail
     go_cut [20] from 127 to 140 (fun s20 wx => s20 = .int .i64 (a : Int) /\ Hid (ShAt ⟨w, w0, w1.heap.size, sb, xb, w8.heap.size, fb, fcap, tb, tcap, K, G⟩ (100 + 300 * k) (1000 + 500 * (k : Int)) (100 + 4 * (k : Int)) (shufS G got sent (numsA k) y) T (PL.set j (C, D)) wx))
     case first =>
      go_region
      go_wp2_with fail
      go_meet
      exact ⟨rfl, (HS.out.put j C D).below (below_drewN (Below.refl _ _) 2)⟩
     case rest =>
      obtain ⟨rfl, HS2⟩ := hcut
      have hPl : (PL.set j (C, D)).length = K := HS2.out.len
      have hfl : ((PL.set j (C, D)).map (·.1)).length = K := by simp [<- hPl]
      have htl : ((PL.set j (C, D)).map (·.2)).length = K := by simp [<- hPl]
      have htwo : TwoL w1.heap.size wc (.slice (some ⟨fb, 0, none⟩) K fcap) (.slice (some ⟨tb, 0, none⟩) K tcap) (PL.set j (C, D)) := HS2.out.two
      have f3 := own_int (hPl ▸ htwo.f) k (by rw [hfl]; exact hlt)
      have t3 := own_int (hPl ▸ htwo.t) k (by rw [htl]; exact hlt)
      have zf : ∀ q, wc.frozen? ⟨fb, q, none⟩ = false := own_frozen (hPl ▸ htwo.f)
      have zt : ∀ q, wc.frozen? ⟨tb, q, none⟩ = false := own_frozen (hPl ▸ htwo.t)
      generalize ((PL.set j (C, D)).map (·.1)).getD k 0 = e1 at f3
      generalize ((PL.set j (C, D)).map (·.2)).getD k 0 = e2 at t3
      clear hPl hfl htl htwo HS
      go_upto_if 151 with fail
      have HS3 : Hid (ShAt ⟨w, w0, w1.heap.size, sb, xb, w8.heap.size, fb, fcap, tb, tcap, K, G⟩ (100 + 300 * k) (1000 + 500 * (k : Int)) (100 + 4 * (k : Int)) (shufS G got sent (numsA k) y) T (swapL PL k j) ((wc.setCell ⟨fb, k, none⟩ (.int .i64 (a : Int))).setCell ⟨tb, k, none⟩ (.int .i64 (b : Int)))) := by
       rw [HSw.out]
       exact HS2.out.put k a b
      generalize (wc.setCell ⟨fb, k, none⟩ (.int .i64 (a : Int))).setCell ⟨tb, k, none⟩ (.int .i64 (b : Int)) = w3 at HS3 ⊢
      generalize swapL PL k j = PL2 at HS3 HStep
      clear f3 t3 zf zt HS2 HSw hne hne2
      have x0 : w3.cell? ⟨xb, 0, none⟩ = some (.pointer (some ⟨sb, 0, none⟩)) := box_cells HS3.out.box 0
      go_cut [22] from 151 to 151 (fun s22 wx => s22 = .int .i64 (if (b : Int) = (n : Int) then 4 else 3) /\ w3 = wx)
      case first =>
       by_cases hbn : (b : Int) = (n : Int)
       ·have hbb : ((b : Int) == (n : Int)) = true := by simp [hbn]
        have HBn := hideIt hbn
        clear hbn
        go_wp2_with fail
        go_meet
        exact ⟨by rw [if_pos HBn.out], rfl⟩
       ·have hbb : ((b : Int) == (n : Int)) = false := by simp [hbn]
        have HBn := hideIt hbn
        clear hbn
        go_wp2_with fail
        go_meet
        exact ⟨by rw [if_neg HBn.out], rfl⟩
      case rest =>
       obtain ⟨rfl, rfl⟩ := hcut
       have hkd : (0 : Int) <= (if (b : Int) = (n : Int) then 4 else 3) /\ (if (b : Int) = (n : Int) then (4 : Int) else 3) < 256 := by split <;> decide
       have HR1 := hideIt (shuf_recv HOk.out HSh.out (a := a) (b := b) (got := got) (sent := sent) (p := k) ⟨hrg0, hrg1, hrg2⟩ (by omega) (by omega) (comes_A k (by omega)))
       have HR2 := hideIt (fun got' y' (h : Shuf G n (plusT T a b) y') (hr : ¬ G.c4 < runsB (plusT T a b) n) => shuf_again HOk.out h (a := a) (b := b) (got := got') (sent := sent) (p := 1000 + k) ⟨hrg0, hrg1, hrg2⟩ (by omega) (by omega) (comes_B k (by omega)) hr)
       have hpl := pieceL_len2 (k := if (b : Int) = (n : Int) then 4 else 3) (st := 0) (fr := a) (tt := b) (by omega)
       have HPi := hideIt (fun (W : World) => kpiece_rd (if (b : Int) = (n : Int) then 4 else 3) 0 a b W hkd (by decide) (by omega) (by omega))
       have HPb := hideIt (pieceL_bytes (k := if (b : Int) = (n : Int) then 4 else 3) (st := 0) (fr := a) (tt := b) hkd (by decide) (by omega) (by omega))
       generalize (if (b : Int) = (n : Int) then (4 : Int) else 3) = kd at *
       have hdl : ∀ q : Int, (dataL 300 q (pieceL kd 0 a b)).length <= 140 := by
        intro q
        have k1 := putL_length 300
        have k2 := putL_length q
        simp only [dataL, List.length_append, List.length_cons, List.length_nil]
        omega
       have HDl := hideIt hdl
       have HDa := hideIt (fun (q : Int) (hq : 0 <= q /\ q <= 2000) (fv : Value) (W : World) (hR : RdB W fv (pieceL kd 0 a b)) => kdata_any 300 q (pieceL kd 0 a b) fv W (by decide) (by omega) hR (by omega))
       generalize pieceL kd 0 a b = fr at *
       have HRc : Hid (∀ (W : World) (v : Value), Below w3.heap.size w3 W -> RdB W v (dataL 300 k fr) -> Calls Tryz.prog 20 #[.pointer (some ⟨sb, 0, none⟩), .int .i64 1, v] W fun e w' => ∃ oa on oc, e = .returned (.slice oa on oc) /\ Hid (OutsAt w' W.heap.size (.slice oa on oc) (receiveS (shufS G got sent (numsA k) y) 1 (dataL 300 k fr)).2 /\ ShAt ⟨w, w0, w1.heap.size, sb, xb, w8.heap.size, fb, fcap, tb, tcap, K, G⟩ (100 + 300 * k + 150) (1000 + 500 * (k : Int) + 250) (100 + 4 * (k : Int) + 2) (receiveS (shufS G got sent (numsA k) y) 1 (dataL 300 k fr)).1 T PL2 w') /\ w'.cell? ⟨xb, 0, none⟩ = some (.pointer (some ⟨sb, 0, none⟩))) := by
        intro W v hW hR
        exact (HS3.out.below hW).recv HE.out HW0.out.1 HW0.out.2 hR (HDl.out _) (by omega) (by omega) (by omega)
       have hk2 : (0 : Int) <= (k : Int) /\ (k : Int) <= 2000 := by omega
       clear HS3 hpl hdl
       have d3 : w3.drew.cell? ⟨xb, 0, none⟩ = some (.pointer (some ⟨sb, 0, none⟩)) := x0
       go_wp2_with fail
       go_region_held3 (fun w' => w'.cell? ⟨xb, 0, none⟩ = some (.pointer (some ⟨sb, 0, none⟩))) (first | with_reducible assumption | go_keep) (first
        | (go_at_call 23; refine (HPi.out _).mono ?_; rintro e w4 ⟨pa, pl, pc, rfl, hpo, hb4⟩; have k4 := cell_below x0 (below_undrew hb4))
        | (go_at_call 22; refine (HDa.out _ hk2 _ _ hpo).mono ?_; rintro e w5 ⟨dv, rfl, hdo, hb5⟩; obtain ⟨da, dc, rfl⟩ := own_form hdo; have k5 := cell_below k4 hb5)
        | (go_at_call 20; refine (HRc.out w5 _ (below_join (below_undrew hb4) hb5) (RdB.of_own hdo (dataL_bytes (by decide) (by omega) HPb.out) (by have := HDl.out (k : Int); omega))).mono ?_; rintro e w6 ⟨oa6, on6, oc6, rfl, HO6, x6⟩))
       generalize receiveS (shufS G got sent (numsA k) y) 1 (dataL 300 k fr) = R1 at HO6 HR1
       have HO0 : Hid (OutsAt w6 w5.heap.size (.slice oa6 on6 oc6) R1.2 /\ ShAt ⟨w, w0, w1.heap.size, sb, xb, w8.heap.size, fb, fcap, tb, tcap, K, G⟩ (100 + 300 * k + 150) (1000 + 500 * (k : Int) + 250) (100 + 4 * (k : Int) + 2) R1.1 (plusT T a (a : Int)) PL2 w6) := by
        rw [plusT_nil]
        exact HO6.out
       clear hpo hb4 hdo hb5 k4 k5 HRc x0 d3 x6 HO6 hk2
       go_wp2_with fail
       go_loopg [24] (b - a) (fun gk pv wx => ∃ p : Nat, pv = .int .i64 p /\ a <= p /\ p <= b /\ gk = b - p /\ Hid (OutsAt wx w5.heap.size (.slice oa6 on6 oc6) R1.2 /\ ShAt ⟨w, w0, w1.heap.size, sb, xb, w8.heap.size, fb, fcap, tb, tcap, K, G⟩ (100 + 300 * k + 150) (1000 + 500 * (k : Int) + 250) (100 + 4 * (k : Int) + 2) R1.1 (plusT T a (p : Int)) PL2 wx))
       case atStart => exact ⟨a, rfl, by omega, by omega, rfl, HO0⟩
       case round =>
        obtain ⟨p, rfl, hap, hpb, rfl, HP⟩ := hrel
        clear HO0
        by_cases hpl : p < b
        ·have hpl' : (p : Int) < (b : Int) := by omega
         have hc := HP.out.2.marks.cell p (by omega)
         have zm : ∀ q, wr.frozen? ⟨w8.heap.size, q, none⟩ = false := HP.out.2.marks.frozen
         simp only at hc
         go_wp2_with fail
         go_roundg (b - (p + 1))
         case measure => omega
         case rel => exact ⟨p + 1, by go_num, by omega, by omega, rfl, ⟨HP.out.2.outs HP.out.1 p, HP.out.2.mark p (plusT_succ T a p hap)⟩⟩
        ·obtain rfl : p = b := by omega
         have hpl' : ¬ (p : Int) < (p : Int) := by omega
         obtain ⟨w7, hw7⟩ : ∃ w7, w7 = wr := ⟨_, rfl⟩
         subst hw7
         generalize plusT T (a : Int) (p : Int) = T2 at *
         have hcs : ∀ q : Nat, q < 80 -> w7.cell? ⟨w8.heap.size, q, none⟩ = some (.bool (T2 q)) := HP.out.2.marks.cell
         have HCs := hideIt hcs
         clear hcs
         go_wp2_with fail
         go_loopg [25, 26] n (fun gk rv pv wx => ∃ q : Nat, pv = .int .i64 q /\ q <= n /\ gk = n - q /\ rv = .int .i64 (runsB T2 q) /\ w7 = wx)
         case atStart => exact ⟨0, rfl, by omega, rfl, rfl, rfl⟩
         case round =>
          obtain ⟨q, rfl, hqn, rfl, rfl, rfl⟩ := hrel
          by_cases hql : q < n
          ·have hql' : (q : Int) < (n : Int) := by omega
           have hrr := runsB_range T2 q
           have hc := HCs.out q (by omega)
           have HSu : Hid (runsB T2 (q + 1) = runsB T2 q + if T2 q && (decide (q = 0) || !T2 (q - 1)) then 1 else 0) := rfl
           generalize runsB T2 q = r at *
           obtain ⟨hr0, hr1⟩ := hrr
           cases ht : T2 q with
           | false =>
            rw [ht] at hc HSu
            clear ht
            go_wp2_with fail
            go_roundg (n - (q + 1))
            case measure => omega
            case rel => exact ⟨q + 1, by go_num, by omega, rfl, by rw [HSu.out]; simp, rfl⟩
           | true =>
            rw [ht] at hc HSu
            clear ht
            cases q with
            | zero =>
             go_wp2_with fail
             go_roundg (n - (0 + 1))
             case measure => omega
             case rel => exact ⟨0 + 1, by go_num, by omega, rfl, by rw [HSu.out]; simp, rfl⟩
            | succ q =>
             have hz : (((q + 1 : Nat) : Int) == 0) = false := by simp; omega
             have hc2 := HCs.out q (by omega)
             simp only [Nat.add_sub_cancel] at HSu
             cases ht : T2 q with
             | false =>
              rw [ht] at hc2 HSu
              clear ht
              go_wp2_with fail
              go_roundg (n - (q + 1 + 1))
              case measure => omega
              case rel => exact ⟨q + 1 + 1, by go_num, by omega, rfl, by rw [HSu.out]; simp, rfl⟩
             | true =>
              rw [ht] at hc2 HSu
              clear ht
              go_wp2_with fail
              go_roundg (n - (q + 1 + 1))
              case measure => omega
              case rel => exact ⟨q + 1 + 1, by go_num, by omega, rfl, by rw [HSu.out]; simp, rfl⟩
          ·obtain rfl : q = n := by omega
           have hql' : ¬ (q : Int) < (q : Int) := by omega
           have x5 : w7.cell? ⟨xb, 5, none⟩ = some (.int .i64 G.c4) := box_cells HP.out.2.box 5
           have x0 : w7.cell? ⟨xb, 0, none⟩ = some (.pointer (some ⟨sb, 0, none⟩)) := box_cells HP.out.2.box 0
           clear HCs
           generalize hru : runsB T2 q = r at *
           by_cases hgap : G.c4 < r
           ·have hR1 := HR1.out.1 hgap
            obtain ⟨ho, hs⟩ := HP.out
            rw [hR1] at ho hs
            have HLk := hideIt (hs.live.look 300 (by decide))
            rw [gone_look] at HLk
            unfold zeroLook at HLk
            have HBe := hideIt hs.bel
            have HOo := hideIt ho
            clear hR1 ho hs HP HR1 HR2 HStep
            go_wp2_with fail
            refine HLk.out.mono ?_
            rintro e wl ⟨rfl, hbl⟩
            have hbm : Below wl.heap.size wl (wl.alloc (.cells #[.bool false, .int .i64 0, .int .i64 0, .int .i64 0, .int .i64 0, .int .i64 0] 34)) := below_alloc wl _
            have HBf := hideIt (below_join (below_join HBe.out hbl) hbm)
            have hol := (HOo.out.below hbl).below hbm
            obtain ⟨ga, gc, bv, e1, q0, q1, hbv⟩ := outs_one hol
            obtain ⟨bb, bc, e2, _, _, _⟩ := own_some hbv (by simp)
            have m3 : (wl.alloc (.cells #[.bool false, .int .i64 0, .int .i64 0, .int .i64 0, .int .i64 0, .int .i64 0] 34)).cell? ⟨bb, 3, none⟩ = some (.int .u8 19) := own_read (e2 ▸ hbv) 3 (by simp)
            have m4 : (wl.alloc (.cells #[.bool false, .int .i64 0, .int .i64 0, .int .i64 0, .int .i64 0, .int .i64 0] 34)).cell? ⟨bb, 4, none⟩ = some (.int .u8 8) := own_read (e2 ▸ hbv) 4 (by simp)
            simp only [Value.slice.injEq] at e1
            obtain ⟨rfl, rfl, rfl⟩ := e1
            have q1' : (wl.alloc (.cells #[.bool false, .int .i64 0, .int .i64 0, .int .i64 0, .int .i64 0, .int .i64 0] 34)).cell? ⟨ga, 1, none⟩ = some (.slice (some ⟨bb, 0, none⟩) 5 bc) := by rw [q1, e2]; rfl
            clear hol hbv q1 e2 hbl hbm HLk HBe HOo
            go_wp2_with fail
            go_ret
            exact ⟨rfl, HBf.out⟩
           ·have hgap2 : r <= G.c4 := by omega
            obtain ⟨got1, y1, hR1, hSh1, hf1⟩ := HR1.out.2 (by first | exact hgap | exact hgap2)
            obtain ⟨got2, y2, hR2, hSh2, hf2⟩ := HR2.out got1 y1 hSh1 (by first | exact hgap | exact hgap2)
            obtain ⟨ho, hs⟩ := HP.out
            rw [hR1] at ho hs
            obtain ⟨_, _, e1⟩ := ho.form
            simp only [Value.slice.injEq, List.length_nil] at e1
            obtain ⟨_, rfl, _⟩ := e1
            have HS7 := hideIt hs
            have HSt := hideIt (HStep.out y2.final (fun h => hf2 (h.elim Or.inl (fun h => Or.inr (hf1 (Or.inr h))))))
            have HS2 := hideIt hSh2
            have HRc : Hid (∀ (W : World) (v : Value), Below w7.heap.size w7 W -> RdB W v (dataL 300 (1000 + (k : Int)) fr) -> Calls Tryz.prog 20 #[.pointer (some ⟨sb, 0, none⟩), .int .i64 1, v] W fun e w' => ∃ oa oc, e = .returned (.slice oa 0 oc) /\ Hid (ShAt ⟨w, w0, w1.heap.size, sb, xb, w8.heap.size, fb, fcap, tb, tcap, K, G⟩ (100 + 300 * (k + 1)) (1000 + 500 * ((k + 1 : Nat) : Int)) (100 + 4 * ((k + 1 : Nat) : Int)) (shufS G got2 sent (numsA (k + 1)) y2) T2 PL2 w') /\ w'.cell? ⟨xb, 0, none⟩ = some (.pointer (some ⟨sb, 0, none⟩))) := by
             intro W v hW hR
             refine ((HS7.out.below hW).recv HE.out HW0.out.1 HW0.out.2 hR (HDl.out _) (by omega) (by omega) (by omega)).mono ?_
             rintro e w' ⟨oa, on, oc, rfl, HO, hx⟩
             have h := HO.out
             rw [hR2] at h
             obtain ⟨_, _, e1⟩ := h.1.form
             simp only [Value.slice.injEq, List.length_nil] at e1
             obtain ⟨_, rfl, _⟩ := e1
             exact ⟨oa, oc, rfl, h.2.mono (by omega) (by omega) (by omega), hx⟩
            clear hR1 hR2 hSh1 hSh2 hf1 hf2 ho hs HP HR1 HR2 HStep HS7
            have hk2 : (0 : Int) <= 1000 + (k : Int) /\ 1000 + (k : Int) <= 2000 := by omega
            have hwr : IntKind.i64.wrap (1000 + (k : Int)) = 1000 + (k : Int) := by rw [IntKind.wrap_i64]; omega
            have d0 : w7.drew.cell? ⟨xb, 0, none⟩ = some (.pointer (some ⟨sb, 0, none⟩)) := x0
            go_wp2_with fail
            go_region_held3 (fun w' => w'.cell? ⟨xb, 0, none⟩ = some (.pointer (some ⟨sb, 0, none⟩))) (first | with_reducible assumption | go_keep) (first
             | (go_at_call 23; refine (HPi.out _).mono ?_; rintro e wa ⟨pa, pl, pc, rfl, hpo, hb4⟩; have k4 := cell_below x0 (below_undrew hb4))
             | (go_at_call 22; refine (HDa.out _ hk2 _ _ hpo).mono ?_; rintro e wb ⟨dv, rfl, hdo, hb5⟩; obtain ⟨da, dc, rfl⟩ := own_form hdo; have k5 := cell_below k4 hb5)
             | (go_at_call 20; refine (HRc.out wb _ (below_join (below_undrew hb4) hb5) (RdB.of_own hdo (dataL_bytes (by decide) (by omega) HPb.out) (by have := HDl.out (1000 + (k : Int)); omega))).mono ?_; rintro e wd ⟨oa7, oc7, rfl, HO7, x7⟩))
            clear hpo hb4 hdo hb5 k4 k5 HRc HPi HDa HPb
            go_wp2_with fail
            go_roundg (K - (k + 1))
            case measure => omega
            case rel => exact ⟨k + 1, by go_num, rfl, by omega, ⟨PL2, T2, y2, got2, HO7.out, HS2.out, HSt.out⟩⟩
   ·obtain rfl : k = K := by omega
    have hlt' : ¬ (k : Int) < (k : Int) := by omega
    have hlen : PL.length = k := HS.out.len
    obtain ⟨hall, hfin⟩ := (show SentInv n PL PL.length T y.final by rw [hlen]; exact HSi.out).all
    obtain ⟨hr1, hr2⟩ := shuf_read HOk.out HSh.out (by omega) hall hfin got sent (numsA k)
    have HRd := hideIt (HS.out.live.read 300 0 5000 (by omega) (by omega) (by decide) (by decide))
    rw [hr1, hr2] at HRd
    have hll := lettersL_len 0 0 n
    simp only [hll] at HRd
    have x0 : wr.cell? ⟨xb, 0, none⟩ = some (.pointer (some ⟨sb, 0, none⟩)) := box_cells HS.out.box 0
    have HBe : Hid (∀ W, Live w0 (100 + 300 * k + 2) (1000 + 500 * (k : Int) + 60) (100 + 4 * (k : Int)) W sb (readS (shufS G got sent (numsA k) y) 300 0 5000).2.2.1 -> Below w.heap.size w W) := by
     intro W hW
     have hb1 := hW.bel
     have hb0 := HW0.out.2
     have hw := HW0.out.1
     exact ⟨hb1.os.trans hb0.os, hb1.tape.trans hb0.tape, hb1.output.trans hb0.output, Nat.le_trans hb0.size hb1.size, fun q hq => by rw [hb1.block q (by omega), hb0.block q hq]⟩
    have HLt := hideIt (fun (q : Nat) (hq : q < n) (W : World) => kletter_any 0 q W (by decide) (by omega))
    have HLe : Hid (∀ q : Nat, q < n -> (lettersL 0 0 n).getD q 0 = letterN 0 q /\ q < (lettersL 0 0 n).length) := by
     intro q hq
     exact ⟨by rw [letters_getD 0 0 n q hq, Int.zero_add], by rw [lettersL_len]; exact hq⟩
    clear hr1 hr2 hall hfin hlen HS HSh HSi HPk HCu HOr hll
    generalize lettersL 0 0 n = LL at *
    go_wp2_with fail
    refine HRd.out.mono ?_
    rintro e w9 ⟨⟨tv, v, rfl, hto, hvo⟩, hL9, hc9⟩
    obtain ⟨ta, tc, rfl⟩ := own_form hto
    obtain ⟨va, vc, rfl⟩ := hvo.form
    have HB9 := hideIt (HBe.out _ hL9)
    have HT9 := hideIt hto
    clear hto hvo hL9 hc9 HRd HBe x0
    have hbg := below_alloc w9 (.cells #[.slice ta n tc, .bool true, .bool false] 46)
    have hgx : (w9.alloc (.cells #[.slice ta n tc, .bool true, .bool false] 46)).heap[w9.heap.size]? = some (.cells #[.slice ta n tc, .bool true, .bool false] 46 (0, 0)) := heap_alloc_new w9 _
    have HGx := hideIt hgx
    have HTg := hideIt (own_below HT9.out hbg)
    have HBg := hideIt (below_join HB9.out hbg)
    clear hbg hgx HT9 HB9
    go_wp2_with fail
    go_loopg [33, 34] n (fun gk ov pv wx => ∃ q : Nat, pv = .int .i64 q /\ q <= n /\ gk = n - q /\ ov = .bool true /\ Below (w9.alloc (.cells #[.slice ta n tc, .bool true, .bool false] 46)).heap.size (w9.alloc (.cells #[.slice ta n tc, .bool true, .bool false] 46)) wx)
    case atStart => exact ⟨0, rfl, by omega, rfl, rfl, Below.refl _ _⟩
    case round =>
     obtain ⟨q, rfl, hqn, rfl, rfl, hbq⟩ := hrel
     obtain ⟨w10, hw10⟩ : ∃ w10, w10 = wr := ⟨_, rfl⟩
     subst hw10
     have HBq := hideIt hbq
     have gx := box_below HGx.out hbq
     have g0 : w10.cell? ⟨w9.heap.size, 0, none⟩ = some (.slice ta n tc) := box_cells gx 0
     have hto := own_below HTg.out hbq
     clear gx hbq
     by_cases hql : q < n
     ·have hql' : (q : Int) < (n : Int) := by omega
      obtain ⟨tb, tc', e1, _, _, _⟩ := own_some hto (by omega)
      simp only [Value.slice.injEq] at e1
      obtain ⟨rfl, _, rfl⟩ := e1
      have hbyte := own_read hto q (HLe.out q hql).2
      rw [(HLe.out q hql).1, Nat.zero_add] at hbyte
      have HLq := hideIt (HLt.out q hql)
      clear hto
      go_wp2_with fail
      generalize letterN 0 (q : Int) = L at *
      go_region_with (go_at_call 18; refine (HLq.out _).mono ?_; rintro e w11 ⟨rfl, rfl⟩)
      all_goals
       go_wp2_with fail
       go_roundg (n - (q + 1))
       case measure => omega
       case rel => exact ⟨q + 1, by go_num, by omega, rfl, by simp, below_drewN HBq.out 1⟩
     ·obtain rfl : q = n := by omega
      have hql' : ¬ (q : Int) < (q : Int) := by omega
      clear hto
      go_wp2_with fail
      go_ret
      exact ⟨rfl, below_join HBg.out HBq.out⟩
end Go.Proofs.YthmdjhlhodpbhaaGreatDoor
