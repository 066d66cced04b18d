/-
  Numbers written, tokens and proofs made: both the program's and the document's, by the same plain functions.
-/
import Derived.Test.YthmdjhlhodpbhaaGreatDoorAp
namespace Go.Proofs.YthmdjhlhodpbhaaGreatDoor
open Go.RowKit

/-- what PutNumber answers -/
def putM (n : Int) : List Int := if betw n 0 1073741823 then putL n else []
theorem putM_yes {n : Int} (h : betw n 0 1073741823 = true) : putM n = putL n := by simp [putM, h]
theorem putM_no {n : Int} (h : betw n 0 1073741823 = false) : putM n = [] := by simp [putM, h]
theorem argE_yes {n g : Int} (h : betw n 0 g = true) : argE n g = 0 := by simp [argE, h]
theorem argE_no {n g : Int} (h : betw n 0 g = false) : argE n g = 2 := by simp [argE, h]
theorem putL_length (n : Int) : (putL n).length ≤ 4 ∧ 0 < (putL n).length := by
  unfold putL
  split
  · simp
  · split <;> simp

theorem PutNumber_any (n : Int) (w : World) : Calls Tryz.prog 58 #[.int .i64 n] w fun e w' => ∃ v, e = .returned (.tuple #[v, .int .i64 (argE n 1073741823)]) ∧ w'.ownsRow w.heap.size 5 1 v (putM n).length (U8 (putM n)) ∧ Below w.heap.size w w' := by
  cases hb : betw n 0 1073741823
  · rw [argE_no hb, putM_no hb]
    have he := argE_no hb
    clear hb
    go_enter Tryz.func58, Tryz.ntmps58
    go_wp2_with (go_at_call 103; refine (bNumber_any _ _).mono ?_; rintro e w' ⟨rfl, rfl⟩)
    go_ret2
    exact ⟨_, rfl, World.ownsRow_nil _ _ _ _, Below.refl _ _⟩
  · rw [argE_yes hb, putM_yes hb]
    have he := argE_yes hb
    obtain ⟨h0, h1⟩ := betw_true hb
    clear hb
    go_enter Tryz.func58, Tryz.ntmps58
    go_wp2_with (first | (go_at_call 103; refine (bNumber_any _ _).mono ?_; rintro e w' ⟨rfl, rfl⟩) | (go_at_call 105; refine (wAppendNumber_any n h0 h1 w.heap.size _ 0 [] w (World.ownsRow_nil _ _ _ _) (Nat.le_refl _) (by decide)).mono ?_; rintro e w' ⟨v', rfl, hown, hg⟩))
    go_ret2
    simp only [Nat.zero_add, List.nil_append] at hown
    exact ⟨_, rfl, hown, grown_below hg⟩

theorem rPutNumber_any (n : Int) (w : World) : Calls Tryz.prog 109 #[.int .i64 n] w fun e w' => ∃ v, e = .returned (.tuple #[v, .int .i64 (argE n 1073741823)]) ∧ w'.ownsRow w.heap.size 5 1 v (putM n).length (U8 (putM n)) ∧ Below w.heap.size w w' := by
  cases hb : betw n 0 1073741823
  · rw [argE_no hb, putM_no hb]
    go_enter Tryz.func109, Tryz.ntmps109
    go_wp2_with (go_at_call 60; refine (rbetween_any _ _ _ _).mono ?_; rintro e w' ⟨rfl, rfl⟩)
    go_ret2
    exact ⟨_, rfl, World.ownsRow_nil _ _ _ _, Below.refl _ _⟩
  · rw [argE_yes hb, putM_yes hb]
    obtain ⟨h0, h1⟩ := betw_true hb
    go_enter Tryz.func109, Tryz.ntmps109
    go_wp2_with (first | (go_at_call 60; refine (rbetween_any _ _ _ _).mono ?_; rintro e w' ⟨rfl, rfl⟩) | (go_at_call 155; refine (rput_any n w h0 h1).mono ?_; rintro e w' ⟨v', rfl, hown, hg⟩))
    go_ret2
    exact ⟨_, rfl, hown, hg⟩

theorem own_read {w : World} {base g n cap : Nat} {l : List Int} (h : w.ownsRow base 5 1 (.slice (some ⟨g, 0, none⟩) n cap) n (U8 l)) : ∀ j, j < l.length → w.cell? ⟨g, 0 + j, none⟩ = some (.int .u8 (l.getD j 0)) := by
  intro j hj
  have hl : l.length = n := by have := h.1; simpa [U8] using this
  rw [Nat.zero_add, h.cellAt j (by omega)]
  simp [U8, List.getD, List.getElem?_eq_getElem hj]

set_option maxHeartbeats 400000 in
theorem wToken_any (k a t : Int) (w : World) (k0 : 0 ≤ k) (k1 : k < 4294967296) (a0 : 0 ≤ a) (a1 : a < 256) (t0 : 0 ≤ t) (t1 : t < 4294967296) :
    Calls Tryz.prog 67 #[.int .i64 k, .int .i64 a, .int .i64 t] w fun e w' => ∃ v, e = .returned v ∧ w'.ownsRow w.heap.size 5 1 v 9 (U8 (tokenL k a t)) ∧ Below w.heap.size w w' := by
  obtain ⟨i0, hi, hz0, hz1, hz2⟩ := info_parts info_u8
  go_enter Tryz.func67, Tryz.ntmps67
  go_wp2_with fail
  refine (wappendFour_any t t0 t1 w.heap.size _ 1 (U8 [a]) _ (own_lit w 5 (U8 [a]) (by simp [U8, maxLen])) (by simp) (by decide)).mono ?_
  rintro e w1 ⟨v1, rfl, hown1, hg1⟩
  go_wp2_with fail
  refine (wappendFour_any k k0 k1 w1.heap.size _ 0 [] w1 (World.ownsRow_nil _ _ _ _) (Nat.le_refl _) (by decide)).mono ?_
  rintro e w2 ⟨v2, rfl, hown2, hg2⟩
  simp only [Nat.zero_add, List.nil_append] at hown2
  obtain ⟨g1, c1, rfl, hb1, hs1, hc1⟩ := own_some hown1 (by decide)
  obtain ⟨g2, c2, rfl, hb2, hs2, hc2⟩ := own_some hown2 (by decide)
  have hk1 := hown1.kept hg2 (Or.inr (by simp [Value.ownBlock]))
  have HK : Hid (w2.ownsRow w.heap.size 5 1 (.slice (some ⟨g1, 0, none⟩) (1 + 4) c1) (1 + 4) (U8 [a] ++ U8 (fourL t))) := hk1
  clear hk1 hown1
  have HG1 := hideIt hg1
  have HG2 := hideIt hg2
  clear hg1 hg2
  go_wp2_with (at_builtin; refine wpList_append_own _ rfl _ _ 44 rfl w1.heap.size 5 i0 (.int .u8 0) 1 1 Tryz.underlying44 hi hz0 hz1 hz2 rfl (by decide) (.slice (some ⟨g2, 0, none⟩) 4 c2) 4 (U8 (fourL k)) rfl hown2 ⟨g1, 0, none⟩ (1 + 4) c1 (U8 [a] ++ U8 (fourL t)) rfl (by simp [U8, fourL]) (HK.out.cells rfl) (by rw [← U8_append]; exact u8_one _) (by decide) (by decide) HG2.out.size ?_; intro v3 w3 hown3 hg3 _)
  have hg1 := HG1.out
  have hg2 := HG2.out
  obtain ⟨g3, c3, rfl, hb3, hs3, hc3⟩ := own_some hown3 (by decide)
  have e3 : U8 (fourL k) ++ (U8 [a] ++ U8 (fourL t)) = U8 (fourL k ++ frontL a t) := by simp [U8, frontL]
  rw [e3] at hown3
  have hf : Bytes (fourL k ++ frontL a t) := (fourL_bytes k).append (Bytes.cons ⟨a0, a1⟩ (fourL_bytes t))
  have hlen : (fourL k ++ frontL a t).length = 4 + (1 + 4) := by simp [fourL, frontL]
  have hsum := wSum_any (fourL k ++ frontL a t) hf g3 0 c3 w3 (by rw [hlen]; decide) (own_read hown3)
  rw [hlen] at hsum
  refine hsum.mono ?_
  rintro e w4 ⟨rfl, rfl⟩
  have hr := sumL_range (fourL k ++ frontL a t)
  have hsz : g1 < w2.heap.size := Nat.lt_of_lt_of_le hs1 hg2.size
  have hk3 := HK.out.kept hg3 (Or.inr (by simp [Value.ownBlock]; omega))
  go_wp2_with fail
  refine (wappendFour_any _ hr.1 hr.2 w.heap.size _ (1 + 4) _ w3 hk3 (by have := hg1.size; have := hg2.size; have := hg3.size; simp at *; omega) (by decide)).mono ?_
  rintro e w5 ⟨v5, rfl, hown5, hg5⟩
  go_wp2_with fail
  go_ret
  refine ⟨_, rfl, ?_, ?_⟩
  · have e5 : U8 [a] ++ U8 (fourL t) ++ U8 (fourL (sumL (fourL k ++ frontL a t))) = U8 (tokenL k a t) := by simp [U8, tokenL, frontL]
    rw [← e5]
    exact hown5
  · have b1 : Below w.heap.size w w1 := (below_alloc w _).grown hg1 (by simp) (fun g hg => by simp [Value.ownBlock] at hg; omega)
    have b2 : Below w.heap.size w w2 := b1.grown hg2 b1.size (fun g hg => by simp [Value.ownBlock] at hg)
    have b3 : Below w.heap.size w w3 := b2.grown hg3 b2.size (fun g hg => by simp [Value.ownBlock] at hg; have := b1.size; omega)
    exact b3.grown hg5 b3.size (fun g hg => by simp [Value.ownBlock] at hg; omega)

set_option maxHeartbeats 400000 in
theorem wProof_any (k a c : Int) (w : World) (k0 : 0 ≤ k) (k1 : k < 4294967296) (a0 : 0 ≤ a) (a1 : a < 256) (c0 : 0 ≤ c) (cc : c < 4294967296) :
    Calls Tryz.prog 104 #[.int .i64 k, .int .i64 a, .int .i64 c] w fun e w' => e = .returned (.int .i64 (proofN k a c)) ∧ Below w.heap.size w w' := by
  obtain ⟨i0, hi, hz0, hz1, hz2⟩ := info_parts info_u8
  go_enter Tryz.func104, Tryz.ntmps104
  go_wp2_with fail
  refine (wappendFour_any k k0 k1 w.heap.size _ 0 [] w (World.ownsRow_nil _ _ _ _) (Nat.le_refl _) (by decide)).mono ?_
  rintro e w1 ⟨v1, rfl, hown1, hg1⟩
  simp only [Nat.zero_add, List.nil_append] at hown1
  have hz : w.heap.size ≤ w1.heap.size := hg1.size
  go_wp2_with (at_builtin; refine wpList_append_own _ rfl _ _ 44 rfl w.heap.size 5 i0 (.int .u8 0) 1 1 Tryz.underlying44 hi hz0 hz1 hz2 rfl (by decide) v1 4 (U8 (fourL k)) rfl (hown1.alloc _) ⟨w1.heap.size, 0, none⟩ 2 2 (U8 [255, a]) rfl rfl (lit_cells w1 5 (U8 [255, a]) (by simp [U8, maxLen])) (u8_one _) (by decide) (by decide) (by simp; omega) ?_; intro v2 w2 hown2 hg2 _)
  have b2 : Below w.heap.size w w2 := ((grown_below hg1).alloc hz _).grown hg2 (by simp; omega) (fun g hg => (hown1.lt g hg).1)
  refine (wappendFour_any c c0 cc w.heap.size _ (4 + 2) _ w2 hown2 b2.size (by decide)).mono ?_
  rintro e w3 ⟨v3, rfl, hown3, hg3⟩
  have b3 : Below w.heap.size w w3 := b2.grown hg3 b2.size (fun g hg => (hown2.lt g hg).1)
  obtain ⟨g3, c3, rfl, hb3, hs3, hc3⟩ := own_some hown3 (by decide)
  have e3 : U8 (fourL k) ++ U8 [255, a] ++ U8 (fourL c) = U8 (fourL k ++ [255, a] ++ fourL c) := by simp [U8]
  rw [e3] at hown3
  have hf : Bytes (fourL k ++ [255, a] ++ fourL c) := ((fourL_bytes k).append (Bytes.cons (by decide) (Bytes.cons ⟨a0, a1⟩ Bytes.nil))).append (fourL_bytes c)
  have hlen : (fourL k ++ [255, a] ++ fourL c).length = 4 + 2 + 4 := by simp [fourL]
  have hsum := wSum_any _ hf g3 0 c3 w3 (by rw [hlen]; decide) (own_read hown3)
  rw [hlen] at hsum
  clear hg1 hg2 hg3 hown1 hown2 hown3
  go_wp2_with fail
  refine hsum.mono ?_
  rintro e w4 ⟨rfl, rfl⟩
  have hr := sumL_range (fourL k ++ [255, a] ++ fourL c)
  have HP : Hid (proofN k a c = sumL (fourL k ++ [255, a] ++ fourL c) % 1073741824) := rfl
  generalize sumL (fourL k ++ [255, a] ++ fourL c) = s at hr HP ⊢
  obtain ⟨hr0, hr1⟩ := hr
  go_wp2_with fail
  go_ret
  exact ⟨by rw [HP.out]; rfl, b3⟩

/-- a config, as its ten numbers -/
structure Cfg where
  c0 : Int
  c1 : Int
  c2 : Int
  c3 : Int
  c4 : Int
  c5 : Int
  c6 : Int
  c7 : Int
  c8 : Int
  c9 : Int
def Cfg.cells (c : Cfg) : List Value := [.int .i64 c.c0, .int .i64 c.c1, .int .i64 c.c2, .int .i64 c.c3, .int .i64 c.c4, .int .i64 c.c5, .int .i64 c.c6, .int .i64 c.c7, .int .i64 c.c8, .int .i64 c.c9]
def cfgV (c0 c1 c2 c3 c4 c5 c6 c7 c8 c9 : Int) : Value := .agg #[.int .i64 c0, .int .i64 c1, .int .i64 c2, .int .i64 c3, .int .i64 c4, .int .i64 c5, .int .i64 c6, .int .i64 c7, .int .i64 c8, .int .i64 c9]


theorem own_below {w w' : World} {base : Nat} {e : TypeId} {size : Nat} {v : Value} {n : Nat} {xs : List Value} (h : w.ownsRow base e size v n xs) (hb : Below w.heap.size w w') : w'.ownsRow base e size v n xs :=
  h.kept (below_grown hb none) (by cases v.ownBlock <;> simp)
theorem below_join {w w1 w2 : World} (h : Below w.heap.size w w1) (h2 : Below w1.heap.size w1 w2) : Below w.heap.size w w2 := h.trans (h2.mono h.size)
theorem cell_below {w w' : World} {a : Addr} {v : Value} (h : w.cell? a = some v) (hb : Below w.heap.size w w') : w'.cell? a = some v := by
  have : a.block < w.heap.size := by
    rcases Nat.lt_or_ge a.block w.heap.size with h1 | h1
    · exact h1
    · simp [World.cell?, Array.getElem?_eq_none h1] at h
  rw [hb.cell this]; exact h

set_option maxHeartbeats 400000 in
theorem rtoken_any (c0 c1 c2 c3 c4 c5 c6 c7 c8 k a t : Int) (w : World) (k0 : 0 ≤ k) (k1 : k < 4294967296) (a0 : 0 ≤ a) (a1 : a < 256) (t0 : 0 ≤ t) (t1 : t < 4294967296) :
    Calls Tryz.prog 61 #[.agg #[.int .i64 c0, .int .i64 c1, .int .i64 c2, .int .i64 c3, .int .i64 c4, .int .i64 c5, .int .i64 c6, .int .i64 c7, .int .i64 c8, .int .i64 k], .int .i64 a, .int .i64 t] w fun e w' => ∃ v, e = .returned v ∧ w'.ownsRow w.heap.size 5 1 v 9 (U8 (tokenL k a t)) ∧ Below w.heap.size w w' := by
  have facts : ∀ W : World, W = (w.alloc (.cells #[.int .i64 c0, .int .i64 c1, .int .i64 c2, .int .i64 c3, .int .i64 c4, .int .i64 c5, .int .i64 c6, .int .i64 c7, .int .i64 c8, .int .i64 k] 26)).alloc (.cells #[.int .u8 a] 5) →
      W.ownsRow w.heap.size 5 1 (.slice (some ⟨w.heap.size + 1, 0, none⟩) 1 1) 1 (U8 [a]) ∧ W.cell? ⟨w.heap.size, 9, none⟩ = some (.int .i64 k) ∧ Below w.heap.size w W := by
    rintro W rfl
    refine ⟨?_, ?_, (below_alloc w _).alloc (by simp) _⟩
    · have := own_lit (w.alloc (.cells #[.int .i64 c0, .int .i64 c1, .int .i64 c2, .int .i64 c3, .int .i64 c4, .int .i64 c5, .int .i64 c6, .int .i64 c7, .int .i64 c8, .int .i64 k] 26)) 5 (U8 [a]) (by simp [U8, maxLen])
      have hz : (w.alloc (.cells #[.int .i64 c0, .int .i64 c1, .int .i64 c2, .int .i64 c3, .int .i64 c4, .int .i64 c5, .int .i64 c6, .int .i64 c7, .int .i64 c8, .int .i64 k] 26)).heap.size = w.heap.size + 1 := by simp
      rw [hz] at this
      exact own_mono this (by omega)
    · rw [World.cell?_alloc_lt _ _ _ (by simp)]; simp
  have HF := hideIt facts
  clear facts
  go_enter Tryz.func61, Tryz.ntmps61
  go_wp2_with fail
  obtain ⟨hlit, hkey, hb0⟩ := HF.out _ rfl
  clear HF
  refine (rfour_any t _ t0 t1).mono ?_
  rintro e w1 ⟨v1, rfl, hown1, hb1⟩
  have hown1' := own_mono hown1 hb0.size
  have hlit1 := own_below hlit hb1
  have hkey1 := cell_below hkey hb1
  have hbb1 := below_join hb0 hb1
  clear hlit hkey hb1 hown1 hb0
  go_wp2_with fail
  refine (rjoin_any [a] (fourL t) w.heap.size _ _ w1 hlit1 hown1' (by simp) (by simp [fourL]) (by simp) (by simp [fourL])).mono ?_
  rintro e w2 ⟨v2, rfl, hown2, hb2⟩
  have hown2' : w2.ownsRow w.heap.size 5 1 v2 5 (U8 (frontL a t)) := own_mono hown2 hbb1.size
  have hkey2 := cell_below hkey1 hb2
  have hbb2 := below_join hbb1 hb2
  clear hlit1 hown1' hkey1 hown2 hb2 hbb1
  go_wp2_with fail
  refine (rfour_any k _ k0 k1).mono ?_
  rintro e w3 ⟨v3, rfl, hown3, hb3⟩
  have hown3' := own_mono hown3 hbb2.size
  have hfr3 := own_below hown2' hb3
  have hbb3 := below_join hbb2 hb3
  clear hown3 hb3 hkey2 hown2' hbb2
  go_wp2_with fail
  refine (rjoin_any (fourL k) (frontL a t) w.heap.size _ _ w3 hown3' hfr3 (by simp [fourL]) (by simp [frontL]) (by simp [fourL]) (by simp [frontL, fourL])).mono ?_
  rintro e w4 ⟨v4, rfl, hown4, hb4⟩
  have hfr4 := own_below hfr3 hb4
  have hbb4 := below_join hbb3 hb4
  have hf : Bytes (fourL k ++ frontL a t) := (fourL_bytes k).append (Bytes.cons ⟨a0, a1⟩ (fourL_bytes t))
  have hlen : (fourL k ++ frontL a t).length = 9 := by simp [fourL, frontL]
  rw [hlen] at hown4
  obtain ⟨g4, cp4, rfl, hg4, hs4, hc4⟩ := own_some hown4 (by decide)
  have hsum := rsum_any (fourL k ++ frontL a t) hf g4 0 cp4 w4 (by rw [hlen]; decide) (own_read hown4)
  rw [hlen] at hsum
  clear hown3' hfr3 hbb3 hb4 hown4
  go_wp2_with fail
  refine hsum.mono ?_
  rintro e w5 ⟨rfl, rfl⟩
  have hr := sumL_range (fourL k ++ frontL a t)
  go_wp2_with fail
  refine (rfour_any _ _ hr.1 hr.2).mono ?_
  rintro e w6 ⟨v6, rfl, hown6, hb6⟩
  have hown6' := own_mono hown6 hbb4.size
  have hfr6 := own_below hfr4 hb6
  have hbb6 := below_join hbb4 hb6
  clear hown6 hb6 hfr4 hbb4 hsum
  go_wp2_with fail
  refine (rjoin_any (frontL a t) (fourL (sumL (fourL k ++ frontL a t))) w.heap.size _ _ w6 hfr6 hown6' (by simp [frontL]) (by simp [fourL]) (by simp [frontL, fourL]) (by simp [fourL])).mono ?_
  rintro e w7 ⟨v7, rfl, hown7, hb7⟩
  have hown7' := own_mono hown7 hbb6.size
  have hbb7 := below_join hbb6 hb7
  go_wp2_with fail
  go_ret
  exact ⟨_, rfl, hown7', hbb7⟩

set_option maxHeartbeats 400000 in
theorem rproof_any (c0 c1 c2 c3 c4 c5 c6 c7 c8 k a c : Int) (w : World) (k0 : 0 ≤ k) (k1 : k < 4294967296) (a0 : 0 ≤ a) (a1 : a < 256) (cc0 : 0 ≤ c) (cc1 : c < 4294967296) :
    Calls Tryz.prog 156 #[.agg #[.int .i64 c0, .int .i64 c1, .int .i64 c2, .int .i64 c3, .int .i64 c4, .int .i64 c5, .int .i64 c6, .int .i64 c7, .int .i64 c8, .int .i64 k], .int .i64 a, .int .i64 c] w fun e w' => e = .returned (.int .i64 (proofN k a c)) ∧ Below w.heap.size w w' := by
  go_enter Tryz.func156, Tryz.ntmps156
  go_wp2_with fail
  have hb0 := below_alloc w (.cells #[.int .i64 c0, .int .i64 c1, .int .i64 c2, .int .i64 c3, .int .i64 c4, .int .i64 c5, .int .i64 c6, .int .i64 c7, .int .i64 c8, .int .i64 k] 26)
  refine (rfour_any k _ k0 k1).mono ?_
  rintro e w1 ⟨v1, rfl, hown1, hb1⟩
  have hown1' := own_mono hown1 hb0.size
  have hbb1 := below_join hb0 hb1
  clear hb1 hown1 hb0
  have HW : Hid (∀ W : World, W = w1.alloc (.cells #[.int .u8 255, .int .u8 a] 5) → W.ownsRow w.heap.size 5 1 (.slice (some ⟨w1.heap.size, 0, none⟩) 2 2) 2 (U8 [255, a]) ∧ W.ownsRow w.heap.size 5 1 v1 4 (U8 (fourL k)) ∧ Below w.heap.size w W) := by
    rintro W rfl
    exact ⟨own_mono (own_lit w1 5 (U8 [255, a]) (by simp [U8, maxLen])) hbb1.size, hown1'.alloc _, hbb1.alloc hbb1.size _⟩
  clear hown1' hbb1
  go_wp2_with fail
  obtain ⟨hl, ho, hb⟩ := HW.out _ rfl
  clear HW
  refine (rjoin_any (fourL k) [255, a] w.heap.size _ _ _ ho hl (by simp [fourL]) (by simp) (by simp [fourL]) (by simp)).mono ?_
  rintro e w2 ⟨v2, rfl, hown2, hb2⟩
  have hown2' := own_mono hown2 hb.size
  have hbb2 := below_join hb hb2
  clear hl ho hb hown2 hb2
  go_wp2_with fail
  refine (rfour_any c _ cc0 cc1).mono ?_
  rintro e w3 ⟨v3, rfl, hown3, hb3⟩
  have hown3' := own_mono hown3 hbb2.size
  have hfr3 := own_below hown2' hb3
  have hbb3 := below_join hbb2 hb3
  clear hown3 hb3 hown2' hbb2
  go_wp2_with fail
  refine (rjoin_any (fourL k ++ [255, a]) (fourL c) w.heap.size _ _ w3 hfr3 hown3' (by simp [fourL]) (by simp [fourL]) (by simp [fourL]) (by simp [fourL])).mono ?_
  rintro e w4 ⟨v4, rfl, hown4, hb4⟩
  have hbb4 := below_join hbb3 hb4
  have hf : Bytes (fourL k ++ [255, a] ++ fourL c) := ((fourL_bytes k).append (Bytes.cons (by decide) (Bytes.cons ⟨a0, a1⟩ Bytes.nil))).append (fourL_bytes c)
  have hlen : (fourL k ++ [255, a] ++ fourL c).length = 10 := by simp [fourL]
  rw [hlen] at hown4
  obtain ⟨g4, cp4, rfl, hg4, hs4, hc4⟩ := own_some hown4 (by decide)
  have hsum := rsum_any _ hf g4 0 cp4 w4 (by rw [hlen]; decide) (own_read hown4)
  rw [hlen] at hsum
  clear hown3' hfr3 hbb3 hb4 hown4
  go_wp2_with fail
  refine hsum.mono ?_
  rintro e w5 ⟨rfl, rfl⟩
  have hr := sumL_range (fourL k ++ [255, a] ++ fourL c)
  have HP : Hid (proofN k a c = sumL (fourL k ++ [255, a] ++ fourL c) % 1073741824) := rfl
  generalize sumL (fourL k ++ [255, a] ++ fourL c) = s at hr HP ⊢
  obtain ⟨hr0, hr1⟩ := hr
  clear hsum
  go_wp2_with fail
  go_ret
  exact ⟨by rw [HP.out]; rfl, hbb4⟩
end Go.Proofs.YthmdjhlhodpbhaaGreatDoor
