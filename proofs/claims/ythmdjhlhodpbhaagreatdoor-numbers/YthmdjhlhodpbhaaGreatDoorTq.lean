/-
  Token and Proof, whatever is handed in: the program's answer and the document's by one plain function each.
-/
import Derived.Test.YthmdjhlhodpbhaaGreatDoorTp
namespace Go.Proofs.YthmdjhlhodpbhaaGreatDoor
open Go.RowKit

theorem tokE_zero {c0 c1 c2 c3 c4 c5 c6 c7 c8 k a t : Int} (h : tokE c0 c1 c2 c3 c4 c5 c6 c7 c8 k a t = 0) : rightB c0 c1 c2 c3 c4 c5 c6 c7 c8 k = true ∧ betw a 0 255 = true ∧ betw t 0 4294967295 = true := by
  unfold tokE orE cfgE argE at h
  cases h1 : rightB c0 c1 c2 c3 c4 c5 c6 c7 c8 k <;> cases h2 : betw a 0 255 <;> cases h3 : betw t 0 4294967295 <;> simp [h1, h2, h3] at h ⊢
theorem prfE_zero {c0 c1 c2 c3 c4 c5 c6 c7 c8 k a t : Int} (h : prfE c0 c1 c2 c3 c4 c5 c6 c7 c8 k a t = 0) : rightB c0 c1 c2 c3 c4 c5 c6 c7 c8 k = true ∧ betw a 0 255 = true ∧ betw t 0 1073741823 = true := by
  unfold prfE orE cfgE argE at h
  cases h1 : rightB c0 c1 c2 c3 c4 c5 c6 c7 c8 k <;> cases h2 : betw a 0 255 <;> cases h3 : betw t 0 1073741823 <;> simp [h1, h2, h3] at h ⊢
theorem tokE_one {c0 c1 c2 c3 c4 c5 c6 c7 c8 k : Int} (a t : Int) (h : rightB c0 c1 c2 c3 c4 c5 c6 c7 c8 k = false) : tokE c0 c1 c2 c3 c4 c5 c6 c7 c8 k a t = 1 := by simp [tokE, orE, cfgE, h]
theorem tokE_two {c0 c1 c2 c3 c4 c5 c6 c7 c8 k a t : Int} (h : rightB c0 c1 c2 c3 c4 c5 c6 c7 c8 k = true) (h2 : betw a 0 255 = false ∨ betw t 0 4294967295 = false) : tokE c0 c1 c2 c3 c4 c5 c6 c7 c8 k a t = 2 := by
  rcases h2 with h2 | h2
  · simp [tokE, orE, cfgE, argE, h, h2]
  · cases h3 : betw a 0 255 <;> simp [tokE, orE, cfgE, argE, h, h2, h3]
theorem tokE_all {c0 c1 c2 c3 c4 c5 c6 c7 c8 k a t : Int} (h : rightB c0 c1 c2 c3 c4 c5 c6 c7 c8 k = true) (h2 : betw a 0 255 = true) (h3 : betw t 0 4294967295 = true) : tokE c0 c1 c2 c3 c4 c5 c6 c7 c8 k a t = 0 := by simp [tokE, orE, cfgE, argE, h, h2, h3]
theorem prfE_one {c0 c1 c2 c3 c4 c5 c6 c7 c8 k : Int} (a t : Int) (h : rightB c0 c1 c2 c3 c4 c5 c6 c7 c8 k = false) : prfE c0 c1 c2 c3 c4 c5 c6 c7 c8 k a t = 1 := by simp [prfE, orE, cfgE, h]
theorem prfE_two {c0 c1 c2 c3 c4 c5 c6 c7 c8 k a t : Int} (h : rightB c0 c1 c2 c3 c4 c5 c6 c7 c8 k = true) (h2 : betw a 0 255 = false ∨ betw t 0 1073741823 = false) : prfE c0 c1 c2 c3 c4 c5 c6 c7 c8 k a t = 2 := by
  rcases h2 with h2 | h2
  · simp [prfE, orE, cfgE, argE, h, h2]
  · cases h3 : betw a 0 255 <;> simp [prfE, orE, cfgE, argE, h, h2, h3]
theorem prfE_all {c0 c1 c2 c3 c4 c5 c6 c7 c8 k a t : Int} (h : rightB c0 c1 c2 c3 c4 c5 c6 c7 c8 k = true) (h2 : betw a 0 255 = true) (h3 : betw t 0 1073741823 = true) : prfE c0 c1 c2 c3 c4 c5 c6 c7 c8 k a t = 0 := by simp [prfE, orE, cfgE, argE, h, h2, h3]
theorem tokM_yes {c0 c1 c2 c3 c4 c5 c6 c7 c8 k a t : Int} (h : tokE c0 c1 c2 c3 c4 c5 c6 c7 c8 k a t = 0) : tokM c0 c1 c2 c3 c4 c5 c6 c7 c8 k a t = tokenL k a t := by simp [tokM, h]
theorem tokM_no {c0 c1 c2 c3 c4 c5 c6 c7 c8 k a t : Int} (h : ¬ tokE c0 c1 c2 c3 c4 c5 c6 c7 c8 k a t = 0) : tokM c0 c1 c2 c3 c4 c5 c6 c7 c8 k a t = [] := by simp [tokM, h]
theorem prfM_yes {c0 c1 c2 c3 c4 c5 c6 c7 c8 k a t : Int} (h : prfE c0 c1 c2 c3 c4 c5 c6 c7 c8 k a t = 0) : prfM c0 c1 c2 c3 c4 c5 c6 c7 c8 k a t = proofN k a t := by simp [prfM, h]
theorem prfM_no {c0 c1 c2 c3 c4 c5 c6 c7 c8 k a t : Int} (h : ¬ prfE c0 c1 c2 c3 c4 c5 c6 c7 c8 k a t = 0) : prfM c0 c1 c2 c3 c4 c5 c6 c7 c8 k a t = 0 := by simp [prfM, h]

/-- behind the box of a config and a call that only makes memory -/
theorem box_facts {w w1 : World} {c0 c1 c2 c3 c4 c5 c6 c7 c8 k : Int} (hb1 : Below (w.alloc (.cells #[.int .i64 c0, .int .i64 c1, .int .i64 c2, .int .i64 c3, .int .i64 c4, .int .i64 c5, .int .i64 c6, .int .i64 c7, .int .i64 c8, .int .i64 k] 26)).heap.size (w.alloc (.cells #[.int .i64 c0, .int .i64 c1, .int .i64 c2, .int .i64 c3, .int .i64 c4, .int .i64 c5, .int .i64 c6, .int .i64 c7, .int .i64 c8, .int .i64 k] 26)) w1) :
    (∀ o, (w1.alloc o).cell? ⟨w.heap.size, 9, none⟩ = some (.int .i64 k)) ∧ (∀ j, j < 10 → w1.cell? ⟨w.heap.size, j, none⟩ = (w.alloc (.cells #[.int .i64 c0, .int .i64 c1, .int .i64 c2, .int .i64 c3, .int .i64 c4, .int .i64 c5, .int .i64 c6, .int .i64 c7, .int .i64 c8, .int .i64 k] 26)).cell? ⟨w.heap.size, j, none⟩) ∧ Below w.heap.size w w1 ∧ w.heap.size < w1.heap.size := by
  have hs := hb1.size
  simp only [World.size_alloc] at hs
  refine ⟨fun o => ?_, fun j hj => ?_, below_join (below_alloc w _) hb1, by omega⟩
  · rw [World.cell?_alloc_lt _ _ _ (by show w.heap.size < w1.heap.size; omega), hb1.cell (by simp)]
    simp
  · rw [hb1.cell (by simp)]

theorem cmpOr_lit (x y z : Int) (w : World) : Calls Tryz.prog 65 #[.slice (some ⟨w.heap.size, 0, none⟩) 3 3] (w.alloc (.cells #[.int .i64 x, .int .i64 y, .int .i64 z] 35)) fun e w' => e = .returned (.int .i64 (orE x y z)) ∧ w.alloc (.cells #[.int .i64 x, .int .i64 y, .int .i64 z] 35) = w' :=
  cmpOr_any x y z w.heap.size _ (by simp) (by simp) (by simp)

set_option maxHeartbeats 1000000 in
theorem Token_any (c0 c1 c2 c3 c4 c5 c6 c7 c8 k a t : Int) (w : World) :
    Calls Tryz.prog 37 #[.agg #[.int .i64 c0, .int .i64 c1, .int .i64 c2, .int .i64 c3, .int .i64 c4, .int .i64 c5, .int .i64 c6, .int .i64 c7, .int .i64 c8, .int .i64 k], .int .i64 a, .int .i64 t] w
      fun e w' => ∃ v, e = .returned (.tuple #[v, .int .i64 (tokE c0 c1 c2 c3 c4 c5 c6 c7 c8 k a t)]) ∧ w'.ownsRow w.heap.size 5 1 v (tokM c0 c1 c2 c3 c4 c5 c6 c7 c8 k a t).length (U8 (tokM c0 c1 c2 c3 c4 c5 c6 c7 c8 k a t)) ∧ Below w.heap.size w w' := by
  by_cases hz : tokE c0 c1 c2 c3 c4 c5 c6 c7 c8 k a t = 0
  · obtain ⟨hr, ha, ht⟩ := tokE_zero hz
    obtain ⟨k0, k1⟩ := right_key hr
    obtain ⟨a0, a1⟩ := betw_true ha
    obtain ⟨t0, t1⟩ := betw_true ht
    rw [tokM_yes hz]
    have HZ := hideIt hz
    have hor : orE (cfgE c0 c1 c2 c3 c4 c5 c6 c7 c8 k) (argE a 255) (argE t 4294967295) = 0 := hz
    clear hz hr ha ht
    go_enter Tryz.func37, Tryz.ntmps37
    go_wp2_with fail
    refine (bConfig_any c0 c1 c2 c3 c4 c5 c6 c7 c8 k _).mono ?_
    rintro e w1 ⟨rfl, hb1⟩
    obtain ⟨hkey, _, hbw, hsz⟩ := box_facts hb1
    clear hb1
    go_wp2_with (first | (go_at_call 47; refine (bAddress_any _ _).mono ?_; rintro e w' ⟨rfl, rfl⟩) | (go_at_call 66; refine (bTime_any _ _).mono ?_; rintro e w' ⟨rfl, rfl⟩) | (go_at_call 65; refine (cmpOr_lit _ _ _ _).mono ?_; rintro e w' ⟨rfl, rfl⟩))
    refine (wToken_any k a t _ k0 k1 a0 (by omega) t0 (by omega)).mono ?_
    rintro e w2 ⟨v, rfl, hown, hb2⟩
    have hb3 : Below w.heap.size w w2 := below_join (hbw.alloc hbw.size _) hb2
    have hown3 := own_mono hown (hbw.alloc hbw.size (.cells #[.int .i64 (cfgE c0 c1 c2 c3 c4 c5 c6 c7 c8 k), .int .i64 (argE a 255), .int .i64 (argE t 4294967295)] 35)).size
    clear hown hb2 hkey
    go_wp2_with fail
    go_ret2
    exact ⟨v, by rw [HZ.out]; rfl, hown3, hb3⟩
  · rw [tokM_no hz]
    have hor : orE (cfgE c0 c1 c2 c3 c4 c5 c6 c7 c8 k) (argE a 255) (argE t 4294967295) = tokE c0 c1 c2 c3 c4 c5 c6 c7 c8 k a t := rfl
    generalize tokE c0 c1 c2 c3 c4 c5 c6 c7 c8 k a t = E at hor hz ⊢
    have hbe : (E != 0) = true := by simp [hz]
    go_enter Tryz.func37, Tryz.ntmps37
    go_wp2_with fail
    refine (bConfig_any c0 c1 c2 c3 c4 c5 c6 c7 c8 k _).mono ?_
    rintro e w1 ⟨rfl, hb1⟩
    obtain ⟨hkey, _, hbw, hsz⟩ := box_facts hb1
    clear hb1
    go_wp2_with (first | (go_at_call 47; refine (bAddress_any _ _).mono ?_; rintro e w' ⟨rfl, rfl⟩) | (go_at_call 66; refine (bTime_any _ _).mono ?_; rintro e w' ⟨rfl, rfl⟩) | (go_at_call 65; refine (cmpOr_lit _ _ _ _).mono ?_; rintro e w' ⟨rfl, rfl⟩))
    go_ret2
    exact ⟨_, rfl, World.ownsRow_nil _ _ _ _, hbw.alloc hbw.size _⟩

set_option maxHeartbeats 1000000 in
theorem Proof_any (c0 c1 c2 c3 c4 c5 c6 c7 c8 k a t : Int) (w : World) :
    Calls Tryz.prog 57 #[.agg #[.int .i64 c0, .int .i64 c1, .int .i64 c2, .int .i64 c3, .int .i64 c4, .int .i64 c5, .int .i64 c6, .int .i64 c7, .int .i64 c8, .int .i64 k], .int .i64 a, .int .i64 t] w
      fun e w' => e = .returned (.tuple #[.int .i64 (prfM c0 c1 c2 c3 c4 c5 c6 c7 c8 k a t), .int .i64 (prfE c0 c1 c2 c3 c4 c5 c6 c7 c8 k a t)]) ∧ Below w.heap.size w w' := by
  by_cases hz : prfE c0 c1 c2 c3 c4 c5 c6 c7 c8 k a t = 0
  · obtain ⟨hr, ha, ht⟩ := prfE_zero hz
    obtain ⟨k0, k1⟩ := right_key hr
    obtain ⟨a0, a1⟩ := betw_true ha
    obtain ⟨t0, t1⟩ := betw_true ht
    rw [prfM_yes hz]
    have HZ := hideIt hz
    have hor : orE (cfgE c0 c1 c2 c3 c4 c5 c6 c7 c8 k) (argE a 255) (argE t 1073741823) = 0 := hz
    clear hz hr ha ht
    go_enter Tryz.func57, Tryz.ntmps57
    go_wp2_with fail
    refine (bConfig_any c0 c1 c2 c3 c4 c5 c6 c7 c8 k _).mono ?_
    rintro e w1 ⟨rfl, hb1⟩
    obtain ⟨hkey, _, hbw, hsz⟩ := box_facts hb1
    clear hb1
    go_wp2_with (first | (go_at_call 47; refine (bAddress_any _ _).mono ?_; rintro e w' ⟨rfl, rfl⟩) | (go_at_call 103; refine (bNumber_any _ _).mono ?_; rintro e w' ⟨rfl, rfl⟩) | (go_at_call 65; refine (cmpOr_lit _ _ _ _).mono ?_; rintro e w' ⟨rfl, rfl⟩))
    refine (wProof_any k a t _ k0 k1 a0 (by omega) t0 (by omega)).mono ?_
    rintro e w2 ⟨rfl, hb2⟩
    have hb3 : Below w.heap.size w w2 := below_join (hbw.alloc hbw.size _) hb2
    clear hb2 hkey
    go_wp2_with fail
    go_ret2
    exact ⟨by rw [HZ.out]; rfl, hb3⟩
  · rw [prfM_no hz]
    have hor : orE (cfgE c0 c1 c2 c3 c4 c5 c6 c7 c8 k) (argE a 255) (argE t 1073741823) = prfE c0 c1 c2 c3 c4 c5 c6 c7 c8 k a t := rfl
    generalize prfE c0 c1 c2 c3 c4 c5 c6 c7 c8 k a t = E at hor hz ⊢
    have hbe : (E != 0) = true := by simp [hz]
    go_enter Tryz.func57, Tryz.ntmps57
    go_wp2_with fail
    refine (bConfig_any c0 c1 c2 c3 c4 c5 c6 c7 c8 k _).mono ?_
    rintro e w1 ⟨rfl, hb1⟩
    obtain ⟨hkey, _, hbw, hsz⟩ := box_facts hb1
    clear hb1
    go_wp2_with (first | (go_at_call 47; refine (bAddress_any _ _).mono ?_; rintro e w' ⟨rfl, rfl⟩) | (go_at_call 103; refine (bNumber_any _ _).mono ?_; rintro e w' ⟨rfl, rfl⟩) | (go_at_call 65; refine (cmpOr_lit _ _ _ _).mono ?_; rintro e w' ⟨rfl, rfl⟩))
    go_ret2
    exact ⟨rfl, hbw.alloc hbw.size _⟩

set_option maxHeartbeats 1000000 in
theorem rToken_any (c0 c1 c2 c3 c4 c5 c6 c7 c8 k a t : Int) (w : World) :
    Calls Tryz.prog 33 #[.agg #[.int .i64 c0, .int .i64 c1, .int .i64 c2, .int .i64 c3, .int .i64 c4, .int .i64 c5, .int .i64 c6, .int .i64 c7, .int .i64 c8, .int .i64 k], .int .i64 a, .int .i64 t] w
      fun e w' => ∃ v, e = .returned (.tuple #[v, .int .i64 (tokE c0 c1 c2 c3 c4 c5 c6 c7 c8 k a t)]) ∧ w'.ownsRow w.heap.size 5 1 v (tokM c0 c1 c2 c3 c4 c5 c6 c7 c8 k a t).length (U8 (tokM c0 c1 c2 c3 c4 c5 c6 c7 c8 k a t)) ∧ Below w.heap.size w w' := by
  cases hr : rightB c0 c1 c2 c3 c4 c5 c6 c7 c8 k
  · have hz := tokE_one a t hr
    rw [tokM_no (by rw [hz]; decide), hz]
    clear hz
    go_enter Tryz.func33, Tryz.ntmps33
    go_wp2_with fail
    refine (rRight_any c0 c1 c2 c3 c4 c5 c6 c7 c8 k _).mono ?_
    rintro e w1 ⟨rfl, hb1⟩
    obtain ⟨_, _, hbw, hsz⟩ := box_facts hb1
    clear hb1
    go_wp2_with fail
    go_ret2
    exact ⟨_, rfl, World.ownsRow_nil _ _ _ _, hbw⟩
  cases ha : betw a 0 255
  · have hz := tokE_two (t := t) hr (Or.inl ha)
    rw [tokM_no (by rw [hz]; decide), hz]
    clear hz
    go_enter Tryz.func33, Tryz.ntmps33
    go_wp2_with fail
    refine (rRight_any c0 c1 c2 c3 c4 c5 c6 c7 c8 k _).mono ?_
    rintro e w1 ⟨rfl, hb1⟩
    obtain ⟨_, _, hbw, hsz⟩ := box_facts hb1
    clear hb1
    go_wp2_with (go_at_call 60; refine (rbetween_any _ _ _ _).mono ?_; rintro e w' ⟨rfl, rfl⟩)
    go_ret2
    exact ⟨_, rfl, World.ownsRow_nil _ _ _ _, hbw⟩
  cases ht : betw t 0 4294967295
  · have hz := tokE_two (a := a) hr (Or.inr ht)
    rw [tokM_no (by rw [hz]; decide), hz]
    clear hz
    go_enter Tryz.func33, Tryz.ntmps33
    go_wp2_with fail
    refine (rRight_any c0 c1 c2 c3 c4 c5 c6 c7 c8 k _).mono ?_
    rintro e w1 ⟨rfl, hb1⟩
    obtain ⟨_, _, hbw, hsz⟩ := box_facts hb1
    clear hb1
    go_wp2_with (go_at_call 60; refine (rbetween_any _ _ _ _).mono ?_; rintro e w' ⟨rfl, rfl⟩)
    go_ret2
    exact ⟨_, rfl, World.ownsRow_nil _ _ _ _, hbw⟩
  · have hz := tokE_all hr ha ht
    rw [tokM_yes hz, hz]
    clear hz
    obtain ⟨k0, k1⟩ := right_key hr
    obtain ⟨a0, a1⟩ := betw_true ha
    obtain ⟨t0, t1⟩ := betw_true ht
    go_enter Tryz.func33, Tryz.ntmps33
    go_wp2_with fail
    refine (rRight_any c0 c1 c2 c3 c4 c5 c6 c7 c8 k _).mono ?_
    rintro e w1 ⟨rfl, hb1⟩
    obtain ⟨_, hcl, hbw, hsz⟩ := box_facts hb1
    have q0 : w1.cell? ⟨w.heap.size, 0, none⟩ = some (.int .i64 c0) := by rw [hcl 0 (by decide)]; simp
    have q1 : w1.cell? ⟨w.heap.size, 1, none⟩ = some (.int .i64 c1) := by rw [hcl 1 (by decide)]; simp
    have q2 : w1.cell? ⟨w.heap.size, 2, none⟩ = some (.int .i64 c2) := by rw [hcl 2 (by decide)]; simp
    have q3 : w1.cell? ⟨w.heap.size, 3, none⟩ = some (.int .i64 c3) := by rw [hcl 3 (by decide)]; simp
    have q4 : w1.cell? ⟨w.heap.size, 4, none⟩ = some (.int .i64 c4) := by rw [hcl 4 (by decide)]; simp
    have q5 : w1.cell? ⟨w.heap.size, 5, none⟩ = some (.int .i64 c5) := by rw [hcl 5 (by decide)]; simp
    have q6 : w1.cell? ⟨w.heap.size, 6, none⟩ = some (.int .i64 c6) := by rw [hcl 6 (by decide)]; simp
    have q7 : w1.cell? ⟨w.heap.size, 7, none⟩ = some (.int .i64 c7) := by rw [hcl 7 (by decide)]; simp
    have q8 : w1.cell? ⟨w.heap.size, 8, none⟩ = some (.int .i64 c8) := by rw [hcl 8 (by decide)]; simp
    have q9 : w1.cell? ⟨w.heap.size, 9, none⟩ = some (.int .i64 k) := by rw [hcl 9 (by decide)]; simp
    clear hb1 hcl
    go_wp2_with (go_at_call 60; refine (rbetween_any _ _ _ _).mono ?_; rintro e w' ⟨rfl, rfl⟩)
    refine (rtoken_any c0 c1 c2 c3 c4 c5 c6 c7 c8 k a t _ k0 k1 a0 (by omega) t0 (by omega)).mono ?_
    rintro e w2 ⟨v, rfl, hown, hb2⟩
    have hb3 : Below w.heap.size w w2 := below_join hbw hb2
    have hown3 := own_mono hown hbw.size
    clear hown hb2 q0 q1 q2 q3 q4 q5 q6 q7 q8 q9
    go_wp2_with fail
    go_ret2
    exact ⟨v, rfl, hown3, hb3⟩

set_option maxHeartbeats 1000000 in
theorem rProof_any (c0 c1 c2 c3 c4 c5 c6 c7 c8 k a t : Int) (w : World) :
    Calls Tryz.prog 115 #[.agg #[.int .i64 c0, .int .i64 c1, .int .i64 c2, .int .i64 c3, .int .i64 c4, .int .i64 c5, .int .i64 c6, .int .i64 c7, .int .i64 c8, .int .i64 k], .int .i64 a, .int .i64 t] w
      fun e w' => e = .returned (.tuple #[.int .i64 (prfM c0 c1 c2 c3 c4 c5 c6 c7 c8 k a t), .int .i64 (prfE c0 c1 c2 c3 c4 c5 c6 c7 c8 k a t)]) ∧ Below w.heap.size w w' := by
  cases hr : rightB c0 c1 c2 c3 c4 c5 c6 c7 c8 k
  · have hz := prfE_one a t hr
    rw [prfM_no (by rw [hz]; decide), hz]
    clear hz
    go_enter Tryz.func115, Tryz.ntmps115
    go_wp2_with fail
    refine (rRight_any c0 c1 c2 c3 c4 c5 c6 c7 c8 k _).mono ?_
    rintro e w1 ⟨rfl, hb1⟩
    obtain ⟨_, _, hbw, hsz⟩ := box_facts hb1
    clear hb1
    go_wp2_with fail
    go_ret2
    exact ⟨rfl, hbw⟩
  cases ha : betw a 0 255
  · have hz := prfE_two (t := t) hr (Or.inl ha)
    rw [prfM_no (by rw [hz]; decide), hz]
    clear hz
    go_enter Tryz.func115, Tryz.ntmps115
    go_wp2_with fail
    refine (rRight_any c0 c1 c2 c3 c4 c5 c6 c7 c8 k _).mono ?_
    rintro e w1 ⟨rfl, hb1⟩
    obtain ⟨_, _, hbw, hsz⟩ := box_facts hb1
    clear hb1
    go_wp2_with (go_at_call 60; refine (rbetween_any _ _ _ _).mono ?_; rintro e w' ⟨rfl, rfl⟩)
    go_ret2
    exact ⟨rfl, hbw⟩
  cases ht : betw t 0 1073741823
  · have hz := prfE_two (a := a) hr (Or.inr ht)
    rw [prfM_no (by rw [hz]; decide), hz]
    clear hz
    go_enter Tryz.func115, Tryz.ntmps115
    go_wp2_with fail
    refine (rRight_any c0 c1 c2 c3 c4 c5 c6 c7 c8 k _).mono ?_
    rintro e w1 ⟨rfl, hb1⟩
    obtain ⟨_, _, hbw, hsz⟩ := box_facts hb1
    clear hb1
    go_wp2_with (go_at_call 60; refine (rbetween_any _ _ _ _).mono ?_; rintro e w' ⟨rfl, rfl⟩)
    go_ret2
    exact ⟨rfl, hbw⟩
  · have hz := prfE_all hr ha ht
    rw [prfM_yes hz, hz]
    clear hz
    obtain ⟨k0, k1⟩ := right_key hr
    obtain ⟨a0, a1⟩ := betw_true ha
    obtain ⟨t0, t1⟩ := betw_true ht
    go_enter Tryz.func115, Tryz.ntmps115
    go_wp2_with fail
    refine (rRight_any c0 c1 c2 c3 c4 c5 c6 c7 c8 k _).mono ?_
    rintro e w1 ⟨rfl, hb1⟩
    obtain ⟨_, hcl, hbw, hsz⟩ := box_facts hb1
    have q0 : w1.cell? ⟨w.heap.size, 0, none⟩ = some (.int .i64 c0) := by rw [hcl 0 (by decide)]; simp
    have q1 : w1.cell? ⟨w.heap.size, 1, none⟩ = some (.int .i64 c1) := by rw [hcl 1 (by decide)]; simp
    have q2 : w1.cell? ⟨w.heap.size, 2, none⟩ = some (.int .i64 c2) := by rw [hcl 2 (by decide)]; simp
    have q3 : w1.cell? ⟨w.heap.size, 3, none⟩ = some (.int .i64 c3) := by rw [hcl 3 (by decide)]; simp
    have q4 : w1.cell? ⟨w.heap.size, 4, none⟩ = some (.int .i64 c4) := by rw [hcl 4 (by decide)]; simp
    have q5 : w1.cell? ⟨w.heap.size, 5, none⟩ = some (.int .i64 c5) := by rw [hcl 5 (by decide)]; simp
    have q6 : w1.cell? ⟨w.heap.size, 6, none⟩ = some (.int .i64 c6) := by rw [hcl 6 (by decide)]; simp
    have q7 : w1.cell? ⟨w.heap.size, 7, none⟩ = some (.int .i64 c7) := by rw [hcl 7 (by decide)]; simp
    have q8 : w1.cell? ⟨w.heap.size, 8, none⟩ = some (.int .i64 c8) := by rw [hcl 8 (by decide)]; simp
    have q9 : w1.cell? ⟨w.heap.size, 9, none⟩ = some (.int .i64 k) := by rw [hcl 9 (by decide)]; simp
    clear hb1 hcl
    go_wp2_with (go_at_call 60; refine (rbetween_any _ _ _ _).mono ?_; rintro e w' ⟨rfl, rfl⟩)
    refine (rproof_any c0 c1 c2 c3 c4 c5 c6 c7 c8 k a t _ k0 k1 a0 (by omega) t0 (by omega)).mono ?_
    rintro e w2 ⟨rfl, hb2⟩
    have hb3 : Below w.heap.size w w2 := below_join hbw hb2
    clear hb2 q0 q1 q2 q3 q4 q5 q6 q7 q8 q9
    go_wp2_with fail
    go_ret2
    exact ⟨rfl, hb3⟩
end Go.Proofs.YthmdjhlhodpbhaaGreatDoor
