/-
  Token and Proof, the program's and the document's, whatever is handed in.
-/
import Derived.Test.YthmdjhlhodpbhaaGreatDoorCg
namespace Go.Proofs.YthmdjhlhodpbhaaGreatDoor
open Go.RowKit

def orE (a b c : Int) : Int := if a = 0 then (if b = 0 then c else b) else a
def pick3 (a b c : Int) : Nat → Int
  | 0 => a
  | 1 => b
  | _ => c
theorem orE_at {a b c : Int} (k : Nat) (hk : k < 3) (h : ∀ j, j < k → pick3 a b c j = 0) (hn : pick3 a b c k ≠ 0) : pick3 a b c k = orE a b c := by
  match k, hk with
  | 0, _ => simp only [pick3] at hn ⊢; simp [orE, hn]
  | 1, _ =>
    have h0 := h 0 (by decide)
    simp only [pick3] at hn h0 ⊢; simp [orE, hn, h0]
  | 2, _ =>
    have h0 := h 0 (by decide)
    have h1 := h 1 (by decide)
    simp only [pick3] at hn h0 h1 ⊢; simp [orE, h0, h1]
theorem orE_none {a b c : Int} (h : ∀ j, j < 3 → pick3 a b c j = 0) : (0 : Int) = orE a b c := by
  have h0 := h 0 (by decide)
  have h1 := h 1 (by decide)
  have h2 := h 2 (by decide)
  simp only [pick3] at h0 h1 h2
  simp [orE, h0, h1, h2]
theorem upto_zero {f : Nat → Int} {k : Nat} (h : ∀ j, j < k → f j = 0) (hk : f k = 0) : ∀ j, j < k + 1 → f j = 0 := by
  intro j hj
  rcases Nat.lt_or_ge j k with h1 | h1
  · exact h j h1
  · obtain rfl : j = k := by omega
    exact hk

set_option maxHeartbeats 400000 in
theorem cmpOr_any (x y z : Int) (b : Nat) (w : World) (hx : w.cell? ⟨b, 0, none⟩ = some (.int .i64 x)) (hy : w.cell? ⟨b, 1, none⟩ = some (.int .i64 y)) (hz : w.cell? ⟨b, 2, none⟩ = some (.int .i64 z)) :
    Calls Tryz.prog 65 #[.slice (some ⟨b, 0, none⟩) 3 3] w fun e w' => e = .returned (.int .i64 (orE x y z)) ∧ w = w' := by
  have HC : Hid (∀ j, j < 3 → w.cell? ⟨b, j, none⟩ = some (.int .i64 (pick3 x y z j))) := by
    intro j hj
    match j, hj with
    | 0, _ => exact hx
    | 1, _ => exact hy
    | 2, _ => exact hz
  clear hx hy hz
  go_enter Tryz.func65, Tryz.ntmps65
  go_wp2
  go_loop [8] (fun i => ∃ k : Nat, k ≤ 3 ∧ i = .int .i64 k ∧ Hid (∀ j, j < k → pick3 x y z j = 0)) (fun i => 3 - (intOf i).toNat)
  case atStart => exact ⟨0, Nat.zero_le _, rfl, fun j hj => by omega⟩
  case round =>
    obtain ⟨k, hk, rfl, hok⟩ := hrel
    by_cases hlt : k < 3
    · have hcell := HC.out k hlt
      by_cases h0 : pick3 x y z k = 0
      · have HZ := hideIt h0
        rw [h0] at hcell
        clear h0
        go_wp2
        go_round
        case rel => exact ⟨k + 1, by omega, by go_num, upto_zero hok.out HZ.out⟩
        case measure => simp [intOf]; omega
      · have HR : Hid (pick3 x y z k = orE x y z) := orE_at k hlt hok.out h0
        generalize pick3 x y z k = v at hcell h0 HR
        have hb : (v != 0) = true := by simp [h0]
        go_wp2
        go_ret
        exact ⟨ret_int HR.out, rfl⟩
    · obtain rfl : k = 3 := by omega
      go_wp2
      go_ret
      exact ⟨ret_int (orE_none hok.out), rfl⟩

/-- what Token answers -/
def tokE (c0 c1 c2 c3 c4 c5 c6 c7 c8 k a t : Int) : Int := orE (cfgE c0 c1 c2 c3 c4 c5 c6 c7 c8 k) (argE a 255) (argE t 4294967295)
def tokM (c0 c1 c2 c3 c4 c5 c6 c7 c8 k a t : Int) : List Int := if tokE c0 c1 c2 c3 c4 c5 c6 c7 c8 k a t = 0 then tokenL k a t else []
def prfE (c0 c1 c2 c3 c4 c5 c6 c7 c8 k a c : Int) : Int := orE (cfgE c0 c1 c2 c3 c4 c5 c6 c7 c8 k) (argE a 255) (argE c 1073741823)
def prfM (c0 c1 c2 c3 c4 c5 c6 c7 c8 k a c : Int) : Int := if prfE c0 c1 c2 c3 c4 c5 c6 c7 c8 k a c = 0 then proofN k a c else 0
theorem right_key {c0 c1 c2 c3 c4 c5 c6 c7 c8 c9 : Int} (h : rightB c0 c1 c2 c3 c4 c5 c6 c7 c8 c9 = true) : 0 ≤ c9 ∧ c9 < 4294967296 := by
  unfold rightB at h
  simp only [Bool.and_eq_true] at h
  have := betw_true h.2.2.2
  omega

theorem small_any (w : World) : Calls Tryz.prog 34 #[] w fun e w' => e = .returned (.agg #[.int .i64 2, .int .i64 16, .int .i64 8, .int .i64 2, .int .i64 2, .int .i64 1, .int .i64 10, .int .i64 5, .int .i64 1000, .int .i64 0]) ∧ Below w.heap.size w w' := by
  go_enter Tryz.func34, Tryz.ntmps34
  go_wp2
  exact bodyPost_ret (v := .agg #[.int .i64 2, .int .i64 16, .int .i64 8, .int .i64 2, .int .i64 2, .int .i64 1, .int .i64 10, .int .i64 5, .int .i64 1000, .int .i64 0]) (by simp [results, Tryz.results34, go_sem]) rfl ⟨rfl, below_alloc w _⟩
end Go.Proofs.YthmdjhlhodpbhaaGreatDoor
