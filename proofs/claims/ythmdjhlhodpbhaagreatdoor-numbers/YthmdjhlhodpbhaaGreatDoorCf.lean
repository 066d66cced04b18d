/-
  Configs: the document's Right and the program's bounds, by the same Boolean; cmp.Or.
-/
import Derived.Test.YthmdjhlhodpbhaaGreatDoorTk
namespace Go.Proofs.YthmdjhlhodpbhaaGreatDoor
open Go.RowKit

def rightA (c0 c1 c2 c3 : Int) : Bool := betw c0 1 8 && (betw c1 8 4096 && (betw c2 8 c1 && betw c3 1 8))
def rightC (c4 c5 c6 c7 : Int) : Bool := betw c4 1 8 && (betw c5 0 8 && (betw c6 1 1000 && betw c7 1 1000))
def rightB (c0 c1 c2 c3 c4 c5 c6 c7 c8 c9 : Int) : Bool := rightA c0 c1 c2 c3 && (rightC c4 c5 c6 c7 && (betw c8 0 100000 && betw c9 0 4294967295))

set_option maxHeartbeats 4000000 in
theorem rRight_any (c0 c1 c2 c3 c4 c5 c6 c7 c8 c9 : Int) (w : World) :
    Calls Tryz.prog 59 #[.agg #[.int .i64 c0, .int .i64 c1, .int .i64 c2, .int .i64 c3, .int .i64 c4, .int .i64 c5, .int .i64 c6, .int .i64 c7, .int .i64 c8, .int .i64 c9]] w fun e w' => e = .returned (.bool (rightB c0 c1 c2 c3 c4 c5 c6 c7 c8 c9)) ∧ Below w.heap.size w w' := by
  have hb := below_alloc w (.cells #[.int .i64 c0, .int .i64 c1, .int .i64 c2, .int .i64 c3, .int .i64 c4, .int .i64 c5, .int .i64 c6, .int .i64 c7, .int .i64 c8, .int .i64 c9] 26)
  have HB := hideIt hb
  clear hb
  go_enter Tryz.func59, Tryz.ntmps59
  go_wp2_with (go_at_call 60; refine (rbetween_any _ _ _ _).mono ?_; rintro e w' ⟨rfl, rfl⟩)
  all_goals go_ret
  all_goals exact ⟨ret_bool (by simp [rightB, rightA, rightC, *]), HB.out⟩

def valAt (c0 c1 c2 c3 c4 c5 c6 c7 c8 c9 : Int) : Nat → Int
  | 0 => c0
  | 1 => c1
  | 2 => c2
  | 3 => c3
  | 4 => c4
  | 5 => c5
  | 6 => c6
  | 7 => c7
  | 8 => c8
  | _ => c9
def loAt : Nat → Int
  | 0 => 1
  | 1 => 8
  | 2 => 8
  | 3 => 1
  | 4 => 1
  | 5 => 0
  | 6 => 1
  | 7 => 1
  | 8 => 0
  | _ => 0
def hiAt (c1 : Int) : Nat → Int
  | 0 => 8
  | 1 => 4096
  | 2 => c1
  | 3 => 8
  | 4 => 8
  | 5 => 8
  | 6 => 1000
  | 7 => 1000
  | 8 => 100000
  | _ => 4294967295
def okAt (c0 c1 c2 c3 c4 c5 c6 c7 c8 c9 : Int) (k : Nat) : Bool := betw (valAt c0 c1 c2 c3 c4 c5 c6 c7 c8 c9 k) (loAt k) (hiAt c1 k)
def cfgE (c0 c1 c2 c3 c4 c5 c6 c7 c8 c9 : Int) : Int := if rightB c0 c1 c2 c3 c4 c5 c6 c7 c8 c9 then 0 else 1
theorem cfgE_all {c0 c1 c2 c3 c4 c5 c6 c7 c8 c9 : Int} (h : ∀ j, j < 10 → okAt c0 c1 c2 c3 c4 c5 c6 c7 c8 c9 j = true) : cfgE c0 c1 c2 c3 c4 c5 c6 c7 c8 c9 = 0 := by
  have h0 := h 0 (by decide); have h1 := h 1 (by decide); have h2 := h 2 (by decide); have h3 := h 3 (by decide); have h4 := h 4 (by decide)
  have h5 := h 5 (by decide); have h6 := h 6 (by decide); have h7 := h 7 (by decide); have h8 := h 8 (by decide); have h9 := h 9 (by decide)
  simp only [okAt, valAt, loAt, hiAt] at h0 h1 h2 h3 h4 h5 h6 h7 h8 h9
  simp [cfgE, rightB, rightA, rightC, *]
theorem cfgE_one {c0 c1 c2 c3 c4 c5 c6 c7 c8 c9 : Int} (k : Nat) (hk : k < 10) (h : okAt c0 c1 c2 c3 c4 c5 c6 c7 c8 c9 k = false) : cfgE c0 c1 c2 c3 c4 c5 c6 c7 c8 c9 = 1 := by
  match k, hk with
  | 0, _ | 1, _ | 2, _ | 3, _ | 4, _ | 5, _ | 6, _ | 7, _ | 8, _ | 9, _ =>
    simp only [okAt, valAt, loAt, hiAt] at h
    simp [cfgE, rightB, rightA, rightC, h]
theorem ret_int {k : IntKind} {a b : Int} (h : a = b) : Ending.returned (.int k a) = .returned (.int k b) := by rw [h]
theorem upto_succ {f : Nat → Bool} {k : Nat} (h : ∀ j, j < k → f j = true) (hk : f k = true) : ∀ j, j < k + 1 → f j = true := by
  intro j hj
  rcases Nat.lt_or_ge j k with h1 | h1
  · exact h j h1
  · obtain rfl : j = k := by omega
    exact hk

end Go.Proofs.YthmdjhlhodpbhaaGreatDoor
