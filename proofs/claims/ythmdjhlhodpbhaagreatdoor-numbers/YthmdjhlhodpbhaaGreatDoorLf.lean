/-
  The leaves: contracts of the small functions that only reckon.
-/
import Derived.Test.YthmdjhlhodpbhaaGreatDoorProg
import Derived.Test.YthmdjhlhodpbhaaGreatDoorPl
namespace Go.Proofs.YthmdjhlhodpbhaaGreatDoor
open Go.RowKit

theorem num_any (n : Int) (w : World) : Calls Tryz.prog 110 #[.int .i64 n] w fun e w' => e = .returned (.int .i64 n) ∧ w = w' := by
  go_enter Tryz.func110, Tryz.ntmps110
  go_wp2
  go_ret
  exact ⟨rfl, rfl⟩

theorem ret_bool {a b : Bool} (h : a = b) : Ending.returned (.bool a) = .returned (.bool b) := by rw [h]

theorem rbetween_any (n a b : Int) (w : World) : Calls Tryz.prog 60 #[.int .i64 n, .int .i64 a, .int .i64 b] w fun e w' => e = .returned (.bool (betw n a b)) ∧ w = w' := by
  go_enter Tryz.func60, Tryz.ntmps60
  go_wp2
  all_goals go_ret
  all_goals exact ⟨ret_bool (by unfold betw; simp; try omega), rfl⟩

theorem bbetween_any (n a b : Int) (w : World) : Calls Tryz.prog 101 #[.int .i64 n, .int .i64 a, .int .i64 b] w fun e w' => e = .returned (.bool (betw n a b)) ∧ w = w' := by
  go_enter Tryz.func101, Tryz.ntmps101
  go_wp2
  all_goals go_ret
  all_goals exact ⟨ret_bool (by unfold betw; simp; try omega), rfl⟩

/-- what an argument's bounds answer -/
def argE (n g : Int) : Int := if betw n 0 g then 0 else 2
theorem argument_any (n g : Int) (w : World) : Calls Tryz.prog 88 #[.int .i64 n, .int .i64 g] w fun e w' => e = .returned (.int .i64 (argE n g)) ∧ w = w' := by
  unfold argE
  cases hb : betw n 0 g
  all_goals
    go_enter Tryz.func88, Tryz.ntmps88
    go_wp2_with (go_at_call 101; refine (bbetween_any _ _ _ _).mono ?_; rintro e w' ⟨rfl, rfl⟩)
    go_ret
    exact ⟨rfl, rfl⟩

theorem bNumber_any (n : Int) (w : World) : Calls Tryz.prog 103 #[.int .i64 n] w fun e w' => e = .returned (.int .i64 (argE n 1073741823)) ∧ w = w' := by
  go_enter Tryz.func103, Tryz.ntmps103
  go_wp2_with (go_at_call 88; refine (argument_any _ _ _).mono ?_; rintro e w' ⟨rfl, rfl⟩)
  go_ret
  exact ⟨rfl, rfl⟩
theorem bAddress_any (n : Int) (w : World) : Calls Tryz.prog 47 #[.int .i64 n] w fun e w' => e = .returned (.int .i64 (argE n 255)) ∧ w = w' := by
  go_enter Tryz.func47, Tryz.ntmps47
  go_wp2_with (go_at_call 88; refine (argument_any _ _ _).mono ?_; rintro e w' ⟨rfl, rfl⟩)
  go_ret
  exact ⟨rfl, rfl⟩
theorem bTime_any (n : Int) (w : World) : Calls Tryz.prog 66 #[.int .i64 n] w fun e w' => e = .returned (.int .i64 (argE n 4294967295)) ∧ w = w' := by
  go_enter Tryz.func66, Tryz.ntmps66
  go_wp2_with (go_at_call 88; refine (argument_any _ _ _).mono ?_; rintro e w' ⟨rfl, rfl⟩)
  go_ret
  exact ⟨rfl, rfl⟩

def sizeN (c : Int) : Int := if c < 64 then 1 else if c < 128 then 2 else if c < 192 then 4 else 0
theorem sizeByFirst_any (c : Int) (w : World) : Calls Tryz.prog 183 #[.int .u8 c] w fun e w' => e = .returned (.int .i64 (sizeN c)) ∧ w = w' := by
  unfold sizeN
  go_enter Tryz.func183, Tryz.ntmps183
  go_wp2
  all_goals go_ret
  all_goals (refine ⟨?_, rfl⟩; repeat' split) <;> first | rfl | omega

theorem rput_any (n : Int) (w : World) (h0 : 0 ≤ n) (h1 : n ≤ 1073741823) : Calls Tryz.prog 155 #[.int .i64 n] w fun e w' => ∃ v, e = .returned v ∧ w'.ownsRow w.heap.size 5 1 v (putL n).length (U8 (putL n)) ∧ Below w.heap.size w w' := by
  by_cases a : n < 64
  · have e : putL n = [n] := by unfold putL; rw [if_pos a]
    rw [e]
    go_enter Tryz.func155, Tryz.ntmps155
    go_wp2
    go_ret
    exact ⟨_, rfl, own_lit w 5 (U8 [n]) (by simp [U8, maxLen]), below_alloc w _⟩
  by_cases b : n < 16384
  · have e : putL n = [64 + n / 256, n % 256] := by unfold putL; rw [if_neg a, if_pos b]
    rw [e]
    go_enter Tryz.func155, Tryz.ntmps155
    go_wp2
    go_ret
    exact ⟨_, rfl, own_lit w 5 (U8 [64 + n / 256, n % 256]) (by simp [U8, maxLen]), below_alloc w _⟩
  · have e : putL n = [128 + n / 16777216, n / 65536 % 256, n / 256 % 256, n % 256] := by unfold putL; rw [if_neg a, if_neg b]
    rw [e]
    go_enter Tryz.func155, Tryz.ntmps155
    go_wp2
    go_ret
    exact ⟨_, rfl, own_lit w 5 (U8 [128 + n / 16777216, n / 65536 % 256, n / 256 % 256, n % 256]) (by simp [U8, maxLen]), below_alloc w _⟩
end Go.Proofs.YthmdjhlhodpbhaaGreatDoor
