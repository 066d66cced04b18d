/-
  back: what was lent is as it was; then it is written over.
-/
import Derived.Test.YthmdjhlhodpbhaaGreatDoorLe
import Derived.Deep.QuietTactic
import Derived.BigQuiet
namespace Go.Proofs.YthmdjhlhodpbhaaGreatDoor
open Go.RowKit

theorem back_nil (h : Value) (w : World) : Calls Tryz.prog 114 #[h, .slice none 0 0] w fun e w' => e = .returned (.bool true) ∧ w = w' := by
  have hn := nil_eq
  go_enter Tryz.func114, Tryz.ntmps114
  go_wp2
  go_ret
  exact ⟨rfl, rfl⟩

set_option maxHeartbeats 2000000 in
set_option maxRecDepth 8000 in
theorem back_some (l : List Int) (ad : Addr) (cap g G : Nat) (w : World) (hl : Bytes l) (hm : l.length ≤ 140737488355328) (hg : w.heap[g]? = some (.cells (U8 (l ++ [77])).toArray 5 (0, 0))) (hG : G ≤ g)
    (hc : ∀ j, j < l.length → ∃ b off, ad = ⟨b, off, none⟩ ∧ w.cell? ⟨b, off + j, none⟩ = some (.int .u8 (l.getD j 0))) :
    Calls Tryz.prog 114 #[.slice (some ⟨g, 0, none⟩) l.length (l.length + 1), .slice (some ad) l.length cap] w fun e w' => e = .returned (.bool true) ∧ Below G w w' := by
  have hne := some_ne
  have hcl : w.cell? ⟨g, l.length, none⟩ = some (.int .u8 77) := by simp [World.cell?, hg, U8]
  have hcj : ∀ j, j < l.length → w.cell? ⟨g, j, none⟩ = some (.int .u8 (l.getD j 0)) := by
    intro j hj
    simp only [World.cell?, hg, U8, List.getD, List.getElem?_eq_getElem hj, Option.getD_some]
    simp [List.getElem?_append_left, hj]
  have HC := hideIt hc
  have HJ := hideIt hcj
  have HG := hideIt hg
  clear hc hcj hg
  go_enter Tryz.func114, Tryz.ntmps114
  go_wp2
  go_loopw [6, 7] (fun ok i wr => ∃ k m : Nat, k ≤ l.length ∧ i = .int .i64 k ∧ ok = .bool true ∧ wr = w.drewN m) (fun _ i _ => l.length - (intOf i).toNat)
  case atStart => exact ⟨0, 0, Nat.zero_le _, rfl, rfl, rfl⟩
  case round =>
    obtain ⟨k, m, hk, rfl, rfl, rfl⟩ := hrel
    by_cases hlt : k < l.length
    · obtain ⟨b, off, rfl, h1⟩ := HC.out k hlt
      have h2 := HJ.out k hlt
      have hr := getD_byte hl k
      generalize l.getD k 0 = c at h1 h2 hr
      go_wp2
      go_quiet (fail)
      go_wp2
      go_roundw
      case rel => exact ⟨k + 1, _, by omega, by go_num, rfl, rfl⟩
      case measure => simp [intOf]; omega
    · obtain rfl : k = l.length := by omega
      have hown : (w.drewN m).ownsRow g 5 1 (.slice (some ⟨g, 0, none⟩) (l.length + 1) (l.length + 1)) (l.length + 1) (U8 (l ++ [77])) :=
        ⟨by simp [U8], .inr ⟨g, l.length + 1, _, rfl, Nat.le_refl _, HG.out, Nat.le_refl _, by unfold maxLen; omega, by simp [U8], by rw [List.take_of_length_le (by simp [U8])]⟩⟩
      have hbl : Below G w (w.drewN m) := ⟨rfl, rfl, rfl, Nat.le_refl _, fun _ _ => rfl⟩
      have HO := hideIt hown
      clear hown HC HJ HG hcl
      generalize w.drewN m = w1 at hbl HO ⊢
      generalize U8 (l ++ [77]) = ys0 at HO
      go_wp2
      go_loopw [8] (fun i wr => ∃ (j : Nat) (ys : List Value), j ≤ l.length + 1 ∧ i = .int .i64 j ∧ wr.ownsRow g 5 1 (.slice (some ⟨g, 0, none⟩) (l.length + 1) (l.length + 1)) (l.length + 1) ys ∧ Below G w wr) (fun i _ => l.length + 1 - (intOf i).toNat)
      case atStart => exact ⟨0, _, Nat.zero_le _, rfl, HO.out, hbl⟩
      case round =>
        obtain ⟨j, ys, hj, rfl, hown, hbw⟩ := hrel
        by_cases hjt : j < l.length + 1
        · have hcell : ∃ u, wr.cell? ⟨g, j, none⟩ = some u := by
            rw [hown.cellAt j (by omega)]
            exact ⟨_, List.getElem?_eq_getElem (by have := hown.1; omega)⟩
          obtain ⟨u, hcell⟩ := hcell
          have hfr := hown.frozenAt j
          have HS := hideIt (hown.stored j (.int .u8 238)).1
          have HB := hideIt (hbw.setCell (p := ⟨g, j, none⟩) hG (.int .u8 238))
          clear hown hbw
          go_wp2
          go_roundw
          case rel => exact ⟨j + 1, _, by omega, by go_num, HS.out, HB.out⟩
          case measure => simp [intOf]; omega
        · obtain rfl : j = l.length + 1 := by omega
          go_wp2
          go_ret
          exact ⟨rfl, hbw⟩
end Go.Proofs.YthmdjhlhodpbhaaGreatDoor
