/-
  lent: bytes as the caller's own, with a 77 behind their end.
-/
import Derived.Test.YthmdjhlhodpbhaaGreatDoorGg
import Derived.Laws.CopyRow
import Derived.Deep.WholeRow
namespace Go.Proofs.YthmdjhlhodpbhaaGreatDoor
open Go.RowKit

theorem nil_eq (w : World) : (binOp .eql 44 (.slice none 0 0) (.slice none 0 0)).run Tryz.prog w = .ok (.bool true) w := by kernel_rfl
theorem some_ne (a : Addr) (n c : Nat) (w : World) : (binOp .eql 44 (.slice (some a) n c) (.slice none 0 0)).run Tryz.prog w = .ok (.bool false) w := by kernel_rfl
theorem made_zeros (n : Nat) : madeCells #[.int .u8 0] n = (List.replicate n (Value.int .u8 0)).toArray := by
  apply Array.ext
  · simp [madeCells]
  · intro i h1 h2
    simp [madeCells, Nat.mod_one]

theorem lent_nil (w : World) : Calls Tryz.prog 112 #[.slice none 0 0] w fun e w' => e = .returned (.slice none 0 0) ∧ w = w' := by
  have hn := nil_eq
  go_enter Tryz.func112, Tryz.ntmps112
  go_wp2
  go_ret
  exact ⟨rfl, rfl⟩

theorem copy_lent (l : List Int) (ad : Addr) (cap : Nat) (w : World) (hc : ∀ (j : Nat) u, (U8 l)[j]? = some u → w.cell? (ad.add j) = some u) :
    (Builtin.copy_ #[44, 44] 3 #[.slice (some ⟨w.heap.size, 0, none⟩) (l.length + 1) (l.length + 1), .slice (some ad) l.length cap]).run Tryz.prog (w.alloc (.cells (List.replicate (l.length + 1) (Value.int .u8 0)).toArray 5))
      = .ok (goInt l.length) (w.alloc (.cells (U8 (l ++ [0])).toArray 5)) := by
  have h := run_copy_row (P := Tryz.prog) (w.alloc (.cells (List.replicate (l.length + 1) (Value.int .u8 0)).toArray 5)) 44 44 3 5 w.heap.size 0 (l.length + 1) (l.length + 1) ad l.length cap (List.replicate (l.length + 1) (Value.int .u8 0)).toArray 5 (U8 l) Tryz.underlying44 (by kernel_rfl)
    (heap_alloc_last w _) (by rw [U8_length]; simp) (fun j u hu => cell_below (hc j u hu) (below_alloc w _)) (by simp [U8_length]) (u8_one l)
  rw [h, World.setRow_alloc_new, U8_length, U8_append]
  simp [U8]

set_option maxHeartbeats 1000000 in
set_option maxRecDepth 8000 in
theorem lent_some (l : List Int) (ad : Addr) (cap : Nat) (w : World) (hm : l.length ≤ 140737488355328) (hc : ∀ (j : Nat) u, (U8 l)[j]? = some u → w.cell? (ad.add j) = some u) :
    Calls Tryz.prog 112 #[.slice (some ad) l.length cap] w fun e w' => ∃ g, e = .returned (.slice (some ⟨g, 0, none⟩) l.length (l.length + 1)) ∧ w'.heap[g]? = some (.cells (U8 (l ++ [77])).toArray 5 (0, 0)) ∧ w.heap.size ≤ g ∧ Below w.heap.size w w' := by
  obtain ⟨i0, hi, hz0, hz1, hz2⟩ := info_parts info_u8
  have hmk : ∀ u : World, (Instr.makeSlice 44 (.int .i64 ((l.length : Int) + 1)) (.int .i64 ((l.length : Int) + 1))).run Tryz.prog u =
      .ok (.slice (some ⟨u.heap.size, 0, none⟩) (l.length + 1) (l.length + 1)) (u.alloc (.cells (madeCells #[.int .u8 0] (l.length + 1)) 5)) := fun u => by
    have h := run_make (P := Tryz.prog) u 44 5 i0 (.int .u8 0) Tryz.underlying44 hi hz0 .i64 .i64 ((l.length : Int) + 1) ((l.length : Int) + 1) (by omega) (Int.le_refl _) (by rw [hz2]; omega) (by omega)
    have e : ((l.length : Int) + 1).toNat = l.length + 1 := by omega
    rw [e] at h
    simpa [hz1, Value.cells] using h
  have hmc := made_zeros (l.length + 1)
  have hne := some_ne
  rw [hmc] at hmk
  have hcp := copy_lent l ad cap w hc
  clear hc hmc
  generalize (List.replicate (l.length + 1) (Value.int .u8 0)) = Z at hmk hcp
  have hcl : (w.alloc (.cells (U8 (l ++ [0])).toArray 5)).cell? ⟨w.heap.size, l.length, none⟩ = some (.int .u8 0) := by
    rw [World.cell?_alloc_at _ _ _ _ rfl]
    simp [U8]
  have HS : Hid ((U8 (l ++ [0])).toArray.setIfInBounds l.length (.int .u8 77) = (U8 (l ++ [77])).toArray) := by
    show _ = _
    rw [List.setIfInBounds_toArray, U8_append, U8_append, List.set_append_right _ _ (by rw [U8_length]; exact Nat.le_refl _), U8_length, Nat.sub_self]
    rfl
  generalize (U8 (l ++ [0])).toArray = Y at hcp hcl HS
  go_enter Tryz.func112, Tryz.ntmps112
  go_wp2
  go_ret
  refine ⟨w.heap.size, rfl, ?_, Nat.le_refl _, below_alloc w _⟩
  rw [HS.out]
  exact heap_alloc_last w _
end Go.Proofs.YthmdjhlhodpbhaaGreatDoor
