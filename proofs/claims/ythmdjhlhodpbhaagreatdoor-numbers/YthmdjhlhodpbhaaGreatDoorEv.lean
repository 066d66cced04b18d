/-
  What the walks lean on of the package-level variables (the table of powers of ten, the handle of the type error), and strconv.Itoa by its contract.
-/
import Derived.Test.YthmdjhlhodpbhaaGreatDoorShelf
import Derived.Test.YthmdjhlhodpbhaaGreatDoorTk
import Derived.Lib.ItoaLen
namespace Go.Proofs.YthmdjhlhodpbhaaGreatDoor
open Go.RowKit

def Env (w : World) : Prop := Lib.TabIs Tryz.prog w "internal/strconv.uint64pow10" .u64 Lib.pow10Tab ∧ w.cell? ⟨0, 0, none⟩ = some (.iface 263 (.agg #[.pointer (some ⟨4, 109, none⟩)]))
theorem gPow : Tryz.prog.globalNamed "internal/strconv.uint64pow10" = some 1 := by kernel_rfl
theorem Env.below {w w' : World} (h : Env w) (hb : Below w.heap.size w w') : Env w' := by
  refine ⟨?_, cell_below h.2 hb⟩
  have h1 := h.1
  unfold Lib.TabIs World.var? at *
  rw [gPow] at h1 ⊢
  simp only [Option.bind_some] at h1 ⊢
  have hlt : 1 < w.heap.size := by
    rcases Nat.lt_or_ge 1 w.heap.size with h | h
    · exact h
    · rw [Array.getElem?_eq_none h] at h1
      simp at h1
  rw [hb.block 1 hlt]
  exact h1
theorem below_grow (w : World) (k : Nat) (os : Array Obj) : Below w.heap.size w (Sort.grow (w.drewN k) os) := by
  refine ⟨?_, ?_, ?_, ?_, ?_⟩
  · rfl
  · simp [Sort.grow]
  · rfl
  · simp [Sort.grow]
  · intro i hi
    simp [Sort.grow, Array.getElem?_append, hi]
theorem itoa_any (n : Int) (h0 : 0 ≤ n) (h1 : n ≤ 9223372036854775807) (w : World) (he : Env w) : Calls Tryz.prog 137 #[.int .i64 n] w fun e w' => ∃ s : ByteArray, e = .returned (.string s) ∧ s.size ≤ 21 ∧ Below w.heap.size w w' := by
  refine (Tryz.strconv_Itoa n (by omega) (by omega) w he.1).mono ?_
  rintro e w' ⟨rfl, k, os, rfl⟩
  refine ⟨_, rfl, ?_, below_grow w k os⟩
  have := Lib.itoa_length_le n (by omega) (by omega)
  show (Lib.itoa n).toArray.size ≤ 21
  simpa using this
end Go.Proofs.YthmdjhlhodpbhaaGreatDoor
