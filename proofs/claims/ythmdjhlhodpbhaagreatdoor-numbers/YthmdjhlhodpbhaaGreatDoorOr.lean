/-
  The script opened: a slice of steps that reads as data is a list of steps, each with bytes that can be read.
-/
import Derived.Test.YthmdjhlhodpbhaaGreatDoorPa
import Derived.Test.YthmdjhlhodpbhaaGreatDoorRows
import Derived.ProofKit
import Derived.Deep.Slices
import Derived.SizedLaws
import Derived.OpenShut
namespace Go.Proofs.YthmdjhlhodpbhaaGreatDoor
open Go.RowKit Go.Deep Go.ChangeShapes Go.WideShapes Go.ChangeAt

theorem cells3 : Tryz.prog.cellsOf 3 = 1 := by kernel_rfl
theorem cells35 : Tryz.prog.cellsOf 26 = 10 := by kernel_rfl
theorem cells31 : Tryz.prog.cellsOf 44 = 1 := by kernel_rfl
theorem cells38 : Tryz.prog.cellsOf 90 = 16 := by kernel_rfl
theorem cells5 : Tryz.prog.cellsOf 5 = 1 := by kernel_rfl
theorem bytes38 : Tryz.prog.bytesOf 90 = 144 := by kernel_rfl
theorem bytes5 : Tryz.prog.bytesOf 5 = 1 := by kernel_rfl

theorem cons_of_len {α : Type} {n : Nat} {l : List α} (h : l.length = n + 1) : ∃ x r, l = x :: r := by
  cases l with
  | nil => simp at h
  | cons x r => exact ⟨x, r, rfl⟩
theorem len10 {α : Type} {l : List α} (h : l.length = 10) : ∃ x0 x1 x2 x3 x4 x5 x6 x7 x8 x9 : α, l = [x0, x1, x2, x3, x4, x5, x6, x7, x8, x9] := by
  obtain ⟨x0, l0, rfl⟩ := cons_of_len (n := 9) h
  have h0 : l0.length = 9 := by simpa using h
  obtain ⟨x1, l1, rfl⟩ := cons_of_len (n := 8) h0
  have h1 : l1.length = 8 := by simpa using h0
  obtain ⟨x2, l2, rfl⟩ := cons_of_len (n := 7) h1
  have h2 : l2.length = 7 := by simpa using h1
  obtain ⟨x3, l3, rfl⟩ := cons_of_len (n := 6) h2
  have h3 : l3.length = 6 := by simpa using h2
  obtain ⟨x4, l4, rfl⟩ := cons_of_len (n := 5) h3
  have h4 : l4.length = 5 := by simpa using h3
  obtain ⟨x5, l5, rfl⟩ := cons_of_len (n := 4) h4
  have h5 : l5.length = 4 := by simpa using h4
  obtain ⟨x6, l6, rfl⟩ := cons_of_len (n := 3) h5
  have h6 : l6.length = 3 := by simpa using h5
  obtain ⟨x7, l7, rfl⟩ := cons_of_len (n := 2) h6
  have h7 : l7.length = 2 := by simpa using h6
  obtain ⟨x8, l8, rfl⟩ := cons_of_len (n := 1) h7
  have h8 : l8.length = 1 := by simpa using h7
  obtain ⟨x9, l9, rfl⟩ := cons_of_len (n := 0) h8
  have h9 : l9.length = 0 := by simpa using h8
  obtain rfl := List.eq_nil_of_length_eq_zero h9
  exact ⟨x0, x1, x2, x3, x4, x5, x6, x7, x8, x9, rfl⟩
theorem len16 {α : Type} {l : List α} (h : l.length = 16) : ∃ x0 x1 x2 x3 x4 x5 x6 x7 x8 x9 x10 x11 x12 x13 x14 x15 : α, l = [x0, x1, x2, x3, x4, x5, x6, x7, x8, x9, x10, x11, x12, x13, x14, x15] := by
  obtain ⟨x0, l0, rfl⟩ := cons_of_len (n := 15) h
  have h0 : l0.length = 15 := by simpa using h
  obtain ⟨x1, l1, rfl⟩ := cons_of_len (n := 14) h0
  have h1 : l1.length = 14 := by simpa using h0
  obtain ⟨x2, l2, rfl⟩ := cons_of_len (n := 13) h1
  have h2 : l2.length = 13 := by simpa using h1
  obtain ⟨x3, l3, rfl⟩ := cons_of_len (n := 12) h2
  have h3 : l3.length = 12 := by simpa using h2
  obtain ⟨x4, l4, rfl⟩ := cons_of_len (n := 11) h3
  have h4 : l4.length = 11 := by simpa using h3
  obtain ⟨x5, l5, rfl⟩ := cons_of_len (n := 10) h4
  have h5 : l5.length = 10 := by simpa using h4
  obtain ⟨x6, l6, rfl⟩ := cons_of_len (n := 9) h5
  have h6 : l6.length = 9 := by simpa using h5
  obtain ⟨x7, l7, rfl⟩ := cons_of_len (n := 8) h6
  have h7 : l7.length = 8 := by simpa using h6
  obtain ⟨x8, l8, rfl⟩ := cons_of_len (n := 7) h7
  have h8 : l8.length = 7 := by simpa using h7
  obtain ⟨x9, l9, rfl⟩ := cons_of_len (n := 6) h8
  have h9 : l9.length = 6 := by simpa using h8
  obtain ⟨x10, l10, rfl⟩ := cons_of_len (n := 5) h9
  have h10 : l10.length = 5 := by simpa using h9
  obtain ⟨x11, l11, rfl⟩ := cons_of_len (n := 4) h10
  have h11 : l11.length = 4 := by simpa using h10
  obtain ⟨x12, l12, rfl⟩ := cons_of_len (n := 3) h11
  have h12 : l12.length = 3 := by simpa using h11
  obtain ⟨x13, l13, rfl⟩ := cons_of_len (n := 2) h12
  have h13 : l13.length = 2 := by simpa using h12
  obtain ⟨x14, l14, rfl⟩ := cons_of_len (n := 1) h13
  have h14 : l14.length = 1 := by simpa using h13
  obtain ⟨x15, l15, rfl⟩ := cons_of_len (n := 0) h14
  have h15 : l15.length = 0 := by simpa using h14
  obtain rfl := List.eq_nil_of_length_eq_zero h15
  exact ⟨x0, x1, x2, x3, x4, x5, x6, x7, x8, x9, x10, x11, x12, x13, x14, x15, rfl⟩

section
variable {H : Type} {enc : TypeId × Value → H} {w : World} {spare : Nat → Bool} {held : Bool}

theorem int_of_trod {n : Nat} {x : Value} {xs : List (DataW H × List MemPlace)} {i : Nat} (hi : i < xs.length) (h : DataW.trod enc Tryz.prog w 0 spare held n 3 [x] = xs[i]?) : ∃ c, x = .int .i64 c := by
  rw [List.getElem?_eq_getElem hi] at h
  obtain ⟨c, e, _⟩ := DataW.trod_int Tryz.underlying3 h
  simp only [List.cons.injEq, and_true] at e
  exact ⟨c, e⟩

theorem cfg_of_trod {n : Nat} {cs : List Value} {x : DataW H × List MemPlace} (h : DataW.trod enc Tryz.prog w 0 spare held n 26 cs = some x) :
    ∃ c0 c1 c2 c3 c4 c5 c6 c7 c8 c9 : Int, cs = [.int .i64 c0, .int .i64 c1, .int .i64 c2, .int .i64 c3, .int .i64 c4, .int .i64 c5, .int .i64 c6, .int .i64 c7, .int .i64 c8, .int .i64 c9] := by
  obtain ⟨xs, m, _, _, hl, hlen, hf⟩ := DataW.trod_struct Tryz.underlying26 h
  have hlen' : xs.length = 10 := hlen
  rw [cells35] at hl
  obtain ⟨x0, x1, x2, x3, x4, x5, x6, x7, x8, x9, rfl⟩ := len10 hl
  have g0 : DataW.trod enc Tryz.prog w 0 spare held m 3 ((List.drop 0 [x0, x1, x2, x3, x4, x5, x6, x7, x8, x9]).take (Tryz.prog.cellsOf 3)) = xs[0]? := hf 0 _ rfl
  rw [cells3] at g0
  obtain ⟨c0, rfl⟩ := int_of_trod (xs := xs) (i := 0) (by omega) (by simpa using g0)
  have g1 : DataW.trod enc Tryz.prog w 0 spare held m 3 ((List.drop 1 [.int .i64 c0, x1, x2, x3, x4, x5, x6, x7, x8, x9]).take (Tryz.prog.cellsOf 3)) = xs[1]? := hf 1 _ rfl
  rw [cells3] at g1
  obtain ⟨c1, rfl⟩ := int_of_trod (xs := xs) (i := 1) (by omega) (by simpa using g1)
  have g2 : DataW.trod enc Tryz.prog w 0 spare held m 3 ((List.drop 2 [.int .i64 c0, .int .i64 c1, x2, x3, x4, x5, x6, x7, x8, x9]).take (Tryz.prog.cellsOf 3)) = xs[2]? := hf 2 _ rfl
  rw [cells3] at g2
  obtain ⟨c2, rfl⟩ := int_of_trod (xs := xs) (i := 2) (by omega) (by simpa using g2)
  have g3 : DataW.trod enc Tryz.prog w 0 spare held m 3 ((List.drop 3 [.int .i64 c0, .int .i64 c1, .int .i64 c2, x3, x4, x5, x6, x7, x8, x9]).take (Tryz.prog.cellsOf 3)) = xs[3]? := hf 3 _ rfl
  rw [cells3] at g3
  obtain ⟨c3, rfl⟩ := int_of_trod (xs := xs) (i := 3) (by omega) (by simpa using g3)
  have g4 : DataW.trod enc Tryz.prog w 0 spare held m 3 ((List.drop 4 [.int .i64 c0, .int .i64 c1, .int .i64 c2, .int .i64 c3, x4, x5, x6, x7, x8, x9]).take (Tryz.prog.cellsOf 3)) = xs[4]? := hf 4 _ rfl
  rw [cells3] at g4
  obtain ⟨c4, rfl⟩ := int_of_trod (xs := xs) (i := 4) (by omega) (by simpa using g4)
  have g5 : DataW.trod enc Tryz.prog w 0 spare held m 3 ((List.drop 5 [.int .i64 c0, .int .i64 c1, .int .i64 c2, .int .i64 c3, .int .i64 c4, x5, x6, x7, x8, x9]).take (Tryz.prog.cellsOf 3)) = xs[5]? := hf 5 _ rfl
  rw [cells3] at g5
  obtain ⟨c5, rfl⟩ := int_of_trod (xs := xs) (i := 5) (by omega) (by simpa using g5)
  have g6 : DataW.trod enc Tryz.prog w 0 spare held m 3 ((List.drop 6 [.int .i64 c0, .int .i64 c1, .int .i64 c2, .int .i64 c3, .int .i64 c4, .int .i64 c5, x6, x7, x8, x9]).take (Tryz.prog.cellsOf 3)) = xs[6]? := hf 6 _ rfl
  rw [cells3] at g6
  obtain ⟨c6, rfl⟩ := int_of_trod (xs := xs) (i := 6) (by omega) (by simpa using g6)
  have g7 : DataW.trod enc Tryz.prog w 0 spare held m 3 ((List.drop 7 [.int .i64 c0, .int .i64 c1, .int .i64 c2, .int .i64 c3, .int .i64 c4, .int .i64 c5, .int .i64 c6, x7, x8, x9]).take (Tryz.prog.cellsOf 3)) = xs[7]? := hf 7 _ rfl
  rw [cells3] at g7
  obtain ⟨c7, rfl⟩ := int_of_trod (xs := xs) (i := 7) (by omega) (by simpa using g7)
  have g8 : DataW.trod enc Tryz.prog w 0 spare held m 3 ((List.drop 8 [.int .i64 c0, .int .i64 c1, .int .i64 c2, .int .i64 c3, .int .i64 c4, .int .i64 c5, .int .i64 c6, .int .i64 c7, x8, x9]).take (Tryz.prog.cellsOf 3)) = xs[8]? := hf 8 _ rfl
  rw [cells3] at g8
  obtain ⟨c8, rfl⟩ := int_of_trod (xs := xs) (i := 8) (by omega) (by simpa using g8)
  have g9 : DataW.trod enc Tryz.prog w 0 spare held m 3 ((List.drop 9 [.int .i64 c0, .int .i64 c1, .int .i64 c2, .int .i64 c3, .int .i64 c4, .int .i64 c5, .int .i64 c6, .int .i64 c7, .int .i64 c8, x9]).take (Tryz.prog.cellsOf 3)) = xs[9]? := hf 9 _ rfl
  rw [cells3] at g9
  obtain ⟨c9, rfl⟩ := int_of_trod (xs := xs) (i := 9) (by omega) (by simpa using g9)
  exact ⟨c0, c1, c2, c3, c4, c5, c6, c7, c8, c9, rfl⟩

/-- a slice of bytes that reads as data -/
theorem bytes_of_trod {n : Nat} {v : Value} {y : DataW H × List MemPlace} (h : DataW.trod enc Tryz.prog w 0 spare held n 44 [v] = some y) (hw : ∀ k ∈ y.1.weights Tryz.prog 44, k ≤ reachBytes) : OkBytes w v ∧ v.oneCell' = true := by
  rcases open_ints Tryz.underlying44 Tryz.underlying5 cells5 h with ⟨hcs, _⟩ | ⟨a, len, cap, zs, hcs, _, hl, _, hz, hx, hcell, hwz⟩
  · simp only [List.cons.injEq, and_true] at hcs
    subst hcs
    exact ⟨Or.inl rfl, rfl⟩
  · simp only [List.cons.injEq, and_true] at hcs
    subst hcs
    have hlz : len ≤ zs.length := by rw [hz]; split <;> omega
    have hlen : (zs.take len).length = len := by rw [List.length_take]; omega
    have hle : len ≤ reachBytes := by
      have := hw ((lits (H := H) .u8 (zs.take len)).length + (lits (H := H) .u8 (zs.drop len)).length) (by
        rw [hx]
        simp only [DataW.weights, Tryz.underlying44, bytes5, Nat.mul_one]
        exact List.mem_cons_self ..)
      simp only [lits, List.length_map, hlen] at this
      omega
    refine ⟨Or.inr ⟨a, cap, zs.take len, by rw [hlen], ?_⟩, rfl⟩
    refine ⟨fun x hx' => ?_, by rw [hlen]; unfold reachBytes at hle; omega, ?_⟩
    · have := bounds_u8 (hwz x (List.mem_of_mem_take hx'))
      omega
    · rcases Nat.eq_zero_or_pos len with h0 | h0
      · subst h0
        exact Or.inl ⟨by simp, _, _, rfl⟩
      · obtain ⟨b, off, rfl, hc⟩ := ints_at hcell (by omega)
        refine Or.inr ⟨by omega, b, off, cap, by rw [hlen], by omega, fun j hj => ?_⟩
        rw [hlen] at hj
        rw [hc j (by omega)]
        simp [List.getD, hj]

theorem op_of_trod {n : Nat} {cs : List Value} {x : DataW H × List MemPlace} (h : DataW.trod enc Tryz.prog w 0 spare held n 90 cs = some x) (hw : ∀ k ∈ x.1.weights Tryz.prog 90, k ≤ reachBytes) :
    ∃ o : OpD, cs = o.cells ∧ OkBytes w o.v ∧ o.v.oneCell' = true := by
  obtain ⟨xs, m, _, rfl, hl, hlen, hf⟩ := DataW.trod_struct Tryz.underlying90 h
  have hlen' : xs.length = 7 := hlen
  rw [cells38] at hl
  obtain ⟨x0, x1, x2, x3, x4, x5, x6, x7, x8, x9, x10, x11, x12, x13, x14, x15, rfl⟩ := len16 hl
  have g0 : DataW.trod enc Tryz.prog w 0 spare held m 3 ((List.drop 0 [x0, x1, x2, x3, x4, x5, x6, x7, x8, x9, x10, x11, x12, x13, x14, x15]).take (Tryz.prog.cellsOf 3)) = xs[0]? := hf 0 _ rfl
  rw [cells3] at g0
  obtain ⟨c0, rfl⟩ := int_of_trod (xs := xs) (i := 0) (by omega) (by simpa using g0)
  have g1 : DataW.trod enc Tryz.prog w 0 spare held m 3 ((List.drop 1 [.int .i64 c0, x1, x2, x3, x4, x5, x6, x7, x8, x9, x10, x11, x12, x13, x14, x15]).take (Tryz.prog.cellsOf 3)) = xs[1]? := hf 1 _ rfl
  rw [cells3] at g1
  obtain ⟨c1, rfl⟩ := int_of_trod (xs := xs) (i := 1) (by omega) (by simpa using g1)
  have g2 : DataW.trod enc Tryz.prog w 0 spare held m 3 ((List.drop 2 [.int .i64 c0, .int .i64 c1, x2, x3, x4, x5, x6, x7, x8, x9, x10, x11, x12, x13, x14, x15]).take (Tryz.prog.cellsOf 3)) = xs[2]? := hf 2 _ rfl
  rw [cells3] at g2
  obtain ⟨c2, rfl⟩ := int_of_trod (xs := xs) (i := 2) (by omega) (by simpa using g2)
  have g3 : DataW.trod enc Tryz.prog w 0 spare held m 3 ((List.drop 3 [.int .i64 c0, .int .i64 c1, .int .i64 c2, x3, x4, x5, x6, x7, x8, x9, x10, x11, x12, x13, x14, x15]).take (Tryz.prog.cellsOf 3)) = xs[3]? := hf 3 _ rfl
  rw [cells3] at g3
  obtain ⟨c3, rfl⟩ := int_of_trod (xs := xs) (i := 3) (by omega) (by simpa using g3)
  have g4 : DataW.trod enc Tryz.prog w 0 spare held m 3 ((List.drop 4 [.int .i64 c0, .int .i64 c1, .int .i64 c2, .int .i64 c3, x4, x5, x6, x7, x8, x9, x10, x11, x12, x13, x14, x15]).take (Tryz.prog.cellsOf 3)) = xs[4]? := hf 4 _ rfl
  rw [cells3] at g4
  obtain ⟨c4, rfl⟩ := int_of_trod (xs := xs) (i := 4) (by omega) (by simpa using g4)
  have h5 : DataW.trod enc Tryz.prog w 0 spare held m 26 ((List.drop 5 [.int .i64 c0, .int .i64 c1, .int .i64 c2, .int .i64 c3, .int .i64 c4, x5, x6, x7, x8, x9, x10, x11, x12, x13, x14, x15]).take (Tryz.prog.cellsOf 26)) = xs[5]? := hf 5 _ rfl
  rw [cells35, List.getElem?_eq_getElem (by omega)] at h5
  obtain ⟨d0, d1, d2, d3, d4, d5, d6, d7, d8, d9, e5⟩ := cfg_of_trod h5
  simp only [List.drop_succ_cons, List.drop_zero, List.take_succ_cons, List.take_zero, List.cons.injEq, and_true] at e5
  obtain ⟨rfl, rfl, rfl, rfl, rfl, rfl, rfl, rfl, rfl, rfl⟩ := e5
  have h6 : DataW.trod enc Tryz.prog w 0 spare held m 44 ((List.drop 15 [.int .i64 c0, .int .i64 c1, .int .i64 c2, .int .i64 c3, .int .i64 c4, .int .i64 d0, .int .i64 d1, .int .i64 d2, .int .i64 d3, .int .i64 d4, .int .i64 d5, .int .i64 d6, .int .i64 d7, .int .i64 d8, .int .i64 d9, x15]).take (Tryz.prog.cellsOf 44)) = xs[6]? := hf 6 _ rfl
  rw [cells31, List.getElem?_eq_getElem (by omega)] at h6
  have h6' : DataW.trod enc Tryz.prog w 0 spare held m 44 [x15] = some xs[6] := by simpa using h6
  obtain ⟨hb, h1⟩ := bytes_of_trod h6' (by
    intro k hk
    refine hw k ?_
    simp only [DataW.weights, Tryz.underlying90]
    exact DataW.weights_mem_each (j := 6) (t := 44) rfl (by rw [List.getElem?_map, List.getElem?_eq_getElem (by omega)]; rfl) k hk)
  exact ⟨⟨c0, c1, c2, c3, c4, d0, d1, d2, d3, d4, d5, d6, d7, d8, d9, x15⟩, rfl, hb, h1⟩
end
end Go.Proofs.YthmdjhlhodpbhaaGreatDoor
