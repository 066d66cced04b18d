/- Shuffled, 37 -/
import Derived.ProofKit
import Derived.Deep.Slices
import Derived.SizedLaws
import Derived.OpenShut
import Derived.Test.YthmdjhlhodpbhaaGreatDoorS10
import Derived.Test.YthmdjhlhodpbhaaGreatDoorS34
set_option maxHeartbeats 16000000
set_option maxRecDepth 8000
namespace Go.Proofs.YthmdjhlhodpbhaaGreatDoor
open Go.RowKit Go.Deep Go.ChangeShapes Go.WideShapes Go.ChangeAt
theorem kcells_int : Tryz.prog.cellsOf 3 = 1 := by kernel_rfl
theorem kcells_cfg : Tryz.prog.cellsOf 26 = 10 := by kernel_rfl
theorem klen10 {α : Type} {l : List α} (h : l.length = 10) : ∃ x0 x1 x2 x3 x4 x5 x6 x7 x8 x9 : α, l = [x0, x1, x2, x3, x4, x5, x6, x7, x8, x9] := by
 match l, h with
 | [x0, x1, x2, x3, x4, x5, x6, x7, x8, x9], _ => exact ⟨x0, x1, x2, x3, x4, x5, x6, x7, x8, x9, rfl⟩
section
variable {H : Type} {enc : TypeId × Value -> H} {w : World} {spare : Nat -> Bool} {held : Bool}
theorem kint_of_trod {n : Nat} {x : Value} {xs : List (DataW H × List MemPlace)} {i : Nat} (hi : i < xs.length) (h : DataW.trod enc Tryz.prog w 0 spare held n 3 [x] = xs[i]?) : ∃ c, x = .int .i64 c /\ -9223372036854775808 <= c /\ c <= 9223372036854775807 := by
 rw [List.getElem?_eq_getElem hi] at h
 obtain ⟨c, e, _, hwf⟩ := DataW.trod_int Tryz.underlying3 h
 simp only [List.cons.injEq, and_true] at e
 exact ⟨c, e, bounds_i64 hwf⟩
theorem kcfg_of_trod {n : Nat} {cs : List Value} {x : DataW H × List MemPlace} (h : DataW.trod enc Tryz.prog w 0 spare held n 26 cs = some x) : ∃ g : Cfg, cs = (cfgC g).toList /\ CfgRaw g := by
 obtain ⟨xs, m, _, _, hl, hlen, hf⟩ := DataW.trod_struct Tryz.underlying26 h
 have hlen' : xs.length = 10 := hlen
 rw [kcells_cfg] at hl
 obtain ⟨x0, x1, x2, x3, x4, x5, x6, x7, x8, x9, rfl⟩ := klen10 hl
 have g0 : DataW.trod enc Tryz.prog w 0 spare held m 3 ((List.drop 0 [x0, x1, x2, x3, x4, x5, x6, x7, x8, x9]).take (Tryz.prog.cellsOf 3)) = xs[0]? := hf 0 _ rfl
 rw [kcells_int] at g0
 obtain ⟨c0, rfl, r0⟩ := kint_of_trod (xs := xs) (i := 0) (by omega) (by simpa using g0)
 have g1 : DataW.trod enc Tryz.prog w 0 spare held m 3 ((List.drop 1 [.int .i64 c0, x1, x2, x3, x4, x5, x6, x7, x8, x9]).take (Tryz.prog.cellsOf 3)) = xs[1]? := hf 1 _ rfl
 rw [kcells_int] at g1
 obtain ⟨c1, rfl, r1⟩ := kint_of_trod (xs := xs) (i := 1) (by omega) (by simpa using g1)
 have g2 : DataW.trod enc Tryz.prog w 0 spare held m 3 ((List.drop 2 [.int .i64 c0, .int .i64 c1, x2, x3, x4, x5, x6, x7, x8, x9]).take (Tryz.prog.cellsOf 3)) = xs[2]? := hf 2 _ rfl
 rw [kcells_int] at g2
 obtain ⟨c2, rfl, r2⟩ := kint_of_trod (xs := xs) (i := 2) (by omega) (by simpa using g2)
 have g3 : DataW.trod enc Tryz.prog w 0 spare held m 3 ((List.drop 3 [.int .i64 c0, .int .i64 c1, .int .i64 c2, x3, x4, x5, x6, x7, x8, x9]).take (Tryz.prog.cellsOf 3)) = xs[3]? := hf 3 _ rfl
 rw [kcells_int] at g3
 obtain ⟨c3, rfl, r3⟩ := kint_of_trod (xs := xs) (i := 3) (by omega) (by simpa using g3)
 have g4 : DataW.trod enc Tryz.prog w 0 spare held m 3 ((List.drop 4 [.int .i64 c0, .int .i64 c1, .int .i64 c2, .int .i64 c3, x4, x5, x6, x7, x8, x9]).take (Tryz.prog.cellsOf 3)) = xs[4]? := hf 4 _ rfl
 rw [kcells_int] at g4
 obtain ⟨c4, rfl, r4⟩ := kint_of_trod (xs := xs) (i := 4) (by omega) (by simpa using g4)
 have g5 : DataW.trod enc Tryz.prog w 0 spare held m 3 ((List.drop 5 [.int .i64 c0, .int .i64 c1, .int .i64 c2, .int .i64 c3, .int .i64 c4, x5, x6, x7, x8, x9]).take (Tryz.prog.cellsOf 3)) = xs[5]? := hf 5 _ rfl
 rw [kcells_int] at g5
 obtain ⟨c5, rfl, r5⟩ := kint_of_trod (xs := xs) (i := 5) (by omega) (by simpa using g5)
 have g6 : DataW.trod enc Tryz.prog w 0 spare held m 3 ((List.drop 6 [.int .i64 c0, .int .i64 c1, .int .i64 c2, .int .i64 c3, .int .i64 c4, .int .i64 c5, x6, x7, x8, x9]).take (Tryz.prog.cellsOf 3)) = xs[6]? := hf 6 _ rfl
 rw [kcells_int] at g6
 obtain ⟨c6, rfl, r6⟩ := kint_of_trod (xs := xs) (i := 6) (by omega) (by simpa using g6)
 have g7 : DataW.trod enc Tryz.prog w 0 spare held m 3 ((List.drop 7 [.int .i64 c0, .int .i64 c1, .int .i64 c2, .int .i64 c3, .int .i64 c4, .int .i64 c5, .int .i64 c6, x7, x8, x9]).take (Tryz.prog.cellsOf 3)) = xs[7]? := hf 7 _ rfl
 rw [kcells_int] at g7
 obtain ⟨c7, rfl, r7⟩ := kint_of_trod (xs := xs) (i := 7) (by omega) (by simpa using g7)
 have g8 : DataW.trod enc Tryz.prog w 0 spare held m 3 ((List.drop 8 [.int .i64 c0, .int .i64 c1, .int .i64 c2, .int .i64 c3, .int .i64 c4, .int .i64 c5, .int .i64 c6, .int .i64 c7, x8, x9]).take (Tryz.prog.cellsOf 3)) = xs[8]? := hf 8 _ rfl
 rw [kcells_int] at g8
 obtain ⟨c8, rfl, r8⟩ := kint_of_trod (xs := xs) (i := 8) (by omega) (by simpa using g8)
 have g9 : DataW.trod enc Tryz.prog w 0 spare held m 3 ((List.drop 9 [.int .i64 c0, .int .i64 c1, .int .i64 c2, .int .i64 c3, .int .i64 c4, .int .i64 c5, .int .i64 c6, .int .i64 c7, .int .i64 c8, x9]).take (Tryz.prog.cellsOf 3)) = xs[9]? := hf 9 _ rfl
 rw [kcells_int] at g9
 obtain ⟨c9, rfl, r9⟩ := kint_of_trod (xs := xs) (i := 9) (by omega) (by simpa using g9)
 exact ⟨⟨c0, c1, c2, c3, c4, c5, c6, c7, c8, c9⟩, rfl, ⟨r0, r1, r2, r3, r4, r5, r6, r7, r8, r9⟩⟩
end
theorem kbytes_int : Tryz.prog.bytesOf 3 = 8 := by kernel_rfl
theorem ints_of_trod {H : Type} {enc : TypeId × Value -> H} {W : World} {spare : Nat -> Bool} {held : Bool} {fuel : Nat} {v : Value} {x : DataW H × List MemPlace} (h : DataW.trod enc Tryz.prog W 0 spare held fuel 38 [v] = some x) (hw : ∀ k ∈ x.1.weights Tryz.prog 38, k <= reachBytes) :
  ∃ (ao : Option Addr) (cap : Nat) (l : List Int), v = .slice ao l.length cap /\ IntsIn W ao l := by
 rcases open_ints Tryz.underlying38 Tryz.underlying3 kcells_int h with ⟨hcs, _⟩ | ⟨a, len, cap, zs, hcs, _, hl, _, hz, hx, hcell, hwf⟩
 ·simp only [List.cons.injEq, and_true] at hcs
  subst hcs
  exact ⟨none, 0, [], rfl, ⟨by simp, fun j hj => by simp at hj, fun j => by simp⟩⟩
 ·simp only [List.cons.injEq, and_true] at hcs
  subst hcs
  have hlz : len <= zs.length := by rw [hz]; split <;> omega
  have htl : (zs.take len).length = len := by rw [List.length_take]; omega
  have hwt := hw
  rw [hx] at hwt
  simp only [DataW.weights, Tryz.underlying38, kbytes_int, lits, List.length_map] at hwt
  have hlen := hwt _ (List.mem_cons_self ..)
  have hgd : ∀ j, j < len -> (zs.take len).getD j 0 = zs.getD j 0 := by
   intro j hj
   simp only [List.getD_eq_getElem?_getD, List.getElem?_take, if_pos hj]
  refine ⟨some a, cap, zs.take len, by rw [htl], ⟨?_, fun j hj => ?_, fun j => ?_⟩⟩
  ·rw [htl] at hlen ⊢
   unfold reachBytes at hlen
   omega
  ·rw [htl] at hj
   obtain ⟨b, off, rfl, hc⟩ := ints_at hcell (by omega)
   exact ⟨b, off, rfl, by rw [hgd j hj]; exact hc j (by omega)⟩
  ·rw [List.getD_eq_getElem?_getD]
   rcases Nat.lt_or_ge j (zs.take len).length with hj | hj
   ·rw [List.getElem?_eq_getElem hj]
    exact bounds_i64 (hwf _ (List.mem_of_mem_take (List.getElem_mem hj)))
   ·rw [List.getElem?_eq_none hj]
    decide
end Go.Proofs.YthmdjhlhodpbhaaGreatDoor
