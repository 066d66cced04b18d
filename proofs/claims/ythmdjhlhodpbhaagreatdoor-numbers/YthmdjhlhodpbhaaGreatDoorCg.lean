/-
  The program's check of a config: a row of ten bounds, gone through in order.
-/
import Derived.Test.YthmdjhlhodpbhaaGreatDoorCf
import Derived.Deep.WholeRow
namespace Go.Proofs.YthmdjhlhodpbhaaGreatDoor
open Go.RowKit

theorem wpList_store_new {P : Program} {w : World} {ops : Array Oper} {rest : List Oper} {o : Oper} {a : Act} {Q : Exit → Act → World → Prop} (hgd : o.guard = none) (ty : TypeId) (x y : Operand) (ho : o.op = .store ty x y) (hd : o.dst = none)
    (cells : Array Value) (g : Nat) (hgs : g = w.heap.size) (hx : a.eval x = .pointer (some ⟨g, 0, none⟩)) (hy : a.eval y = .agg cells)
    (t : TypeId) (old : Array Value) (hi : (P.info? ty).map (·.size) = some cells.size) (hold : old.size = cells.size) (h1 : cells.all (·.oneCell') = true)
    (h : wpList P ops Q rest a (w.alloc (.cells cells t))) : wpList P ops Q (o :: rest) a (w.alloc (.cells old t)) := by
  subst hgs
  refine wpList_store_row hgd ty x y ho w.heap.size cells hx hy t old (heap_alloc_last w _) hi hold h1 ?_
  rw [hd, World.setRow_alloc_new]
  exact h

theorem heap_two (w : World) (A B : Obj) : ((w.alloc A).alloc B).heap[w.heap.size + 1]? = some B := by
  have := heap_alloc_last (w.alloc A) B
  rwa [World.size_alloc] at this

def confCells (c0 c1 c2 c3 c4 c5 c6 c7 c8 c9 : Int) : Array Value :=
  #[.int .i64 c0, .int .i64 1, .int .i64 8, .int .i64 c1, .int .i64 8, .int .i64 4096, .int .i64 c2, .int .i64 8, .int .i64 c1, .int .i64 c3, .int .i64 1, .int .i64 8, .int .i64 c4, .int .i64 1, .int .i64 8,
    .int .i64 c5, .int .i64 0, .int .i64 8, .int .i64 c6, .int .i64 1, .int .i64 1000, .int .i64 c7, .int .i64 1, .int .i64 1000, .int .i64 c8, .int .i64 0, .int .i64 100000, .int .i64 c9, .int .i64 0, .int .i64 4294967295]
theorem confCells_size (c0 c1 c2 c3 c4 c5 c6 c7 c8 c9 : Int) : (confCells c0 c1 c2 c3 c4 c5 c6 c7 c8 c9).size = 30 := rfl
theorem confCells_one (c0 c1 c2 c3 c4 c5 c6 c7 c8 c9 : Int) : (confCells c0 c1 c2 c3 c4 c5 c6 c7 c8 c9).all (·.oneCell') = true := by kernel_rfl
theorem info_fields : (Tryz.prog.info? 171).map (·.size) = some 30 := by kernel_rfl
theorem index_at0 (c0 c1 c2 c3 c4 c5 c6 c7 c8 c9 : Int) (w : World) : (Instr.index 171 (.agg (confCells c0 c1 c2 c3 c4 c5 c6 c7 c8 c9)) (.int .i64 ((0 : Nat) : Int))).run Tryz.prog w = .ok (.agg #[.int .i64 (valAt c0 c1 c2 c3 c4 c5 c6 c7 c8 c9 0), .int .i64 (loAt 0), .int .i64 (hiAt c1 0)]) w := by kernel_rfl
theorem index_at1 (c0 c1 c2 c3 c4 c5 c6 c7 c8 c9 : Int) (w : World) : (Instr.index 171 (.agg (confCells c0 c1 c2 c3 c4 c5 c6 c7 c8 c9)) (.int .i64 ((1 : Nat) : Int))).run Tryz.prog w = .ok (.agg #[.int .i64 (valAt c0 c1 c2 c3 c4 c5 c6 c7 c8 c9 1), .int .i64 (loAt 1), .int .i64 (hiAt c1 1)]) w := by kernel_rfl
theorem index_at2 (c0 c1 c2 c3 c4 c5 c6 c7 c8 c9 : Int) (w : World) : (Instr.index 171 (.agg (confCells c0 c1 c2 c3 c4 c5 c6 c7 c8 c9)) (.int .i64 ((2 : Nat) : Int))).run Tryz.prog w = .ok (.agg #[.int .i64 (valAt c0 c1 c2 c3 c4 c5 c6 c7 c8 c9 2), .int .i64 (loAt 2), .int .i64 (hiAt c1 2)]) w := by kernel_rfl
theorem index_at3 (c0 c1 c2 c3 c4 c5 c6 c7 c8 c9 : Int) (w : World) : (Instr.index 171 (.agg (confCells c0 c1 c2 c3 c4 c5 c6 c7 c8 c9)) (.int .i64 ((3 : Nat) : Int))).run Tryz.prog w = .ok (.agg #[.int .i64 (valAt c0 c1 c2 c3 c4 c5 c6 c7 c8 c9 3), .int .i64 (loAt 3), .int .i64 (hiAt c1 3)]) w := by kernel_rfl
theorem index_at4 (c0 c1 c2 c3 c4 c5 c6 c7 c8 c9 : Int) (w : World) : (Instr.index 171 (.agg (confCells c0 c1 c2 c3 c4 c5 c6 c7 c8 c9)) (.int .i64 ((4 : Nat) : Int))).run Tryz.prog w = .ok (.agg #[.int .i64 (valAt c0 c1 c2 c3 c4 c5 c6 c7 c8 c9 4), .int .i64 (loAt 4), .int .i64 (hiAt c1 4)]) w := by kernel_rfl
theorem index_at5 (c0 c1 c2 c3 c4 c5 c6 c7 c8 c9 : Int) (w : World) : (Instr.index 171 (.agg (confCells c0 c1 c2 c3 c4 c5 c6 c7 c8 c9)) (.int .i64 ((5 : Nat) : Int))).run Tryz.prog w = .ok (.agg #[.int .i64 (valAt c0 c1 c2 c3 c4 c5 c6 c7 c8 c9 5), .int .i64 (loAt 5), .int .i64 (hiAt c1 5)]) w := by kernel_rfl
theorem index_at6 (c0 c1 c2 c3 c4 c5 c6 c7 c8 c9 : Int) (w : World) : (Instr.index 171 (.agg (confCells c0 c1 c2 c3 c4 c5 c6 c7 c8 c9)) (.int .i64 ((6 : Nat) : Int))).run Tryz.prog w = .ok (.agg #[.int .i64 (valAt c0 c1 c2 c3 c4 c5 c6 c7 c8 c9 6), .int .i64 (loAt 6), .int .i64 (hiAt c1 6)]) w := by kernel_rfl
theorem index_at7 (c0 c1 c2 c3 c4 c5 c6 c7 c8 c9 : Int) (w : World) : (Instr.index 171 (.agg (confCells c0 c1 c2 c3 c4 c5 c6 c7 c8 c9)) (.int .i64 ((7 : Nat) : Int))).run Tryz.prog w = .ok (.agg #[.int .i64 (valAt c0 c1 c2 c3 c4 c5 c6 c7 c8 c9 7), .int .i64 (loAt 7), .int .i64 (hiAt c1 7)]) w := by kernel_rfl
theorem index_at8 (c0 c1 c2 c3 c4 c5 c6 c7 c8 c9 : Int) (w : World) : (Instr.index 171 (.agg (confCells c0 c1 c2 c3 c4 c5 c6 c7 c8 c9)) (.int .i64 ((8 : Nat) : Int))).run Tryz.prog w = .ok (.agg #[.int .i64 (valAt c0 c1 c2 c3 c4 c5 c6 c7 c8 c9 8), .int .i64 (loAt 8), .int .i64 (hiAt c1 8)]) w := by kernel_rfl
theorem index_at9 (c0 c1 c2 c3 c4 c5 c6 c7 c8 c9 : Int) (w : World) : (Instr.index 171 (.agg (confCells c0 c1 c2 c3 c4 c5 c6 c7 c8 c9)) (.int .i64 ((9 : Nat) : Int))).run Tryz.prog w = .ok (.agg #[.int .i64 (valAt c0 c1 c2 c3 c4 c5 c6 c7 c8 c9 9), .int .i64 (loAt 9), .int .i64 (hiAt c1 9)]) w := by kernel_rfl
theorem index_at (c0 c1 c2 c3 c4 c5 c6 c7 c8 c9 : Int) (k : Nat) (hk : k < 10) (w : World) :
    (Instr.index 171 (.agg (confCells c0 c1 c2 c3 c4 c5 c6 c7 c8 c9)) (.int .i64 k)).run Tryz.prog w = .ok (.agg #[.int .i64 (valAt c0 c1 c2 c3 c4 c5 c6 c7 c8 c9 k), .int .i64 (loAt k), .int .i64 (hiAt c1 k)]) w := by
  match k, hk with
  | 0, _ => exact index_at0 c0 c1 c2 c3 c4 c5 c6 c7 c8 c9 w
  | 1, _ => exact index_at1 c0 c1 c2 c3 c4 c5 c6 c7 c8 c9 w
  | 2, _ => exact index_at2 c0 c1 c2 c3 c4 c5 c6 c7 c8 c9 w
  | 3, _ => exact index_at3 c0 c1 c2 c3 c4 c5 c6 c7 c8 c9 w
  | 4, _ => exact index_at4 c0 c1 c2 c3 c4 c5 c6 c7 c8 c9 w
  | 5, _ => exact index_at5 c0 c1 c2 c3 c4 c5 c6 c7 c8 c9 w
  | 6, _ => exact index_at6 c0 c1 c2 c3 c4 c5 c6 c7 c8 c9 w
  | 7, _ => exact index_at7 c0 c1 c2 c3 c4 c5 c6 c7 c8 c9 w
  | 8, _ => exact index_at8 c0 c1 c2 c3 c4 c5 c6 c7 c8 c9 w
  | 9, _ => exact index_at9 c0 c1 c2 c3 c4 c5 c6 c7 c8 c9 w

set_option maxRecDepth 20000 in
set_option maxHeartbeats 4000000 in
theorem bConfig_any (c0 c1 c2 c3 c4 c5 c6 c7 c8 c9 : Int) (w : World) :
    Calls Tryz.prog 52 #[.agg #[.int .i64 c0, .int .i64 c1, .int .i64 c2, .int .i64 c3, .int .i64 c4, .int .i64 c5, .int .i64 c6, .int .i64 c7, .int .i64 c8, .int .i64 c9]] w fun e w' => e = .returned (.int .i64 (cfgE c0 c1 c2 c3 c4 c5 c6 c7 c8 c9)) ∧ Below w.heap.size w w' := by
  go_enter Tryz.func52, Tryz.ntmps52
  go_wp2_with (first
    | (refine wpList_buildTo rfl 171 _ rfl _ rfl (confCells c0 c1 c2 c3 c4 c5 c6 c7 c8 c9) (by kernel_rfl) ?_)
    | (refine wpList_store_new rfl 171 _ _ rfl rfl (confCells c0 c1 c2 c3 c4 c5 c6 c7 c8 c9) _ (by simp) rfl rfl 171 _ info_fields rfl (confCells_one _ _ _ _ _ _ _ _ _ _) ?_)
    | (refine wpList_load_row rfl 171 _ rfl _ rfl 171 (confCells c0 c1 c2 c3 c4 c5 c6 c7 c8 c9) (0, 0) _ (heap_two w _ _) Tryz.underlying171 rfl info_fields ?_))
  go_loopw [40] (fun i wr => ∃ k : Nat, k ≤ 10 ∧ i = .int .i64 k ∧ Hid (∀ j, j < k → okAt c0 c1 c2 c3 c4 c5 c6 c7 c8 c9 j = true) ∧ Below w.heap.size w wr) (fun i _ => 10 - (intOf i).toNat)
  case atStart => exact ⟨0, Nat.zero_le _, rfl, fun j hj => by omega, ((below_alloc w _).alloc (by simp) _)⟩
  case round =>
    obtain ⟨k, hk, rfl, hok, hnx⟩ := hrel
    by_cases hlt : k < 10
    · have hsz := hnx.size
      have HA : Hid (∀ o, Below w.heap.size w (wr.alloc o)) := fun o => hnx.alloc hsz o
      have hix := index_at c0 c1 c2 c3 c4 c5 c6 c7 c8 c9 k hlt
      have HE : Hid (okAt c0 c1 c2 c3 c4 c5 c6 c7 c8 c9 k = betw (valAt c0 c1 c2 c3 c4 c5 c6 c7 c8 c9 k) (loAt k) (hiAt c1 k)) := rfl
      generalize valAt c0 c1 c2 c3 c4 c5 c6 c7 c8 c9 k = x at hix HE
      generalize loAt k = lo at hix HE
      generalize hiAt c1 k = hi at hix HE
      cases hbt : betw x lo hi
      · go_wp2_with (go_at_call 101; refine (bbetween_any _ _ _ _).mono ?_; rintro e w' ⟨rfl, rfl⟩)
        go_ret
        exact ⟨ret_int (cfgE_one k hlt (HE.out.trans hbt)).symm, HA.out _⟩
      · go_wp2_with (go_at_call 101; refine (bbetween_any _ _ _ _).mono ?_; rintro e w' ⟨rfl, rfl⟩)
        go_roundw
        case rel => exact ⟨k + 1, by omega, by go_num, upto_succ hok.out (HE.out.trans hbt), HA.out _⟩
        case measure => simp [intOf]; omega
    · obtain rfl : k = 10 := by omega
      go_wp2_with fail
      go_ret
      exact ⟨ret_int (cfgE_all hok.out).symm, hnx⟩
end Go.Proofs.YthmdjhlhodpbhaaGreatDoor
