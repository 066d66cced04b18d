/- Shuffled, 3 -/
import Derived.Deep.WholeRow
import Derived.Laws.BytesArg
import Derived.Laws.AppendOwnNone
import Derived.Test.YthmdjhlhodpbhaaGreatDoorS00
import Derived.Test.YthmdjhlhodpbhaaGreatDoorS01
import Derived.Test.YthmdjhlhodpbhaaGreatDoorS02
set_option maxHeartbeats 16000000
set_option maxRecDepth 8000
namespace Go.Proofs.YthmdjhlhodpbhaaGreatDoor
open Go.RowKit
theorem wpList_store_new {P : Program} {w : World} {ops : Array Oper} {rest : List Oper} {o : Oper} {a : Act} {Q : Exit -> Act -> World -> Prop} (hgd : o.guard = none) (ty : TypeId) (x y : Operand) (ho : o.op = .store ty x y) (hd : o.dst = none)
  (cells : Array Value) (g : Nat) (hgs : g = w.heap.size) (hx : a.eval x = .pointer (some ⟨g, 0, none⟩)) (hy : a.eval y = .agg cells)
  (t : TypeId) (old : Array Value) (hi : (P.info? ty).map (·.size) = some cells.size) (hold : old.size = cells.size) (h1 : cells.all (·.oneCell') = true)
  (h : wpList P ops Q rest a (w.alloc (.cells cells t))) : wpList P ops Q (o :: rest) a (w.alloc (.cells old t)) := by
 subst hgs
 refine wpList_store_row hgd ty x y ho w.heap.size cells hx hy t old (heap_alloc_last w _) hi hold h1 ?_
 rw [hd, World.setRow_alloc_new]
 exact h
theorem heap_two (w : World) (A B : Obj) : ((w.alloc A).alloc B).heap[w.heap.size + 1]? = some B := by
 have := heap_alloc_last (w.alloc A) B
 rwa [World.size_alloc] at this
def confCells (c0 c1 c2 c3 c4 c5 c6 c7 c8 c9 : Int) : Array Value :=
 #[.int .i64 c0, .int .i64 1, .int .i64 8, .int .i64 c1, .int .i64 8, .int .i64 4096, .int .i64 c2, .int .i64 8, .int .i64 c1, .int .i64 c3, .int .i64 1, .int .i64 8, .int .i64 c4, .int .i64 1, .int .i64 8,
  .int .i64 c5, .int .i64 0, .int .i64 8, .int .i64 c6, .int .i64 1, .int .i64 1000, .int .i64 c7, .int .i64 1, .int .i64 1000, .int .i64 c8, .int .i64 0, .int .i64 100000, .int .i64 c9, .int .i64 0, .int .i64 4294967295]
theorem confCells_one (c0 c1 c2 c3 c4 c5 c6 c7 c8 c9 : Int) : (confCells c0 c1 c2 c3 c4 c5 c6 c7 c8 c9).all (·.oneCell') = true := by kernel_rfl
theorem info_fields : (Tryz.prog.info? 171).map (·.size) = some 30 := by kernel_rfl
theorem index_at0 (c0 c1 c2 c3 c4 c5 c6 c7 c8 c9 : Int) (w : World) : (Instr.index 171 (.agg (confCells c0 c1 c2 c3 c4 c5 c6 c7 c8 c9)) (.int .i64 ((0 : Nat) : Int))).run Tryz.prog w = .ok (.agg #[.int .i64 (valAt c0 c1 c2 c3 c4 c5 c6 c7 c8 c9 0), .int .i64 (loAt 0), .int .i64 (hiAt c1 0)]) w := by kernel_rfl
theorem index_at1 (c0 c1 c2 c3 c4 c5 c6 c7 c8 c9 : Int) (w : World) : (Instr.index 171 (.agg (confCells c0 c1 c2 c3 c4 c5 c6 c7 c8 c9)) (.int .i64 ((1 : Nat) : Int))).run Tryz.prog w = .ok (.agg #[.int .i64 (valAt c0 c1 c2 c3 c4 c5 c6 c7 c8 c9 1), .int .i64 (loAt 1), .int .i64 (hiAt c1 1)]) w := by kernel_rfl
theorem index_at2 (c0 c1 c2 c3 c4 c5 c6 c7 c8 c9 : Int) (w : World) : (Instr.index 171 (.agg (confCells c0 c1 c2 c3 c4 c5 c6 c7 c8 c9)) (.int .i64 ((2 : Nat) : Int))).run Tryz.prog w = .ok (.agg #[.int .i64 (valAt c0 c1 c2 c3 c4 c5 c6 c7 c8 c9 2), .int .i64 (loAt 2), .int .i64 (hiAt c1 2)]) w := by kernel_rfl
theorem index_at3 (c0 c1 c2 c3 c4 c5 c6 c7 c8 c9 : Int) (w : World) : (Instr.index 171 (.agg (confCells c0 c1 c2 c3 c4 c5 c6 c7 c8 c9)) (.int .i64 ((3 : Nat) : Int))).run Tryz.prog w = .ok (.agg #[.int .i64 (valAt c0 c1 c2 c3 c4 c5 c6 c7 c8 c9 3), .int .i64 (loAt 3), .int .i64 (hiAt c1 3)]) w := by kernel_rfl
theorem index_at4 (c0 c1 c2 c3 c4 c5 c6 c7 c8 c9 : Int) (w : World) : (Instr.index 171 (.agg (confCells c0 c1 c2 c3 c4 c5 c6 c7 c8 c9)) (.int .i64 ((4 : Nat) : Int))).run Tryz.prog w = .ok (.agg #[.int .i64 (valAt c0 c1 c2 c3 c4 c5 c6 c7 c8 c9 4), .int .i64 (loAt 4), .int .i64 (hiAt c1 4)]) w := by kernel_rfl
theorem index_at5 (c0 c1 c2 c3 c4 c5 c6 c7 c8 c9 : Int) (w : World) : (Instr.index 171 (.agg (confCells c0 c1 c2 c3 c4 c5 c6 c7 c8 c9)) (.int .i64 ((5 : Nat) : Int))).run Tryz.prog w = .ok (.agg #[.int .i64 (valAt c0 c1 c2 c3 c4 c5 c6 c7 c8 c9 5), .int .i64 (loAt 5), .int .i64 (hiAt c1 5)]) w := by kernel_rfl
theorem index_at6 (c0 c1 c2 c3 c4 c5 c6 c7 c8 c9 : Int) (w : World) : (Instr.index 171 (.agg (confCells c0 c1 c2 c3 c4 c5 c6 c7 c8 c9)) (.int .i64 ((6 : Nat) : Int))).run Tryz.prog w = .ok (.agg #[.int .i64 (valAt c0 c1 c2 c3 c4 c5 c6 c7 c8 c9 6), .int .i64 (loAt 6), .int .i64 (hiAt c1 6)]) w := by kernel_rfl
theorem index_at7 (c0 c1 c2 c3 c4 c5 c6 c7 c8 c9 : Int) (w : World) : (Instr.index 171 (.agg (confCells c0 c1 c2 c3 c4 c5 c6 c7 c8 c9)) (.int .i64 ((7 : Nat) : Int))).run Tryz.prog w = .ok (.agg #[.int .i64 (valAt c0 c1 c2 c3 c4 c5 c6 c7 c8 c9 7), .int .i64 (loAt 7), .int .i64 (hiAt c1 7)]) w := by kernel_rfl
theorem index_at8 (c0 c1 c2 c3 c4 c5 c6 c7 c8 c9 : Int) (w : World) : (Instr.index 171 (.agg (confCells c0 c1 c2 c3 c4 c5 c6 c7 c8 c9)) (.int .i64 ((8 : Nat) : Int))).run Tryz.prog w = .ok (.agg #[.int .i64 (valAt c0 c1 c2 c3 c4 c5 c6 c7 c8 c9 8), .int .i64 (loAt 8), .int .i64 (hiAt c1 8)]) w := by kernel_rfl
theorem index_at9 (c0 c1 c2 c3 c4 c5 c6 c7 c8 c9 : Int) (w : World) : (Instr.index 171 (.agg (confCells c0 c1 c2 c3 c4 c5 c6 c7 c8 c9)) (.int .i64 ((9 : Nat) : Int))).run Tryz.prog w = .ok (.agg #[.int .i64 (valAt c0 c1 c2 c3 c4 c5 c6 c7 c8 c9 9), .int .i64 (loAt 9), .int .i64 (hiAt c1 9)]) w := by kernel_rfl
theorem index_at (c0 c1 c2 c3 c4 c5 c6 c7 c8 c9 : Int) (k : Nat) (hk : k < 10) (w : World) :
  (Instr.index 171 (.agg (confCells c0 c1 c2 c3 c4 c5 c6 c7 c8 c9)) (.int .i64 k)).run Tryz.prog w = .ok (.agg #[.int .i64 (valAt c0 c1 c2 c3 c4 c5 c6 c7 c8 c9 k), .int .i64 (loAt k), .int .i64 (hiAt c1 k)]) w := by
 match k, hk with
 | 0, _ => exact index_at0 c0 c1 c2 c3 c4 c5 c6 c7 c8 c9 w
 | 1, _ => exact index_at1 c0 c1 c2 c3 c4 c5 c6 c7 c8 c9 w
 | 2, _ => exact index_at2 c0 c1 c2 c3 c4 c5 c6 c7 c8 c9 w
 | 3, _ => exact index_at3 c0 c1 c2 c3 c4 c5 c6 c7 c8 c9 w
 | 4, _ => exact index_at4 c0 c1 c2 c3 c4 c5 c6 c7 c8 c9 w
 | 5, _ => exact index_at5 c0 c1 c2 c3 c4 c5 c6 c7 c8 c9 w
 | 6, _ => exact index_at6 c0 c1 c2 c3 c4 c5 c6 c7 c8 c9 w
 | 7, _ => exact index_at7 c0 c1 c2 c3 c4 c5 c6 c7 c8 c9 w
 | 8, _ => exact index_at8 c0 c1 c2 c3 c4 c5 c6 c7 c8 c9 w
 | 9, _ => exact index_at9 c0 c1 c2 c3 c4 c5 c6 c7 c8 c9 w
set_option maxRecDepth 20000 in
theorem bConfig_any (c0 c1 c2 c3 c4 c5 c6 c7 c8 c9 : Int) (w : World) :
  Calls Tryz.prog 52 #[.agg #[.int .i64 c0, .int .i64 c1, .int .i64 c2, .int .i64 c3, .int .i64 c4, .int .i64 c5, .int .i64 c6, .int .i64 c7, .int .i64 c8, .int .i64 c9]] w fun e w' => e = .returned (.int .i64 (cfgE c0 c1 c2 c3 c4 c5 c6 c7 c8 c9)) /\ Below w.heap.size w w' := by
 go_enter Tryz.func52, Tryz.ntmps52
 go_wp2_with (first
  | (refine wpList_buildTo rfl 171 _ rfl _ rfl (confCells c0 c1 c2 c3 c4 c5 c6 c7 c8 c9) (by kernel_rfl) ?_)
  | (refine wpList_store_new rfl 171 _ _ rfl rfl (confCells c0 c1 c2 c3 c4 c5 c6 c7 c8 c9) _ (by simp) rfl rfl 171 _ info_fields rfl (confCells_one _ _ _ _ _ _ _ _ _ _) ?_)
  | (refine wpList_load_row rfl 171 _ rfl _ rfl 171 (confCells c0 c1 c2 c3 c4 c5 c6 c7 c8 c9) (0, 0) _ (heap_two w _ _) Tryz.underlying171 rfl info_fields ?_))
 go_loopw [40] (fun i wr => ∃ k : Nat, k <= 10 /\ i = .int .i64 k /\ Hid (∀ j, j < k -> okAt c0 c1 c2 c3 c4 c5 c6 c7 c8 c9 j = true) /\ Below w.heap.size w wr) (fun i _ => 10 - (intOf i).toNat)
 case atStart => exact ⟨0, Nat.zero_le _, rfl, fun j hj => by omega, ((below_alloc w _).alloc (by simp) _)⟩
 case round =>
  obtain ⟨k, hk, rfl, hok, hnx⟩ := hrel
  by_cases hlt : k < 10
  ·have hsz := hnx.size
   have HA : Hid (∀ o, Below w.heap.size w (wr.alloc o)) := fun o => hnx.alloc hsz o
   have hix := index_at c0 c1 c2 c3 c4 c5 c6 c7 c8 c9 k hlt
   have HE : Hid (okAt c0 c1 c2 c3 c4 c5 c6 c7 c8 c9 k = betw (valAt c0 c1 c2 c3 c4 c5 c6 c7 c8 c9 k) (loAt k) (hiAt c1 k)) := rfl
   generalize valAt c0 c1 c2 c3 c4 c5 c6 c7 c8 c9 k = x at hix HE
   generalize loAt k = lo at hix HE
   generalize hiAt c1 k = hi at hix HE
   cases hbt : betw x lo hi
   ·go_wp2_with (go_at_call 101; refine (bbetween_any _ _ _ _).mono ?_; rintro e w' ⟨rfl, rfl⟩)
    go_ret
    exact ⟨ret_int (cfgE_one k hlt (HE.out.trans hbt)).symm, HA.out _⟩
   ·go_wp2_with (go_at_call 101; refine (bbetween_any _ _ _ _).mono ?_; rintro e w' ⟨rfl, rfl⟩)
    go_roundw
    case rel => exact ⟨k + 1, by omega, by go_num, upto_succ hok.out (HE.out.trans hbt), HA.out _⟩
    case measure => simp [intOf]; omega
  ·obtain rfl : k = 10 := by omega
   go_wp2_with fail
   go_ret
   exact ⟨ret_int (cfgE_all hok.out).symm, hnx⟩
def orE (a b c : Int) : Int := if a = 0 then (if b = 0 then c else b) else a
def pick3 (a b c : Int) : Nat -> Int
 | 0 => a
 | 1 => b
 | _ => c
theorem orE_at {a b c : Int} (k : Nat) (hk : k < 3) (h : ∀ j, j < k -> pick3 a b c j = 0) (hn : pick3 a b c k ≠ 0) : pick3 a b c k = orE a b c := by
 match k, hk with
 | 0, _ => simp only [pick3] at hn ⊢; simp [orE, hn]
 | 1, _ =>
  have h0 := h 0 (by decide)
  simp only [pick3] at hn h0 ⊢; simp [orE, hn, h0]
 | 2, _ =>
  have h0 := h 0 (by decide)
  have h1 := h 1 (by decide)
  simp only [pick3] at hn h0 h1 ⊢; simp [orE, h0, h1]
theorem orE_none {a b c : Int} (h : ∀ j, j < 3 -> pick3 a b c j = 0) : (0 : Int) = orE a b c := by
 have h0 := h 0 (by decide)
 have h1 := h 1 (by decide)
 have h2 := h 2 (by decide)
 simp only [pick3] at h0 h1 h2
 simp [orE, h0, h1, h2]
theorem upto_zero {f : Nat -> Int} {k : Nat} (h : ∀ j, j < k -> f j = 0) (hk : f k = 0) : ∀ j, j < k + 1 -> f j = 0 := by
 intro j hj
 rcases Nat.lt_or_ge j k with h1 | h1
 ·exact h j h1
 ·obtain rfl : j = k := by omega
  exact hk
theorem cmpOr_any (x y z : Int) (b : Nat) (w : World) (hx : w.cell? ⟨b, 0, none⟩ = some (.int .i64 x)) (hy : w.cell? ⟨b, 1, none⟩ = some (.int .i64 y)) (hz : w.cell? ⟨b, 2, none⟩ = some (.int .i64 z)) :
  Calls Tryz.prog 65 #[.slice (some ⟨b, 0, none⟩) 3 3] w fun e w' => e = .returned (.int .i64 (orE x y z)) /\ w = w' := by
 have HC : Hid (∀ j, j < 3 -> w.cell? ⟨b, j, none⟩ = some (.int .i64 (pick3 x y z j))) := by
  intro j hj
  match j, hj with
  | 0, _ => exact hx
  | 1, _ => exact hy
  | 2, _ => exact hz
 clear hx hy hz
 go_enter Tryz.func65, Tryz.ntmps65
 go_wp2
 go_loop [8] (fun i => ∃ k : Nat, k <= 3 /\ i = .int .i64 k /\ Hid (∀ j, j < k -> pick3 x y z j = 0)) (fun i => 3 - (intOf i).toNat)
 case atStart => exact ⟨0, Nat.zero_le _, rfl, fun j hj => by omega⟩
 case round =>
  obtain ⟨k, hk, rfl, hok⟩ := hrel
  by_cases hlt : k < 3
  ·have hcell := HC.out k hlt
   by_cases h0 : pick3 x y z k = 0
   ·have HZ := hideIt h0
    rw [h0] at hcell
    clear h0
    go_wp2
    go_round
    case rel => exact ⟨k + 1, by omega, by go_num, upto_zero hok.out HZ.out⟩
    case measure => simp [intOf]; omega
   ·have HR : Hid (pick3 x y z k = orE x y z) := orE_at k hlt hok.out h0
    generalize pick3 x y z k = v at hcell h0 HR
    have hb : (v != 0) = true := by simp [h0]
    go_wp2
    go_ret
    exact ⟨ret_int HR.out, rfl⟩
  ·obtain rfl : k = 3 := by omega
   go_wp2
   go_ret
   exact ⟨ret_int (orE_none hok.out), rfl⟩
def tokE (c0 c1 c2 c3 c4 c5 c6 c7 c8 k a t : Int) : Int := orE (cfgE c0 c1 c2 c3 c4 c5 c6 c7 c8 k) (argE a 255) (argE t 4294967295)
def tokM (c0 c1 c2 c3 c4 c5 c6 c7 c8 k a t : Int) : List Int := if tokE c0 c1 c2 c3 c4 c5 c6 c7 c8 k a t = 0 then tokenL k a t else []
theorem right_key {c0 c1 c2 c3 c4 c5 c6 c7 c8 c9 : Int} (h : rightB c0 c1 c2 c3 c4 c5 c6 c7 c8 c9 = true) : 0 <= c9 /\ c9 < 4294967296 := by
 unfold rightB at h
 simp only [Bool.and_eq_true] at h
 have := betw_true h.2.2.2
 omega
theorem tokE_zero {c0 c1 c2 c3 c4 c5 c6 c7 c8 k a t : Int} (h : tokE c0 c1 c2 c3 c4 c5 c6 c7 c8 k a t = 0) : rightB c0 c1 c2 c3 c4 c5 c6 c7 c8 k = true /\ betw a 0 255 = true /\ betw t 0 4294967295 = true := by
 unfold tokE orE cfgE argE at h
 cases h1 : rightB c0 c1 c2 c3 c4 c5 c6 c7 c8 k <;> cases h2 : betw a 0 255 <;> cases h3 : betw t 0 4294967295 <;> simp [h1, h2, h3] at h ⊢
theorem tokM_yes {c0 c1 c2 c3 c4 c5 c6 c7 c8 k a t : Int} (h : tokE c0 c1 c2 c3 c4 c5 c6 c7 c8 k a t = 0) : tokM c0 c1 c2 c3 c4 c5 c6 c7 c8 k a t = tokenL k a t := by simp [tokM, h]
theorem tokM_no {c0 c1 c2 c3 c4 c5 c6 c7 c8 k a t : Int} (h : ¬ tokE c0 c1 c2 c3 c4 c5 c6 c7 c8 k a t = 0) : tokM c0 c1 c2 c3 c4 c5 c6 c7 c8 k a t = [] := by simp [tokM, h]
theorem box_facts {w w1 : World} {c0 c1 c2 c3 c4 c5 c6 c7 c8 k : Int} (hb1 : Below (w.alloc (.cells #[.int .i64 c0, .int .i64 c1, .int .i64 c2, .int .i64 c3, .int .i64 c4, .int .i64 c5, .int .i64 c6, .int .i64 c7, .int .i64 c8, .int .i64 k] 26)).heap.size (w.alloc (.cells #[.int .i64 c0, .int .i64 c1, .int .i64 c2, .int .i64 c3, .int .i64 c4, .int .i64 c5, .int .i64 c6, .int .i64 c7, .int .i64 c8, .int .i64 k] 26)) w1) :
  (∀ o, (w1.alloc o).cell? ⟨w.heap.size, 9, none⟩ = some (.int .i64 k)) /\ (∀ j, j < 10 -> w1.cell? ⟨w.heap.size, j, none⟩ = (w.alloc (.cells #[.int .i64 c0, .int .i64 c1, .int .i64 c2, .int .i64 c3, .int .i64 c4, .int .i64 c5, .int .i64 c6, .int .i64 c7, .int .i64 c8, .int .i64 k] 26)).cell? ⟨w.heap.size, j, none⟩) /\ Below w.heap.size w w1 /\ w.heap.size < w1.heap.size := by
 have hs := hb1.size
 simp only [World.size_alloc] at hs
 refine ⟨fun o => ?_, fun j hj => ?_, below_join (below_alloc w _) hb1, by omega⟩
 ·rw [World.cell?_alloc_lt _ _ _ (by show w.heap.size < w1.heap.size; omega), hb1.cell (by simp)]
  simp
 ·rw [hb1.cell (by simp)]
theorem cmpOr_lit (x y z : Int) (w : World) : Calls Tryz.prog 65 #[.slice (some ⟨w.heap.size, 0, none⟩) 3 3] (w.alloc (.cells #[.int .i64 x, .int .i64 y, .int .i64 z] 35)) fun e w' => e = .returned (.int .i64 (orE x y z)) /\ w.alloc (.cells #[.int .i64 x, .int .i64 y, .int .i64 z] 35) = w' :=
 cmpOr_any x y z w.heap.size _ (by simp) (by simp) (by simp)
theorem Token_any (c0 c1 c2 c3 c4 c5 c6 c7 c8 k a t : Int) (w : World) :
  Calls Tryz.prog 37 #[.agg #[.int .i64 c0, .int .i64 c1, .int .i64 c2, .int .i64 c3, .int .i64 c4, .int .i64 c5, .int .i64 c6, .int .i64 c7, .int .i64 c8, .int .i64 k], .int .i64 a, .int .i64 t] w
   fun e w' => ∃ v, e = .returned (.tuple #[v, .int .i64 (tokE c0 c1 c2 c3 c4 c5 c6 c7 c8 k a t)]) /\ w'.ownsRow w.heap.size 5 1 v (tokM c0 c1 c2 c3 c4 c5 c6 c7 c8 k a t).length (U8 (tokM c0 c1 c2 c3 c4 c5 c6 c7 c8 k a t)) /\ Below w.heap.size w w' := by
 by_cases hz : tokE c0 c1 c2 c3 c4 c5 c6 c7 c8 k a t = 0
 ·obtain ⟨hr, ha, ht⟩ := tokE_zero hz
  obtain ⟨k0, k1⟩ := right_key hr
  obtain ⟨a0, a1⟩ := betw_true ha
  obtain ⟨t0, t1⟩ := betw_true ht
  rw [tokM_yes hz]
  have HZ := hideIt hz
  have hor : orE (cfgE c0 c1 c2 c3 c4 c5 c6 c7 c8 k) (argE a 255) (argE t 4294967295) = 0 := hz
  clear hz hr ha ht
  go_enter Tryz.func37, Tryz.ntmps37
  go_wp2_with fail
  refine (bConfig_any c0 c1 c2 c3 c4 c5 c6 c7 c8 k _).mono ?_
  rintro e w1 ⟨rfl, hb1⟩
  obtain ⟨hkey, _, hbw, hsz⟩ := box_facts hb1
  clear hb1
  go_wp2_with (first | (go_at_call 47; refine (bAddress_any _ _).mono ?_; rintro e w' ⟨rfl, rfl⟩) | (go_at_call 66; refine (bTime_any _ _).mono ?_; rintro e w' ⟨rfl, rfl⟩) | (go_at_call 65; refine (cmpOr_lit _ _ _ _).mono ?_; rintro e w' ⟨rfl, rfl⟩))
  refine (wToken_any k a t _ k0 k1 a0 (by omega) t0 (by omega)).mono ?_
  rintro e w2 ⟨v, rfl, hown, hb2⟩
  have hb3 : Below w.heap.size w w2 := below_join (hbw.alloc hbw.size _) hb2
  have hown3 := own_mono hown (hbw.alloc hbw.size (.cells #[.int .i64 (cfgE c0 c1 c2 c3 c4 c5 c6 c7 c8 k), .int .i64 (argE a 255), .int .i64 (argE t 4294967295)] 35)).size
  clear hown hb2 hkey
  go_wp2_with fail
  go_ret2
  exact ⟨v, by rw [HZ.out]; rfl, hown3, hb3⟩
 ·rw [tokM_no hz]
  have hor : orE (cfgE c0 c1 c2 c3 c4 c5 c6 c7 c8 k) (argE a 255) (argE t 4294967295) = tokE c0 c1 c2 c3 c4 c5 c6 c7 c8 k a t := rfl
  generalize tokE c0 c1 c2 c3 c4 c5 c6 c7 c8 k a t = E at hor hz ⊢
  have hbe : (E != 0) = true := by simp [hz]
  go_enter Tryz.func37, Tryz.ntmps37
  go_wp2_with fail
  refine (bConfig_any c0 c1 c2 c3 c4 c5 c6 c7 c8 k _).mono ?_
  rintro e w1 ⟨rfl, hb1⟩
  obtain ⟨hkey, _, hbw, hsz⟩ := box_facts hb1
  clear hb1
  go_wp2_with (first | (go_at_call 47; refine (bAddress_any _ _).mono ?_; rintro e w' ⟨rfl, rfl⟩) | (go_at_call 66; refine (bTime_any _ _).mono ?_; rintro e w' ⟨rfl, rfl⟩) | (go_at_call 65; refine (cmpOr_lit _ _ _ _).mono ?_; rintro e w' ⟨rfl, rfl⟩))
  go_ret2
  exact ⟨_, rfl, World.ownsRow_nil _ _ _ _, hbw.alloc hbw.size _⟩
theorem conv_own {w : World} {base : Nat} {v : Value} {l : List Int} (h : w.ownsRow base 5 1 v l.length (U8 l)) : (convert 44 9 v).run Tryz.prog w = .ok (.string (strOfNums l)) w := by
 rcases Nat.eq_zero_or_pos l.length with h0 | h0
 ·obtain rfl : l = [] := List.eq_nil_of_length_eq_zero h0
  rcases h.2 with ⟨rfl, _⟩ | ⟨g, cap, cur, rfl, _⟩
  ·exact run_convert_bytes_nil (P := Tryz.prog) w 44 5 Tryz.underlying44 Tryz.underlying5 0 0 9 Tryz.underlying9
  ·exact run_convert_bytes_arg (P := Tryz.prog) w 44 5 Tryz.underlying44 Tryz.underlying5 g 0 0 cap [] rfl (fun i hi => absurd hi (by simp)) 9 Tryz.underlying9
 ·obtain ⟨g, cap, rfl, _, _, _⟩ := own_some h h0
  exact run_convert_bytes_arg (P := Tryz.prog) w 44 5 Tryz.underlying44 Tryz.underlying5 g 0 l.length cap l rfl (own_read h) 9 Tryz.underlying9
theorem info_int : (Tryz.prog.info? 3).map (fun i => (i.zero, i.size, i.bytes)) = some (some (.int .i64 0), 1, 8) := by kernel_rfl
theorem take_snoc' {α : Type} {l : List α} {k : Nat} {c : α} (h : l[k]? = some c) : l.take (k + 1) = l.take k ++ [c] := by
 rw [List.take_add_one, h]; rfl
theorem wpList_append_ro {P : Program} {w : World} {ops : Array Oper} {rest : List Oper} {o : Oper} {a : Act} {Q : Exit -> Act -> World -> Prop} (hgd : o.guard = none) (s x : Operand) (t : TypeId)
  (ho : o.op = .call { callee := .builtin .append, args := #[s, x], argTypes := #[t, t] })
  (base : Nat) (e : TypeId) (i : TypeInfo) (z : Value) (size bytes : Nat) (ht : P.underlying t = some (.slice e)) (hi : P.info? e = some i) (hz : i.zero = some z)
  (hsize : i.size = size) (hby : i.bytes = bytes) (hzs : z.cells.size = size) (hsz : 0 < size)
  (v : Value) (n : Nat) (xs : List Value) (hs : a.eval s = v) (hown : w.ownsRow base e size v n xs)
  (sv : Value) (m : Nat) (news : List Value) (hx : a.eval x = sv) (hsrc : Ro w e sv m news) (hl : news.length = m * size) (h1 : ∀ u ∈ news, u.oneCell' = true)
  (h63 : n + m <= maxLen) (hbytes : (n + m) * bytes <= 140737488355328) (hbase : base <= w.heap.size)
  (h : ∀ v' w', w'.ownsRow base e size v' (n + m) (xs ++ news) -> w.grownBy w' v.ownBlock -> wpList P ops Q rest (a.put o.dst v') w') : wpList P ops Q (o :: rest) a w := by
 obtain ⟨ao, cap, rfl, hp, hz0⟩ := hsrc
 match ao, hz0, hx, hp with
 | none, hz0, hx, hp =>
  obtain rfl : m = 0 := by
   rcases Nat.eq_zero_or_pos m with h0 | h0
   ·exact h0
   ·obtain ⟨_, _, _, _, h2, _⟩ := hp h0
    simp at h2
  obtain rfl := hz0 rfl
  obtain rfl : news = [] := List.length_eq_zero_iff.1 (by simpa using hl)
  refine wpList_append_own_none hgd s x t ho base e i size ht hi v n xs hs hown hx (h v w (by simpa using hown) (below_grown (Below.refl _ _) _))
 | some ad, hz0, hx, hp =>
  refine wpList_append_own w hgd s x t ho base e i z size bytes ht hi hz hsize hby hzs hsz v n xs hs hown ad m cap news hx hl (fun j u hu => ?_) h1 h63 hbytes hbase (fun v' w' h1 h2 _ => h v' w' h1 h2)
  have hj := (List.getElem?_eq_some_iff.1 hu).1
  have hm : 0 < m := by
   rcases Nat.eq_zero_or_pos m with h0 | h0
   ·subst h0; simp at hl; subst hl; simp at hj
   ·exact h0
  obtain ⟨b, off, cur, fr, h2, hb, hcs⟩ := hp hm
  obtain rfl := Option.some.inj h2
  have := hcs j hj
  rw [hu] at this
  have hadd : (⟨b, off, none⟩ : Addr).add j = ⟨b, off + j, none⟩ := by
   unfold Addr.add
   split
   ·next h0 => subst h0; rfl
   ·rfl
  rw [hadd]
  simp [World.cell?, hb, this]
def sliceLen : Value -> Nat
 | .slice _ n _ => n
 | _ => 0
def pickN (c n : Int) : Int := (if c < 0 then -(c + 1) else c) % n
theorem pickN_range (c : Int) {n : Int} (h : 0 < n) : 0 <= pickN c n /\ pickN c n < n := ⟨Int.emod_nonneg _ (by omega), Int.emod_lt_of_pos _ h⟩
theorem kpick_any (c n : Int) (w : World) (hc : -9223372036854775808 <= c /\ c <= 9223372036854775807) (hn : 0 < n /\ n <= 1000000000000) :
  Calls Tryz.prog 19 #[.int .i64 c, .int .i64 n] w fun e w' => e = .returned (.int .i64 (pickN c n)) /\ w = w' := by
 unfold pickN
 rcases Int.lt_or_le c 0 with h1 | h1
 ·rw [if_pos h1]
  go_enter Tryz.func19, Tryz.ntmps19
  go_wp2_with fail
  go_ret
  have e : -((c + 1).tmod n) = (-(c + 1)) % n := by rw [<- Int.neg_tmod, Int.tmod_eq_emod_of_nonneg (by omega)]
  refine ⟨?_, rfl⟩
  show Ending.returned (.int .i64 (-((c + 1).tmod n))) = _
  rw [e]
 ·rw [if_neg (by omega)]
  go_enter Tryz.func19, Tryz.ntmps19
  go_wp2_with fail
  go_ret
  exact ⟨rfl, rfl⟩
def letterN (s p : Int) : Int := 33 + (p * 7 + s * 31 + p / 50) % 200
theorem kletter_any (s p : Int) (w : World) (hs : 0 <= s /\ s <= 2000000000) (hp : 0 <= p /\ p <= 2000000000) :
  Calls Tryz.prog 18 #[.int .i64 s, .int .i64 p] w fun e w' => e = .returned (.int .u8 (letterN s p)) /\ w = w' := by
 have hq : Int.tdiv p 50 = p / 50 := Int.tdiv_eq_ediv_of_nonneg hp.1
 go_enter Tryz.func18, Tryz.ntmps18
 go_wp2_with fail
 go_ret
 exact ⟨rfl, rfl⟩
theorem knumber_any (n : Int) (w : World) (hn : 0 <= n /\ n <= 1073741823) :
  Calls Tryz.prog 31 #[.int .i64 n] w fun e w' => ∃ v, e = .returned v /\ w'.ownsRow w.heap.size 5 1 v (putL n).length (U8 (putL n)) /\ Below w.heap.size w w' := by
 have HP := hideIt (PutNumber_any n w)
 have hb : betw n 0 1073741823 = true := by simp [betw, hn]
 rw [argE_yes hb, putM_yes hb] at HP
 go_enter Tryz.func31, Tryz.ntmps31
 go_wp2_with fail
 refine HP.out.mono ?_
 rintro e w1 ⟨v, rfl, ho, hbl⟩
 obtain ⟨va, vc, rfl⟩ := own_form ho
 have HO := hideIt (And.intro ho hbl)
 clear ho hbl HP
 go_wp2_with fail
 go_ret
 exact ⟨_, rfl, HO.out.1, HO.out.2⟩
def joinL (l : List (Value × List Int)) : List Int := (l.map (·.2)).flatten
theorem joinL_snoc (l : List (Value × List Int)) (x : Value × List Int) : joinL (l ++ [x]) = joinL l ++ x.2 := by simp [joinL]
theorem joinL_take_le (l : List (Value × List Int)) (k : Nat) : (joinL (l.take k)).length <= (joinL l).length := by
 have : joinL l = joinL (l.take k) ++ joinL (l.drop k) := by
  simp only [joinL]
  rw [<- List.flatten_append, <- List.map_append, List.take_append_drop]
 rw [this, List.length_append]
 omega
theorem kjoined_any (l : List (Value × List Int)) (b cap : Nat) (w : World) (hcell : ∀ j p, l[j]? = some p -> w.cell? ⟨b, j, none⟩ = some p.1) (hR : ∀ p ∈ l, RdB w p.1 p.2) (hl : l.length <= 1000) (hL : (joinL l).length <= 1000000000) :
  Calls Tryz.prog 32 #[.slice (some ⟨b, 0, none⟩) l.length cap] w fun e w' => ∃ v, e = .returned v /\ w'.ownsRow w.heap.size 5 1 v (joinL l).length (U8 (joinL l)) /\ Below w.heap.size w w' := by
 obtain ⟨i0, hi, hz0, hz1, hz2⟩ := info_parts info_u8
 have HC := hideIt hcell
 have HR := hideIt hR
 clear hcell hR
 go_enter Tryz.func32, Tryz.ntmps32
 go_wp2_with fail
 go_loopw [3, 4] (fun o i wr => ∃ (k : Nat) (ao : Option Addr) (n cp : Nat), k <= l.length /\ i = .int .i64 k /\ o = .slice ao n cp /\ Hid (n = (joinL (l.take k)).length /\ wr.ownsRow w.heap.size 5 1 (.slice ao n cp) n (U8 (joinL (l.take k)))) /\ Below w.heap.size w wr) (fun _ i _ => l.length - (intOf i).toNat)
 case atStart => exact ⟨0, none, 0, 0, Nat.zero_le _, rfl, rfl, ⟨rfl, World.ownsRow_nil _ _ _ _⟩, Below.refl _ _⟩
 case round =>
  obtain ⟨k, ao, n, cp, hk, rfl, rfl, hO, hbw⟩ := hrel
  have HB := hideIt hbw
  have hsz := hbw.size
  by_cases hlt : k < l.length
  ·obtain ⟨p, hp⟩ : ∃ p, l[k]? = some p := ⟨_, List.getElem?_eq_getElem hlt⟩
   have hc := cell_below (HC.out k p hp) hbw
   have hrd := (HR.out p (List.mem_of_getElem? hp)).below hbw
   obtain ⟨_, _, pa, pc, hpe, _⟩ := id hrd
   have HRd := hideIt hrd.ro
   have hsn : joinL (l.take (k + 1)) = joinL (l.take k) ++ p.2 := by rw [take_snoc' hp, joinL_snoc]
   have hle := joinL_take_le l (k + 1)
   rw [hsn, List.length_append] at hle
   have hn := hO.out.1
   have HSn := hideIt hsn
   rw [hpe] at hc HRd
   obtain ⟨m, hm⟩ : ∃ m, p.2.length = m := ⟨_, rfl⟩
   rw [hm] at hc HRd hle
   have HM := hideIt hm
   have hlt' : ((k : Int) < (l.length : Int)) := by omega
   clear hbw hrd hpe hsn hm
   rw [<- hn] at hle
   clear hn
   generalize hNl : l.length = Nl at *
   go_wp2_with (first
    | (at_builtin; refine wpList_append_ro rfl _ _ 44 rfl w.heap.size 5 i0 (.int .u8 0) 1 1 Tryz.underlying44 hi hz0 hz1 hz2 rfl (by decide) (.slice ao n cp) n (U8 (joinL (l.take k))) rfl hO.out.2 (.slice pa m pc) m (U8 p.2) rfl HRd.out (by simp [U8, HM.out]) (u8_one _) (by unfold maxLen; omega) (by omega) hsz ?_; intro v1 w1 hown1 hgrow1))
   have hform := own_form hown1
   obtain ⟨a1, c1, rfl⟩ := hform
   have HO1 := hideIt (And.intro hown1 hgrow1)
   clear hown1 hgrow1
   go_wp2_with fail
   go_roundw
   case rel =>
    refine ⟨k + 1, a1, n + m, c1, by omega, by go_num, rfl, ⟨?_, ?_⟩, ?_⟩
    ·rw [HSn.out, List.length_append, <- hO.out.1, HM.out]
    ·rw [HSn.out, U8_append]
     exact HO1.out.1
    ·exact HB.out.grown HO1.out.2 hsz (fun q hq => (hO.out.2.lt q hq).1)
   case measure => simp [intOf]; omega
  ·obtain rfl : k = l.length := by omega
   go_wp2_with fail
   go_ret
   refine ⟨_, rfl, ?_, HB.out⟩
   have h1 := hO.out
   rw [List.take_length] at h1
   rw [<- h1.1]
   exact h1.2
structure RdAt (w : World) (rb : Nat) (rv ev : Value) (r : Rd) : Prop where
 blk : w.heap[rb]? = some (.cells #[rv, ev] 151 (0, 0))
 rd : RdB w rv r.rest
 ok : r.bad = false -> ev = .nilIface
 no : r.bad = true -> ∃ k, (k = 1 \/ k = 2) /\ NErr w k ev
def RdOut (w : World) (rb : Nat) (r : Rd) (w' : World) : Prop := ∃ rv ev, RdAt w' rb rv ev r /\ Chg (· = rb) w w'
theorem RdAt.c0 {w : World} {rb : Nat} {rv ev : Value} {r : Rd} (h : RdAt w rb rv ev r) : w.cell? ⟨rb, 0, none⟩ = some rv := by simp only [World.cell?, h.blk]; rfl
theorem RdAt.c1 {w : World} {rb : Nat} {rv ev : Value} {r : Rd} (h : RdAt w rb rv ev r) : w.cell? ⟨rb, 1, none⟩ = some ev := by simp only [World.cell?, h.blk]; rfl
theorem RdAt.free {w : World} {rb : Nat} {rv ev : Value} {r : Rd} (h : RdAt w rb rv ev r) (i : Nat) : w.frozen? ⟨rb, i, none⟩ = false := frozen_of_row w rb i _ _ h.blk
theorem RdAt.below {w w' : World} {rb : Nat} {rv ev : Value} {r : Rd} (h : RdAt w rb rv ev r) (hb : Below w.heap.size w w') : RdAt w' rb rv ev r :=
 ⟨by rw [hb.block rb (Array.getElem?_eq_some_iff.1 h.blk).1]; exact h.blk, h.rd.below hb, h.ok, fun hb' => by obtain ⟨k, hk, hn⟩ := h.no hb'; exact ⟨k, hk, hn.below hb⟩⟩
theorem RdAt.keepR {w : World} {rb : Nat} {rv ev : Value} {r : Rd} (h : RdAt w rb rv ev r) (i : Nat) (v : Value) {u : Value} {l : List Int} (hu : RdB w u l) : RdB (w.setCell ⟨rb, i, none⟩ v) u l := by
 refine hu.chg (chg_set (Below.refl _ w) i v) fun k cur fr hk e => ?_
 subst e
 rw [h.blk] at hk
 simp only [Option.some.injEq, Obj.cells.injEq] at hk
 exact absurd hk.2.1 (by decide)
theorem RdAt.keepE {w : World} {rb : Nat} {rv ev : Value} {r : Rd} (h : RdAt w rb rv ev r) (i : Nat) (v : Value) {k : Nat} {u : Value} (hu : NErr w k u) : NErr (w.setCell ⟨rb, i, none⟩ v) k u := by
 refine hu.chg (chg_set (Below.refl _ w) i v) fun k cur fr hk e => ?_
 subst e
 rw [h.blk] at hk
 simp only [Option.some.injEq, Obj.cells.injEq] at hk
 exact absurd hk.2.1 (by decide)
theorem RdAt.setRest {w : World} {rb : Nat} {rv ev : Value} {r : Rd} (h : RdAt w rb rv ev r) {tv : Value} {l : List Int} (ht : RdB w tv l) : RdAt (w.setCell ⟨rb, 0, none⟩ tv) rb tv ev ⟨l, r.bad⟩ :=
 ⟨block_set h.blk 0 tv, h.keepR 0 tv ht, h.ok, fun hb => by obtain ⟨k, hk, hn⟩ := h.no hb; exact ⟨k, hk, h.keepE 0 tv hn⟩⟩
theorem RdAt.setErr {w : World} {rb : Nat} {rv ev : Value} {r : Rd} (h : RdAt w rb rv ev r) {tv : Value} {k : Nat} (hk : k = 1 \/ k = 2) (ht : NErr w k tv) : RdAt (w.setCell ⟨rb, 1, none⟩ tv) rb rv tv ⟨r.rest, true⟩ :=
 ⟨block_set h.blk 1 tv, h.keepR 1 tv h.rd, fun hb => (by cases hb), fun _ => ⟨k, hk, h.keepE 1 tv ht⟩⟩
theorem RdAt.errForm {w : World} {rb : Nat} {rv ev : Value} {r : Rd} (h : RdAt w rb rv ev r) (hb : r.bad = true) : ∃ a : Nat, ev = .iface 155 (.pointer (some ⟨a, 0, none⟩)) := by
 obtain ⟨k, hk, hn⟩ := h.no hb
 rcases hk with rfl | rfl
 ·obtain ⟨a, _, _, rfl, _⟩ := hn; exact ⟨a, rfl⟩
 ·obtain ⟨a, _, _, rfl, _⟩ := hn; exact ⟨a, rfl⟩
theorem NErr.form01 {w : World} {k : Nat} {v : Value} (h : NErr w k v) : ∃ t a, v = .iface t (.pointer (some ⟨a, 0, none⟩)) := by
 cases k with
 | zero => obtain ⟨e, rfl⟩ := h; exact ⟨_, e, rfl⟩
 | succ k => obtain ⟨a, s, c, rfl, _⟩ := h; exact ⟨_, a, rfl⟩
theorem wfail_any (rb : Nat) (rv ev : Value) (r : Rd) (s : ByteArray) (cause : Value) (k : Nat) (w : World) (h : RdAt w rb rv ev r) (hc : NErr w k cause) (hk : k = 0 \/ k = 1) :
  Calls Tryz.prog 135 #[.pointer (some ⟨rb, 0, none⟩), .string s, cause] w fun e w' => e = .returned (.tuple #[]) /\ ∃ ev', RdAt w' rb rv ev' ⟨r.rest, true⟩ /\ Chg (· = rb) w w' := by
 have c1 := h.c1
 obtain ⟨t, a, rfl⟩ := hc.form01
 have HH := hideIt h
 have HC := hideIt hc
 clear h hc
 cases hb : r.bad with
 | true =>
  obtain ⟨a1, rfl⟩ := HH.out.errForm hb
  have HB := hideIt hb
  clear hb
  go_enter Tryz.func135, Tryz.ntmps135
  go_wp2_with fail
  go_end0
  have h := HH.out
  exact ⟨rfl, _, RdAt.mk (r := ⟨r.rest, true⟩) h.blk h.rd (fun h => (by cases h)) (fun _ => h.no HB.out), Chg.refl _ _⟩
 | false =>
  have hev := HH.out.ok hb
  subst hev
  have z1 := (HH.out.below (below_alloc w (.cells #[.string s, .iface t (.pointer (some ⟨a, 0, none⟩))] 157))).free 1
  have d1 := cell_below c1 (below_alloc w (.cells #[.string s, .iface t (.pointer (some ⟨a, 0, none⟩))] 157))
  clear hb
  go_enter Tryz.func135, Tryz.ntmps135
  go_wp2_with fail
  go_end0
  have hba := below_alloc w (.cells #[.string s, .iface t (.pointer (some ⟨a, 0, none⟩))] 157)
  refine ⟨rfl, _, (HH.out.below hba).setErr (k := k + 1) (by omega) ⟨w.heap.size, _, _, rfl, heap_alloc_new w _, HC.out.below hba⟩, chg_set hba 1 _⟩
theorem ReadNumber_no (l : List Int) (v : Value) (w : World) (he : Env w) (h : RdB w v l) (hz : gsz l = 0) :
  Calls Tryz.prog 102 #[v] w fun e w' => ∃ c, e = .returned (.tuple #[.int .i64 0, .int .i64 0, c]) /\ NErr w' 1 c /\ Below w.heap.size w w' := by
 have HN : Hid (Calls Tryz.prog 154 #[v] w fun e w' => ∃ g, e = .returned (.tuple #[.int .i64 0, .iface 158 (.pointer (some ⟨g, 0, none⟩))]) /\ Below w.heap.size w w') := by
  obtain ⟨hl, hm, h | h⟩ := h.reads
  ·obtain ⟨rfl, ao, cap, rfl⟩ := h
   exact numberSize_nil ao cap w
  ·obtain ⟨hp, b, off, cap, rfl, hcap, hc⟩ := h
   have h0 := hc 0 hp
   rw [Nat.add_zero] at h0
   exact numberSize_none l hl hp b off cap w he hm h0 hz
 obtain ⟨_, _, ao, cap, rfl, _⟩ := h
 clear he hz
 go_enter Tryz.func102, Tryz.ntmps102
 go_wp2_with fail
 refine HN.out.mono ?_
 rintro e w1 ⟨g, rfl, hb⟩
 have HB := hideIt hb
 clear hb HN
 go_wp2_with fail
 go_ret3
 exact ⟨_, rfl, ⟨w1.heap.size, _, _, rfl, heap_alloc_new w1 _, g, rfl⟩, below_join HB.out (below_alloc _ _)⟩
theorem ReadNumber_ok (l : List Int) (v : Value) (w : World) (h : RdB w v l) (hz : ¬ gsz l = 0) :
  Calls Tryz.prog 102 #[v] w fun e w' => e = .returned (.tuple #[.int .i64 (gval l), .int .i64 (gsz l), .nilIface]) /\ w = w' := by
 obtain ⟨hl, hm, h | h⟩ := h.reads
 ·obtain ⟨rfl, ao, cap, rfl⟩ := h
  exact absurd rfl hz
 ·obtain ⟨hp, b, off, cap, rfl, hcap, hc⟩ := h
  exact Read_some l hl hp b off cap w hcap hm hc hz
theorem wnumber_any (rb : Nat) (rv ev : Value) (r : Rd) (s : ByteArray) (w : World) (he : Env w) (h : RdAt w rb rv ev r) :
  Calls Tryz.prog 84 #[.pointer (some ⟨rb, 0, none⟩), .string s] w fun e w' => e = .returned (.int .i64 r.num.1) /\ RdOut w rb r.num.2 w' := by
 have c0 := h.c0
 obtain ⟨_, _, ao, cap, rfl, _⟩ := id h.rd
 have HH := hideIt h
 by_cases hz : gsz r.rest = 0
 ·have hv : r.num.1 = 0 := (g_none hz).1
  have HN2 : Hid (r.num.2 = ⟨r.rest.drop 0, true⟩) := by
   show _ = _
   unfold Rd.num
   simp [hz]
  rw [hv]
  have HR := hideIt (ReadNumber_no r.rest _ w he h.rd hz)
  obtain ⟨tv, htv, ⟨ta, tc, rfl⟩, hrun⟩ := h.rd.drop (k := 0) (Nat.zero_le _)
  have HT := hideIt htv
  clear h he hz htv hv
  simp only [Int.natCast_zero, Nat.sub_zero] at hrun HT
  obtain ⟨rl, hrl⟩ : ∃ rl, r.rest.length = rl := ⟨_, rfl⟩
  rw [hrl] at HR hrun c0 HT
  replace HH : Hid (RdAt w rb (.slice ao rl cap) ev r) := by rw [hrl] at HH; exact HH
  clear hrl
  go_enter Tryz.func84, Tryz.ntmps84
  go_wp2_with fail
  refine HR.out.mono ?_
  rintro e w1 ⟨c, rfl, hn, hb⟩
  have H1 := hideIt (HH.out.below hb)
  have HF := hideIt (wfail_any rb _ ev r s c 1 w1 H1.out hn (Or.inr rfl))
  obtain ⟨t1, a1, rfl⟩ := hn.form01
  have HB := hideIt hb
  have HT1 := hideIt (HT.out.below hb)
  clear hb hn HR c0
  go_wp2_with fail
  refine HF.out.mono ?_
  rintro e w2 ⟨rfl, ev', h2, hc2⟩
  have c2 := h2.c0
  have z2 := h2.free 0
  have H2 := hideIt h2
  have HC2 := hideIt hc2
  clear h2 hc2 HF
  go_wp2_with fail
  go_ret
  refine ⟨rfl, ?_⟩
  rw [HN2.out]
  refine ⟨_, _, H2.out.setRest (l := r.rest.drop 0) (HT1.out.chg HC2.out fun k cur fr hk e => ?_), ?_⟩
  ·subst e
   have := H1.out.blk
   rw [this] at hk
   simp only [Option.some.injEq, Obj.cells.injEq] at hk
   exact absurd hk.2.1 (by decide)
  ·exact ((Chg.of_below HB.out).trans HC2.out).trans (chg_set (Below.refl _ _) 0 _)
 ·have hg := gsz_range r.rest
  obtain ⟨S, hS⟩ : ∃ S : Nat, gsz r.rest = S := ⟨(gsz r.rest).toNat, by omega⟩
  have hv : r.num.1 = gval r.rest := rfl
  have HN2 : Hid (r.num.2 = ⟨r.rest.drop S, r.bad⟩) := by
   show _ = _
   unfold Rd.num
   simp [hz]
   rw [hS]
   simp
  rw [hv]
  have HR := hideIt (ReadNumber_ok r.rest _ w h.rd hz)
  rw [hS] at HR hg
  have hSl : S <= r.rest.length := by omega
  obtain ⟨tv, htv, ⟨ta, tc, rfl⟩, hrun⟩ := h.rd.drop hSl
  have HT := hideIt htv
  have z0 := h.free 0
  clear h he hz htv hv hg hS hSl
  generalize gval r.rest = gv at HR ⊢
  obtain ⟨rl, hrl⟩ : ∃ rl, r.rest.length = rl := ⟨_, rfl⟩
  obtain ⟨tl, htl⟩ : ∃ tl, r.rest.length - S = tl := ⟨_, rfl⟩
  rw [htl] at hrun HT
  rw [hrl] at HR hrun c0
  replace HH : Hid (RdAt w rb (.slice ao rl cap) ev r) := by rw [hrl] at HH; exact HH
  clear hrl htl
  go_enter Tryz.func84, Tryz.ntmps84
  go_wp2_with fail
  refine HR.out.mono ?_
  rintro e w1 ⟨rfl, rfl⟩
  clear HR
  go_wp2_with fail
  go_ret
  refine ⟨rfl, ?_⟩
  rw [HN2.out]
  exact ⟨_, _, HH.out.setRest HT.out, chg_set (Below.refl _ _) 0 _⟩
theorem byt_no {r : Rd} {c : Int} (h : r.bad = true \/ (r.rest.length : Int) < c) : r.byt c = ([], ⟨r.rest, true⟩) := if_pos h
theorem byt_yes {r : Rd} {c : Int} (h : r.bad = false) (h2 : c <= (r.rest.length : Int)) : r.byt c = (r.rest.take c.toNat, ⟨r.rest.drop c.toNat, false⟩) := if_neg (by rw [h]; simp; omega)
structure BytOut (w : World) (rb : Nat) (x : List Int × Rd) (e : Ending) (w' : World) : Prop where
 ret : ∃ bv, e = .returned bv /\ RdB w' bv x.1
 out : RdOut w rb x.2 w'
theorem wbytes_any (rb : Nat) (rv ev : Value) (r : Rd) (s : ByteArray) (c : Int) (w : World) (he : Env w) (h : RdAt w rb rv ev r) (hc0 : 0 <= c) (hc1 : c <= 1073741823) :
  Calls Tryz.prog 85 #[.pointer (some ⟨rb, 0, none⟩), .string s, .int .i64 c] w fun e w' => BytOut w rb (r.byt c) e w' := by
 have c0 := h.c0
 have d1 := h.c1
 have hlm := h.rd.2.1
 obtain ⟨_, _, ao, cap, rfl, hlc, _⟩ := id h.rd
 have HH := hideIt h
 obtain ⟨rl, hrl⟩ : ∃ rl, r.rest.length = rl := ⟨_, rfl⟩
 by_cases hlt : (r.rest.length : Int) < c
 ·have HN2 := hideIt (byt_no (r := r) (c := c) (Or.inr hlt))
  have HTF := hideIt (tooFew_any (r.rest.length : Int) c (by omega) (by omega) hc0 (by omega) w he)
  rw [hrl] at c0 hlt HTF
  replace HH : Hid (RdAt w rb (.slice ao rl cap) ev r) := by rw [hrl] at HH; exact HH
  clear h he hlm hrl hlc
  go_enter Tryz.func85, Tryz.ntmps85
  go_wp2_with fail
  refine HTF.out.mono ?_
  rintro e w1 ⟨g, rfl, hb⟩
  have HF := hideIt (wfail_any rb _ ev r s (.iface 158 (.pointer (some ⟨g, 0, none⟩))) 0 w1 (HH.out.below hb) ⟨g, rfl⟩ (Or.inl rfl))
  have HB := hideIt hb
  clear hb HTF c0 d1
  go_wp2_with fail
  refine HF.out.mono ?_
  rintro e w2 ⟨rfl, ev', h2, hc2⟩
  have c2 := h2.c1
  obtain ⟨a2, rfl⟩ := h2.errForm rfl
  have H2 := hideIt h2
  have HC2 := hideIt hc2
  clear h2 hc2 HF
  go_wp2_with fail
  go_ret
  rw [HN2.out]
  exact ⟨⟨_, rfl, RdB.nil _⟩, _, _, H2.out, (Chg.of_below HB.out).trans HC2.out⟩
 ·cases hb : r.bad with
  | true =>
   have HN2 := hideIt (byt_no (r := r) (c := c) (Or.inl hb))
   obtain ⟨a1, rfl⟩ := h.errForm hb
   rw [hrl] at c0 hlt
   replace HH : Hid (RdAt w rb (.slice ao rl cap) (.iface 155 (.pointer (some ⟨a1, 0, none⟩))) r) := by rw [hrl] at HH; exact HH
   have HB := hideIt hb
   clear h he hlm hrl hlc hb
   go_enter Tryz.func85, Tryz.ntmps85
   go_wp2_with fail
   go_ret
   rw [HN2.out]
   have h1 := HH.out
   exact ⟨⟨_, rfl, RdB.nil _⟩, _, _, RdAt.mk (r := ⟨r.rest, true⟩) h1.blk h1.rd (fun h => (by cases h)) (fun _ => h1.no HB.out), Chg.refl _ _⟩
  | false =>
   have hev := h.ok hb
   subst hev
   obtain ⟨k, rfl⟩ : ∃ k : Nat, c = k := ⟨c.toNat, by omega⟩
   have HN2 := hideIt (byt_yes (r := r) (c := (k : Int)) hb (by omega))
   have hkl : k <= r.rest.length := by omega
   obtain ⟨tv, htv, ⟨ta, tc, rfl⟩, hrun⟩ := h.rd.drop hkl
   obtain ⟨uv, huv, ⟨ua, uc, rfl, _⟩, hrun2⟩ := h.rd.take hkl
   have HT := hideIt htv
   have HU := hideIt huv
   have z0 := h.free 0
   obtain ⟨tl, htl⟩ : ∃ tl, r.rest.length - k = tl := ⟨_, rfl⟩
   rw [htl] at hrun HT
   rw [hrl] at c0 hlt hrun hrun2
   replace HH : Hid (RdAt w rb (.slice ao rl cap) .nilIface r) := by rw [hrl] at HH; exact HH
   have HB := hideIt hb
   clear h he hlm hrl hlc hb htv huv htl hkl
   go_enter Tryz.func85, Tryz.ntmps85
   go_wp2_with fail
   go_ret
   rw [HN2.out]
   have h2 := HH.out.setRest HT.out
   rw [HB.out] at h2
   refine ⟨⟨_, rfl, HH.out.keepR 0 _ HU.out⟩, _, _, h2, chg_set (Below.refl _ _) 0 _⟩
theorem wkind_any (rb : Nat) (rv ev : Value) (r : Rd) (s : ByteArray) (w : World) (he : Env w) (h : RdAt w rb rv ev r) :
  Calls Tryz.prog 83 #[.pointer (some ⟨rb, 0, none⟩), .string s] w fun e w' => e = .returned (.int .i64 r.kind.1) /\ RdOut w rb r.kind.2 w' := by
 have HB := hideIt (wbytes_any rb rv ev r s 1 w he h (by decide) (by decide))
 clear he h
 go_enter Tryz.func83, Tryz.ntmps83
 go_wp2_with fail
 refine HB.out.mono ?_
 rintro e w1 ⟨⟨bv, rfl, hbv⟩, rv1, ev1, h1, hc1⟩
 have d1 := h1.c1
 cases hb : (r.byt 1).2.bad with
 | true =>
  have HK : Hid (r.kind = (0, (r.byt 1).2)) := by
   show _ = _
   unfold Rd.kind
   rw [if_pos hb]
  obtain ⟨a1, rfl⟩ := h1.errForm hb
  obtain ⟨_, _, ba, bc, rfl, _⟩ := hbv
  have H1 := hideIt h1
  have HC := hideIt hc1
  clear h1 hc1 hb HB
  go_wp2_with fail
  go_ret
  rw [HK.out]
  exact ⟨rfl, _, _, H1.out, HC.out⟩
 | false =>
  have HK : Hid (r.kind = ((r.byt 1).1.getD 0 0, (r.byt 1).2)) := by
   show _ = _
   unfold Rd.kind
   rw [if_neg (by rw [hb]; decide)]
  have hev := h1.ok hb
  subst hev
  have hl1 : (r.byt 1).1.length = 1 := by
   by_cases hn : r.bad = true \/ (r.rest.length : Int) < 1
   ·rw [byt_no hn] at hb; cases hb
   ·have h3 : r.bad = false := by
     cases hrb : r.bad with
     | true => exact absurd (Or.inl hrb) hn
     | false => rfl
    have h4 : (1 : Int) <= (r.rest.length : Int) := by omega
    rw [byt_yes h3 h4]
    simp
    omega
  have hrange := getD_byte hbv.1 0
  obtain ⟨_, _, ba, bc, e1, hbc, _, _, hp⟩ := id hbv
  obtain ⟨bb, off, cur, fr, e2, _⟩ := hp (by omega)
  subst e2
  subst e1
  have hcell := hbv.cell 0 (by omega)
  rw [Nat.add_zero] at hcell
  rw [hl1]
  obtain ⟨x, hx⟩ : ∃ x, (r.byt 1).1.getD 0 0 = x := ⟨_, rfl⟩
  rw [hx] at hcell hrange HK
  obtain ⟨hx0, hx1⟩ := hrange
  have hwx : IntKind.i64.wrap x = x := by rw [IntKind.wrap_i64]; omega
  have H1 := hideIt h1
  have HC := hideIt hc1
  clear h1 hc1 hb HB hbv hp hl1 hx
  go_wp2_with fail
  go_ret
  rw [HK.out]
  exact ⟨rfl, _, _, H1.out, HC.out⟩
theorem wunknown_any (rb : Nat) (rv ev : Value) (r : Rd) (s : ByteArray) (k : Int) (w : World) (he : Env w) (h : RdAt w rb rv ev r) (h0 : 0 <= k) (h1 : k <= 9223372036854775807) :
  Calls Tryz.prog 86 #[.pointer (some ⟨rb, 0, none⟩), .string s, .int .i64 k] w fun e w' => e = .returned (.tuple #[]) /\ RdOut w rb r.fail w' := by
 have HI := hideIt (itoa_any k h0 h1 w he)
 have HH := hideIt h
 clear h he
 go_enter Tryz.func86, Tryz.ntmps86
 go_wp2_with fail
 refine HI.out.mono ?_
 rintro e w1 ⟨t, rfl, ht, hb⟩
 have HB := hideIt hb
 have HF := hideIt (fun (W : World) (hW : Below w.heap.size w W) (g : Nat) => wfail_any rb _ ev r s (.iface 158 (.pointer (some ⟨g, 0, none⟩))) 0 W (HH.out.below hW) ⟨g, rfl⟩ (Or.inl rfl))
 clear hb HI
 go_wp2_with fail
 refine (HF.out _ (below_join HB.out (below_alloc _ _)) _).mono ?_
 rintro e w2 ⟨rfl, ev', h2, hc2⟩
 have H2 := hideIt h2
 have HC2 := hideIt hc2
 clear h2 hc2 HF
 go_wp2_with fail
 go_end0
 exact ⟨rfl, _, _, H2.out, (Chg.of_below (below_join HB.out (below_alloc _ _))).trans HC2.out⟩
def followN (bytes ahead read : Int) : Int := if bytes < read + ahead / 2 then min (read + ahead) 1073741823 else bytes
theorem kBytes_any (bytes ahead : Int) (w : World) :
  Calls Tryz.prog 69 #[.agg #[.int .i64 bytes, .int .i64 ahead]] w fun e w' => e = .returned (.int .i64 bytes) /\ Below w.heap.size w w' := by
 go_enter Tryz.func69, Tryz.ntmps69
 go_wp2_with fail
 go_ret
 exact ⟨rfl, below_alloc _ _⟩
theorem kFollow_any (bytes ahead read : Int) (b o : Nat) (cs : Array Value) (t : TypeId) (w : World) (hblk : w.heap[b]? = some (.cells cs t (0, 0))) (h0 : cs[o]? = some (.int .i64 bytes)) (h1 : cs[o + 1]? = some (.int .i64 ahead))
  (ha : 0 <= ahead /\ ahead <= 1073741823) (hr : 0 <= read /\ read <= 1099511627776) :
  Calls Tryz.prog 80 #[.pointer (some ⟨b, o, none⟩), .int .i64 read] w fun e w' => e = .returned (.bool (decide (bytes < followN bytes ahead read))) /\ w' = (if bytes < read + ahead / 2 then w.setCell ⟨b, o, none⟩ (.int .i64 (followN bytes ahead read)) else w) := by
 have c0 : w.cell? ⟨b, o, none⟩ = some (.int .i64 bytes) := by simp only [World.cell?, hblk]; exact h0
 have c1 : w.cell? ⟨b, o + 1, none⟩ = some (.int .i64 ahead) := by simp only [World.cell?, hblk]; exact h1
 have z0 : w.frozen? ⟨b, o, none⟩ = false := frozen_of_row w b o _ _ hblk
 have hq : Int.tdiv ahead 2 = ahead / 2 := Int.tdiv_eq_ediv_of_nonneg ha.1
 have w1 : IntKind.i64.wrap (ahead / 2) = ahead / 2 := by rw [IntKind.wrap_i64]; omega
 have w2 : IntKind.i64.wrap (read + ahead / 2) = read + ahead / 2 := by rw [IntKind.wrap_i64]; omega
 have w3 : IntKind.i64.wrap (read + ahead) = read + ahead := by rw [IntKind.wrap_i64]; omega
 unfold followN
 clear hblk h0 h1
 by_cases hl : bytes < read + ahead / 2
 ·rw [if_pos hl, if_pos hl]
  go_enter Tryz.func80, Tryz.ntmps80
  go_wp2_with fail
  all_goals
   go_ret
   first
   | exact ⟨rfl, rfl⟩
   | (rw [Int.min_eq_right (by omega)]; exact ⟨rfl, rfl⟩)
   | (rw [Int.min_eq_left (by omega)]; exact ⟨rfl, rfl⟩)
 ·rw [if_neg hl, if_neg hl]
  go_enter Tryz.func80, Tryz.ntmps80
  go_wp2_with fail
  go_ret
  exact ⟨by simp, rfl⟩
theorem kNew_any (ahead : Int) (w : World) :
  Calls Tryz.prog 165 #[.int .i64 ahead] w fun e w' => e = .returned (.agg #[.int .i64 ahead, .int .i64 ahead]) /\ Below w.heap.size w w' := by
 go_enter Tryz.func165, Tryz.ntmps165
 go_wp2_with fail
 refine bodyPost_ret (results_cell_row (P := Tryz.prog) Tryz.results165 _ _ w.heap.size 133 #[.int .i64 ahead, .int .i64 ahead] (0, 0) _ rfl (heap_alloc_new _ _) Tryz.underlying133 rfl (by kernel_rfl)) rfl ?_
 exact ⟨rfl, below_alloc _ _⟩
end Go.Proofs.YthmdjhlhodpbhaaGreatDoor
