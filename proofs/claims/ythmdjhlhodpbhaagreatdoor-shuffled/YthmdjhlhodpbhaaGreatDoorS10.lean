/- Shuffled, 10 -/
import Derived.BigRegion
import Derived.Deep.RegionHeld3
import Derived.Deep.CutRange
import Derived.LaidEql
import Derived.Deep.RegionLaw
import Derived.Test.YthmdjhlhodpbhaaGreatDoorS03
import Derived.Test.YthmdjhlhodpbhaaGreatDoorS08
set_option maxHeartbeats 16000000
set_option maxRecDepth 8000
namespace Go.Proofs.YthmdjhlhodpbhaaGreatDoor
open Go.RowKit
def cfgN (g : Cfg) : Cfg := ⟨1 + pickN g.c0 8, 8 + pickN g.c1 60, 8 + pickN g.c2 (8 + pickN g.c1 60 - 8 + 1), 1 + pickN g.c3 8, 1 + pickN g.c4 8, pickN g.c5 9, 1 + pickN g.c6 1000, 1 + pickN g.c7 1000, pickN g.c8 5000, pickN g.c9 4294967296⟩
structure CfgRaw (g : Cfg) : Prop where
 c0 : -9223372036854775808 <= g.c0 /\ g.c0 <= 9223372036854775807
 c1 : -9223372036854775808 <= g.c1 /\ g.c1 <= 9223372036854775807
 c2 : -9223372036854775808 <= g.c2 /\ g.c2 <= 9223372036854775807
 c3 : -9223372036854775808 <= g.c3 /\ g.c3 <= 9223372036854775807
 c4 : -9223372036854775808 <= g.c4 /\ g.c4 <= 9223372036854775807
 c5 : -9223372036854775808 <= g.c5 /\ g.c5 <= 9223372036854775807
 c6 : -9223372036854775808 <= g.c6 /\ g.c6 <= 9223372036854775807
 c7 : -9223372036854775808 <= g.c7 /\ g.c7 <= 9223372036854775807
 c8 : -9223372036854775808 <= g.c8 /\ g.c8 <= 9223372036854775807
 c9 : -9223372036854775808 <= g.c9 /\ g.c9 <= 9223372036854775807
def cfgC (g : Cfg) : Array Value := #[.int .i64 g.c0, .int .i64 g.c1, .int .i64 g.c2, .int .i64 g.c3, .int .i64 g.c4, .int .i64 g.c5, .int .i64 g.c6, .int .i64 g.c7, .int .i64 g.c8, .int .i64 g.c9]
theorem ten_set {w : World} {b : Nat} {T : TypeId} (h : w.heap[b]? = some (.cells #[.int .i64 0, .int .i64 0, .int .i64 0, .int .i64 0, .int .i64 0, .int .i64 0, .int .i64 0, .int .i64 0, .int .i64 0, .int .i64 0] T (0, 0))) (v0 v1 v2 v3 v4 v5 v6 v7 v8 v9 : Value) : ((((((((((w.setCell ⟨b, 0, none⟩ v0).setCell ⟨b, 1, none⟩ v1).setCell ⟨b, 2, none⟩ v2).setCell ⟨b, 3, none⟩ v3).setCell ⟨b, 4, none⟩ v4).setCell ⟨b, 5, none⟩ v5).setCell ⟨b, 6, none⟩ v6).setCell ⟨b, 7, none⟩ v7).setCell ⟨b, 8, none⟩ v8).setCell ⟨b, 9, none⟩ v9).heap[b]? = some (.cells #[v0, v1, v2, v3, v4, v5, v6, v7, v8, v9] T (0, 0)) := by
 have := (block_set (block_set (block_set (block_set (block_set (block_set (block_set (block_set (block_set (block_set h 0 v0) 1 v1) 2 v2) 3 v3) 4 v4) 5 v5) 6 v6) 7 v7) 8 v8) 9 v9)
 simpa using this
theorem kconfig_any (g : Cfg) (w : World) (hg : CfgRaw g) : Calls Tryz.prog 25 #[.agg (cfgC g)] w fun e w' => e = .returned (.agg (cfgC (cfgN g))) /\ Below w.heap.size w w' := by
 have hb1 := below_alloc w (.cells (cfgC g) 26)
 have hb2 := below_join hb1 (below_alloc (w.alloc (.cells (cfgC g) 26)) (.cells #[.int .i64 0, .int .i64 0, .int .i64 0, .int .i64 0, .int .i64 0, .int .i64 0, .int .i64 0, .int .i64 0, .int .i64 0, .int .i64 0] 26))
 have HP : Hid (∀ (c n : Int) (W : World), -9223372036854775808 <= c /\ c <= 9223372036854775807 -> 0 < n /\ n <= 1000000000000 -> Calls Tryz.prog 19 #[.int .i64 c, .int .i64 n] W fun e w' => e = .returned (.int .i64 (pickN c n)) /\ W = w') := fun c n W h1 h2 => kpick_any c n W h1 h2
 have r0 := pickN_range g.c0 (n := 8) (by decide)
 have r1 := pickN_range g.c1 (n := 60) (by decide)
 have r2 := pickN_range g.c2 (n := 8 + pickN g.c1 60 - 8 + 1) (by omega)
 have r3 := pickN_range g.c3 (n := 8) (by decide)
 have r4 := pickN_range g.c4 (n := 8) (by decide)
 have r6 := pickN_range g.c6 (n := 1000) (by decide)
 have r7 := pickN_range g.c7 (n := 1000) (by decide)
 have HG := hideIt hg
 unfold cfgN
 obtain ⟨g0, g1, g2, g3, g4, g5, g6, g7, g8, g9⟩ := g
 unfold cfgC at *
 simp only at *
 have HB2 := hideIt hb2
 obtain ⟨r0a, r0b⟩ := r0
 obtain ⟨r1a, r1b⟩ := r1
 obtain ⟨r2a, r2b⟩ := r2
 obtain ⟨r3a, r3b⟩ := r3
 obtain ⟨r4a, r4b⟩ := r4
 obtain ⟨r6a, r6b⟩ := r6
 obtain ⟨r7a, r7b⟩ := r7
 clear hg hb1 hb2
 go_enter Tryz.func25, Tryz.ntmps25
 go_wp2_with fail
 have xr : ((w.alloc (.cells #[.int .i64 g0, .int .i64 g1, .int .i64 g2, .int .i64 g3, .int .i64 g4, .int .i64 g5, .int .i64 g6, .int .i64 g7, .int .i64 g8, .int .i64 g9] 26)).alloc (.cells #[.int .i64 0, .int .i64 0, .int .i64 0, .int .i64 0, .int .i64 0, .int .i64 0, .int .i64 0, .int .i64 0, .int .i64 0, .int .i64 0] 26)).heap[w.heap.size]? = some (.cells #[.int .i64 g0, .int .i64 g1, .int .i64 g2, .int .i64 g3, .int .i64 g4, .int .i64 g5, .int .i64 g6, .int .i64 g7, .int .i64 g8, .int .i64 g9] 26 (0, 0)) := by
  rw [Below.heap_alloc _ _ _ (by simp)]
  exact heap_alloc_new w _
 have xz : ((w.alloc (.cells #[.int .i64 g0, .int .i64 g1, .int .i64 g2, .int .i64 g3, .int .i64 g4, .int .i64 g5, .int .i64 g6, .int .i64 g7, .int .i64 g8, .int .i64 g9] 26)).alloc (.cells #[.int .i64 0, .int .i64 0, .int .i64 0, .int .i64 0, .int .i64 0, .int .i64 0, .int .i64 0, .int .i64 0, .int .i64 0, .int .i64 0] 26)).heap[w.heap.size + 1]? = some (.cells #[.int .i64 0, .int .i64 0, .int .i64 0, .int .i64 0, .int .i64 0, .int .i64 0, .int .i64 0, .int .i64 0, .int .i64 0, .int .i64 0] 26 (0, 0)) := by
  have := heap_alloc_new (w.alloc (.cells #[.int .i64 g0, .int .i64 g1, .int .i64 g2, .int .i64 g3, .int .i64 g4, .int .i64 g5, .int .i64 g6, .int .i64 g7, .int .i64 g8, .int .i64 g9] 26)) (.cells #[.int .i64 0, .int .i64 0, .int .i64 0, .int .i64 0, .int .i64 0, .int .i64 0, .int .i64 0, .int .i64 0, .int .i64 0, .int .i64 0] 26)
  simpa using this
 have hsz : ((w.alloc (.cells #[.int .i64 g0, .int .i64 g1, .int .i64 g2, .int .i64 g3, .int .i64 g4, .int .i64 g5, .int .i64 g6, .int .i64 g7, .int .i64 g8, .int .i64 g9] 26)).alloc (.cells #[.int .i64 0, .int .i64 0, .int .i64 0, .int .i64 0, .int .i64 0, .int .i64 0, .int .i64 0, .int .i64 0, .int .i64 0, .int .i64 0] 26)).heap.size = w.heap.size + 2 := by simp
 generalize hW : (w.alloc (.cells #[.int .i64 g0, .int .i64 g1, .int .i64 g2, .int .i64 g3, .int .i64 g4, .int .i64 g5, .int .i64 g6, .int .i64 g7, .int .i64 g8, .int .i64 g9] 26)).alloc (.cells #[.int .i64 0, .int .i64 0, .int .i64 0, .int .i64 0, .int .i64 0, .int .i64 0, .int .i64 0, .int .i64 0, .int .i64 0, .int .i64 0] 26) = w1 at *
 have k0 : w1.cell? ⟨w.heap.size, 0, none⟩ = some (.int .i64 g0) := by simp only [World.cell?, xr]; rfl
 have k1 : w1.cell? ⟨w.heap.size, 1, none⟩ = some (.int .i64 g1) := by simp only [World.cell?, xr]; rfl
 have k3 : w1.cell? ⟨w.heap.size, 3, none⟩ = some (.int .i64 g3) := by simp only [World.cell?, xr]; rfl
 have k4 : w1.cell? ⟨w.heap.size, 4, none⟩ = some (.int .i64 g4) := by simp only [World.cell?, xr]; rfl
 have HXr := hideIt xr
 have HXz := hideIt xz
 have HSz := hideIt hsz
 clear xr xz hW hsz
 have d0 : w1.drew.cell? ⟨w.heap.size, 0, none⟩ = some (.int .i64 g0) := k0
 have d1 : w1.drew.cell? ⟨w.heap.size, 1, none⟩ = some (.int .i64 g1) := k1
 have d3 : w1.drew.cell? ⟨w.heap.size, 3, none⟩ = some (.int .i64 g3) := k3
 have d4 : w1.drew.cell? ⟨w.heap.size, 4, none⟩ = some (.int .i64 g4) := k4
 go_cut [3] from 4 to 20 (fun s3 wx => s3 = .pointer (some ⟨w.heap.size + 2, 0, none⟩) /\ Below w1.heap.size w1 wx /\ wx.heap[w.heap.size + 2]? = some (.cells #[.int .i64 (1 + pickN g0 8), .int .i64 (8 + pickN g1 60), .int .i64 0, .int .i64 (1 + pickN g3 8), .int .i64 (1 + pickN g4 8), .int .i64 0, .int .i64 0, .int .i64 0, .int .i64 0, .int .i64 0] 26 (0, 0)))
 case first =>
  have hS := And.intro d0 (And.intro d1 (And.intro d3 d4))
  go_region_held3 (fun w' => w'.cell? ⟨w.heap.size, 0, none⟩ = some (.int .i64 g0) /\ w'.cell? ⟨w.heap.size, 1, none⟩ = some (.int .i64 g1) /\ w'.cell? ⟨w.heap.size, 3, none⟩ = some (.int .i64 g3) /\ w'.cell? ⟨w.heap.size, 4, none⟩ = some (.int .i64 g4)) (first | with_reducible assumption | go_keep) (first
   | (go_at_call 19; refine (HP.out _ _ _ (by first | exact HG.out.c0 | exact HG.out.c1 | exact HG.out.c3 | exact HG.out.c4) (by decide)).mono ?_; rintro e w2 ⟨rfl, rfl⟩))
  all_goals
   go_wp2_with fail
   go_meet
   have e0 : IntKind.i64.wrap (1 + pickN g0 8) = 1 + pickN g0 8 := by rw [IntKind.wrap_i64]; omega
   have e1 : IntKind.i64.wrap (8 + pickN g1 60) = 8 + pickN g1 60 := by rw [IntKind.wrap_i64]; omega
   have e3 : IntKind.i64.wrap (1 + pickN g3 8) = 1 + pickN g3 8 := by rw [IntKind.wrap_i64]; omega
   have e4 : IntKind.i64.wrap (1 + pickN g4 8) = 1 + pickN g4 8 := by rw [IntKind.wrap_i64]; omega
   rw [e0, e1, e3, e4]
   refine ⟨by rw [HSz.out], below_drewN (below_alloc w1 _) 1, ?_⟩
   rw [heap_drew, <- HSz.out]
   exact heap_alloc_new w1 _
 case rest =>
  obtain ⟨rfl, hbw, hbx⟩ := hcut
  have xr := (hbw.block _ (Array.getElem?_eq_some_iff.1 HXr.out).1).trans HXr.out
  have xz := (hbw.block _ (Array.getElem?_eq_some_iff.1 HXz.out).1).trans HXz.out
  have HB := hideIt (below_join HB2.out hbw)
  have HXz' := hideIt xz
  have HXb := hideIt hbx
  clear k0 k1 k3 k4 d0 d1 d3 d4 hbw HXr HXz HB2
  have a2 : wc.cell? ⟨w.heap.size, 2, none⟩ = some (.int .i64 g2) := by simp only [World.cell?, xr]; rfl
  have a5 : wc.cell? ⟨w.heap.size, 5, none⟩ = some (.int .i64 g5) := by simp only [World.cell?, xr]; rfl
  have a6 : wc.cell? ⟨w.heap.size, 6, none⟩ = some (.int .i64 g6) := by simp only [World.cell?, xr]; rfl
  have a7 : wc.cell? ⟨w.heap.size, 7, none⟩ = some (.int .i64 g7) := by simp only [World.cell?, xr]; rfl
  have a8 : wc.cell? ⟨w.heap.size, 8, none⟩ = some (.int .i64 g8) := by simp only [World.cell?, xr]; rfl
  have a9 : wc.cell? ⟨w.heap.size, 9, none⟩ = some (.int .i64 g9) := by simp only [World.cell?, xr]; rfl
  have b0 : wc.cell? ⟨w.heap.size + 2, 0, none⟩ = some (.int .i64 (1 + pickN g0 8)) := by simp only [World.cell?, hbx]; rfl
  have b1 : wc.cell? ⟨w.heap.size + 2, 1, none⟩ = some (.int .i64 (8 + pickN g1 60)) := by simp only [World.cell?, hbx]; rfl
  have b2 : wc.cell? ⟨w.heap.size + 2, 2, none⟩ = some (.int .i64 0) := by simp only [World.cell?, hbx]; rfl
  have b3 : wc.cell? ⟨w.heap.size + 2, 3, none⟩ = some (.int .i64 (1 + pickN g3 8)) := by simp only [World.cell?, hbx]; rfl
  have b4 : wc.cell? ⟨w.heap.size + 2, 4, none⟩ = some (.int .i64 (1 + pickN g4 8)) := by simp only [World.cell?, hbx]; rfl
  have b5 : wc.cell? ⟨w.heap.size + 2, 5, none⟩ = some (.int .i64 0) := by simp only [World.cell?, hbx]; rfl
  have b6 : wc.cell? ⟨w.heap.size + 2, 6, none⟩ = some (.int .i64 0) := by simp only [World.cell?, hbx]; rfl
  have b7 : wc.cell? ⟨w.heap.size + 2, 7, none⟩ = some (.int .i64 0) := by simp only [World.cell?, hbx]; rfl
  have b8 : wc.cell? ⟨w.heap.size + 2, 8, none⟩ = some (.int .i64 0) := by simp only [World.cell?, hbx]; rfl
  have b9 : wc.cell? ⟨w.heap.size + 2, 9, none⟩ = some (.int .i64 0) := by simp only [World.cell?, hbx]; rfl
  have z0 : wc.cell? ⟨w.heap.size + 1, 0, none⟩ = some (.int .i64 0) := by simp only [World.cell?, xz]; rfl
  have z1 : wc.cell? ⟨w.heap.size + 1, 1, none⟩ = some (.int .i64 0) := by simp only [World.cell?, xz]; rfl
  have z2 : wc.cell? ⟨w.heap.size + 1, 2, none⟩ = some (.int .i64 0) := by simp only [World.cell?, xz]; rfl
  have z3 : wc.cell? ⟨w.heap.size + 1, 3, none⟩ = some (.int .i64 0) := by simp only [World.cell?, xz]; rfl
  have z4 : wc.cell? ⟨w.heap.size + 1, 4, none⟩ = some (.int .i64 0) := by simp only [World.cell?, xz]; rfl
  have z5 : wc.cell? ⟨w.heap.size + 1, 5, none⟩ = some (.int .i64 0) := by simp only [World.cell?, xz]; rfl
  have z6 : wc.cell? ⟨w.heap.size + 1, 6, none⟩ = some (.int .i64 0) := by simp only [World.cell?, xz]; rfl
  have z7 : wc.cell? ⟨w.heap.size + 1, 7, none⟩ = some (.int .i64 0) := by simp only [World.cell?, xz]; rfl
  have z8 : wc.cell? ⟨w.heap.size + 1, 8, none⟩ = some (.int .i64 0) := by simp only [World.cell?, xz]; rfl
  have z9 : wc.cell? ⟨w.heap.size + 1, 9, none⟩ = some (.int .i64 0) := by simp only [World.cell?, xz]; rfl
  have f2 : wc.frozen? ⟨w.heap.size + 2, 2, none⟩ = false := frozen_of_row _ _ _ _ _ hbx
  have f5 : wc.frozen? ⟨w.heap.size + 2, 5, none⟩ = false := frozen_of_row _ _ _ _ _ hbx
  have f6 : wc.frozen? ⟨w.heap.size + 2, 6, none⟩ = false := frozen_of_row _ _ _ _ _ hbx
  have f7 : wc.frozen? ⟨w.heap.size + 2, 7, none⟩ = false := frozen_of_row _ _ _ _ _ hbx
  have f8 : wc.frozen? ⟨w.heap.size + 2, 8, none⟩ = false := frozen_of_row _ _ _ _ _ hbx
  have f9 : wc.frozen? ⟨w.heap.size + 2, 9, none⟩ = false := frozen_of_row _ _ _ _ _ hbx
  have y0 : wc.frozen? ⟨w.heap.size + 1, 0, none⟩ = false := frozen_of_row _ _ _ _ _ xz
  have y1 : wc.frozen? ⟨w.heap.size + 1, 1, none⟩ = false := frozen_of_row _ _ _ _ _ xz
  have y2 : wc.frozen? ⟨w.heap.size + 1, 2, none⟩ = false := frozen_of_row _ _ _ _ _ xz
  have y3 : wc.frozen? ⟨w.heap.size + 1, 3, none⟩ = false := frozen_of_row _ _ _ _ _ xz
  have y4 : wc.frozen? ⟨w.heap.size + 1, 4, none⟩ = false := frozen_of_row _ _ _ _ _ xz
  have y5 : wc.frozen? ⟨w.heap.size + 1, 5, none⟩ = false := frozen_of_row _ _ _ _ _ xz
  have y6 : wc.frozen? ⟨w.heap.size + 1, 6, none⟩ = false := frozen_of_row _ _ _ _ _ xz
  have y7 : wc.frozen? ⟨w.heap.size + 1, 7, none⟩ = false := frozen_of_row _ _ _ _ _ xz
  have y8 : wc.frozen? ⟨w.heap.size + 1, 8, none⟩ = false := frozen_of_row _ _ _ _ _ xz
  have y9 : wc.frozen? ⟨w.heap.size + 1, 9, none⟩ = false := frozen_of_row _ _ _ _ _ xz
  clear xr xz hbx
  go_wp2_with (first
   | (go_at_call 19; refine (HP.out _ _ _ (by first | exact HG.out.c2 | exact HG.out.c5 | exact HG.out.c6 | exact HG.out.c7 | exact HG.out.c8 | exact HG.out.c9) (by omega)).mono ?_; rintro e w2 ⟨rfl, rfl⟩))
  refine bodyPost_ret (results_cell_row (P := Tryz.prog) Tryz.results25 _ _ (w.heap.size + 1) 26 #[.int .i64 (1 + pickN g0 8), .int .i64 (8 + pickN g1 60), .int .i64 (8 + pickN g2 (8 + pickN g1 60 - 8 + 1)), .int .i64 (1 + pickN g3 8), .int .i64 (1 + pickN g4 8), .int .i64 (pickN g5 9), .int .i64 (1 + pickN g6 1000), .int .i64 (1 + pickN g7 1000), .int .i64 (pickN g8 5000), .int .i64 (pickN g9 4294967296)] (0, 0) _ (by kernel_rfl) (ten_set ?_ _ _ _ _ _ _ _ _ _ _) Tryz.underlying26 rfl (by kernel_rfl)) rfl ?_
  ·refine (heap_setCell_other _ _ _ _ (by simp)).trans ?_
   refine (heap_setCell_other _ _ _ _ (by simp)).trans ?_
   refine (heap_setCell_other _ _ _ _ (by simp)).trans ?_
   refine (heap_setCell_other _ _ _ _ (by simp)).trans ?_
   refine (heap_setCell_other _ _ _ _ (by simp)).trans ?_
   refine (heap_setCell_other _ _ _ _ (by simp)).trans ?_
   exact HXz'.out
  ·exact ⟨rfl, ((((((((((((((((HB.out.setCell (Nat.le_add_right _ _) _).setCell (Nat.le_add_right _ _) _).setCell (Nat.le_add_right _ _) _).setCell (Nat.le_add_right _ _) _).setCell (Nat.le_add_right _ _) _).setCell (Nat.le_add_right _ _) _).setCell (Nat.le_add_right _ _) _).setCell (Nat.le_add_right _ _) _).setCell (Nat.le_add_right _ _) _).setCell (Nat.le_add_right _ _) _).setCell (Nat.le_add_right _ _) _).setCell (Nat.le_add_right _ _) _).setCell (Nat.le_add_right _ _) _).setCell (Nat.le_add_right _ _) _).setCell (Nat.le_add_right _ _) _).setCell (Nat.le_add_right _ _) _)⟩
def ptrV (b : Nat) : Value := .pointer (some ⟨b, 0, none⟩)
def ptrs (l : List Nat) : List Value := l.map ptrV
theorem ptrs_length (l : List Nat) : (ptrs l).length = l.length := by simp [ptrs]
def sentCells (l : List (Int × Value)) : List Value := l.flatMap fun x => [.int .i64 x.1, x.2]
theorem sentCells_length (l : List (Int × Value)) : (sentCells l).length = l.length * 2 := by
 induction l with
 | nil => rfl
 | cons a r ih => simp only [sentCells, List.flatMap_cons, List.length_append] at ih ⊢; rw [ih]; simp; omega
theorem sentCells_append (a b : List (Int × Value)) : sentCells (a ++ b) = sentCells a ++ sentCells b := by simp [sentCells]
theorem info_sent : (Tryz.prog.info? 60).map (fun i => (i.zero, i.size, i.bytes)) = some (some (.agg #[.int .i64 0, .slice none 0 0]), 2, 32) := by kernel_rfl
def OutBy (w : World) (ob : Nat) (out : List (Int × Value)) (outs : List (Int × List Int)) : Prop :=
 out.length = outs.length /\ ∀ (i : Nat) x y, out[i]? = some x -> outs[i]? = some y -> x.1 = y.1 /\ w.ownsRow ob 5 1 x.2 y.2.length (U8 y.2)
def conC (g : Cfg) (c : ConS) (plv : Value) (sm dm : Nat) (past : Int) : Array Value :=
 #[.int .i64 g.c0, .int .i64 g.c1, .int .i64 g.c2, .int .i64 g.c3, .int .i64 g.c4, .int .i64 g.c5, .int .i64 g.c6, .int .i64 g.c7, .int .i64 g.c8, .int .i64 g.c9, .int .i64 c.cid, .int .i64 c.addr, .bool c.proven, .int .i64 c.got, .int .i64 c.sent, .int .i64 c.heard, .int .i64 c.mark, plv, .int .i64 c.credit, .int .i64 g.c1, .int .i64 c.streams.length, .map (some sm), .map (some dm), .int .i64 past]
def ConBlk (w : World) (cb : Nat) (g : Cfg) (c : ConS) (plv : Value) (sm dm : Nat) (past : Int) : Prop := w.heap[cb]? = some (.cells (conC g c plv sm dm past) 137 (0, 0))
theorem ConBlk.cell {w : World} {cb : Nat} {g : Cfg} {c : ConS} {plv : Value} {sm dm : Nat} {past : Int} (h : ConBlk w cb g c plv sm dm past) (i : Nat) : w.cell? ⟨cb, i, none⟩ = (conC g c plv sm dm past)[i]? := by
 unfold ConBlk at h
 simp only [World.cell?, h]
 rfl
theorem ConBlk.free {w : World} {cb : Nat} {g : Cfg} {c : ConS} {plv : Value} {sm dm : Nat} {past : Int} (h : ConBlk w cb g c plv sm dm past) (i : Nat) : w.frozen? ⟨cb, i, none⟩ = false := frozen_of_row w cb i _ _ h
theorem ConBlk.lt {w : World} {cb : Nat} {g : Cfg} {c : ConS} {plv : Value} {sm dm : Nat} {past : Int} (h : ConBlk w cb g c plv sm dm past) : cb < w.heap.size := (Array.getElem?_eq_some_iff.1 h).1
theorem ConBlk.below {w w' : World} {cb : Nat} {g : Cfg} {c : ConS} {plv : Value} {sm dm : Nat} {past : Int} (h : ConBlk w cb g c plv sm dm past) (hb : Below w.heap.size w w') : ConBlk w' cb g c plv sm dm past := by
 unfold ConBlk
 rw [hb.block cb h.lt]
 exact h
theorem ConBlk.chg {F : Nat -> Prop} {w w' : World} {cb : Nat} {g : Cfg} {c : ConS} {plv : Value} {sm dm : Nat} {past : Int} (h : ConBlk w cb g c plv sm dm past) (hc : Chg F w w') (hF : ¬ F cb) : ConBlk w' cb g c plv sm dm past := by
 unfold ConBlk
 rw [hc.block cb h.lt hF]
 exact h
theorem cHas_any (cb : Nat) (g : Cfg) (c : ConS) (plv : Value) (sm dm : Nat) (past : Int) (sid : Int) (w : World) (h : ConBlk w cb g c plv sm dm past) :
  Calls Tryz.prog 43 #[.pointer (some ⟨cb, 0, none⟩), .int .i64 sid] w fun e w' => e = .returned (.bool (decide (0 <= sid) && decide (sid < (c.streams.length : Int)))) /\ w = w' := by
 have c20 : w.cell? ⟨cb, 20, none⟩ = some (.int .i64 c.streams.length) := h.cell 20
 clear h
 by_cases h0 : 0 <= sid
 ·have hd : decide (0 <= sid) = true := decide_eq_true h0
  rw [hd]
  go_enter Tryz.func43, Tryz.ntmps43
  go_wp2_with fail
  go_ret
  exact ⟨by simp, rfl⟩
 ·have hd : decide (0 <= sid) = false := decide_eq_false h0
  rw [hd]
  go_enter Tryz.func43, Tryz.ntmps43
  go_wp2_with fail
  go_ret
  exact ⟨by simp, rfl⟩
theorem cproof_any (cb : Nat) (g : Cfg) (c : ConS) (plv : Value) (sm dm : Nat) (past : Int) (w : World) (h : ConBlk w cb g c plv sm dm past) (hk : 0 <= g.c9 /\ g.c9 < 4294967296) (ha : 0 <= c.addr /\ c.addr < 256) (hc : 0 <= c.cid /\ c.cid <= 1073741823) :
  Calls Tryz.prog 173 #[.pointer (some ⟨cb, 0, none⟩)] w fun e w' => e = .returned (.int .i64 (proofN g.c9 c.addr c.cid)) /\ Below w.heap.size w w' := by
 have c9 : w.cell? ⟨cb, 9, none⟩ = some (.int .i64 g.c9) := h.cell 9
 have c10 : w.cell? ⟨cb, 10, none⟩ = some (.int .i64 c.cid) := h.cell 10
 have c11 : w.cell? ⟨cb, 11, none⟩ = some (.int .i64 c.addr) := h.cell 11
 have HP := hideIt (fun W => wProof_any g.c9 c.addr c.cid W hk.1 hk.2 ha.1 ha.2 hc.1 (by omega))
 clear h hk ha hc
 generalize proofN g.c9 c.addr c.cid = pf at HP ⊢
 go_enter Tryz.func173, Tryz.ntmps173
 go_wp2_with fail
 go_region_held3 (fun w' => w'.cell? ⟨cb, 9, none⟩ = some (.int .i64 g.c9) /\ w'.cell? ⟨cb, 10, none⟩ = some (.int .i64 c.cid) /\ w'.cell? ⟨cb, 11, none⟩ = some (.int .i64 c.addr)) (first | assumption | go_keep) (first
  | (go_at_call 104; refine (HP.out _).mono ?_; rintro e w1 ⟨rfl, hb1⟩; have k9 := cell_below c9 (below_undrew hb1); have k10 := cell_below c10 (below_undrew hb1); have k11 := cell_below c11 (below_undrew hb1)))
 have HB := hideIt (below_undrew hb1)
 clear hb1 HP k9 k10 k11
 go_wp2_with fail
 go_ret
 exact ⟨rfl, HB.out⟩
def ProveOut (w : World) (cb : Nat) (g : Cfg) (c : ConS) (plv : Value) (sm dm : Nat) (past : Int) (p pf : Int) (e : Ending) (w' : World) : Prop :=
 Chg (· = cb) w w' /\ ((p ≠ pf /\ e = .returned (.int .i64 10) /\ ConBlk w' cb g c plv sm dm past) \/ (p = pf /\ e = .returned (.int .i64 0) /\ ConBlk w' cb g { c with proven := true } plv sm dm past))
theorem cprove_any (cb : Nat) (g : Cfg) (c : ConS) (plv : Value) (sm dm : Nat) (past : Int) (p : Int) (w : World) (h : ConBlk w cb g c plv sm dm past) (hk : 0 <= g.c9 /\ g.c9 < 4294967296) (ha : 0 <= c.addr /\ c.addr < 256) (hc : 0 <= c.cid /\ c.cid <= 1073741823) :
  Calls Tryz.prog 204 #[.pointer (some ⟨cb, 0, none⟩), .int .i64 p] w fun e w' => ProveOut w cb g c plv sm dm past p (proofN g.c9 c.addr c.cid) e w' := by
 have HP := hideIt (cproof_any cb g c plv sm dm past w h hk ha hc)
 have HH := hideIt h
 clear h hk ha hc
 generalize proofN g.c9 c.addr c.cid = pf at HP ⊢
 by_cases hp : p = pf
 ·subst hp
  go_enter Tryz.func204, Tryz.ntmps204
  go_wp2_with fail
  refine HP.out.mono ?_
  rintro e w1 ⟨rfl, hb1⟩
  have H1 := hideIt (HH.out.below hb1)
  have HB := hideIt hb1
  have d12 : w1.cell? ⟨cb, 12, none⟩ = some (.bool c.proven) := H1.out.cell 12
  have z12 := H1.out.free 12
  clear hb1 HP
  go_wp2_with fail
  go_ret
  exact ⟨chg_set HB.out 12 _, Or.inr ⟨rfl, rfl, block_set H1.out 12 _⟩⟩
 ·have hpb : (p == pf) = false := beq_eq_false_iff_ne.2 hp
  go_enter Tryz.func204, Tryz.ntmps204
  go_wp2_with fail
  refine HP.out.mono ?_
  rintro e w1 ⟨rfl, hb1⟩
  have HB := hideIt hb1
  clear hb1 HP
  go_wp2_with fail
  go_ret
  exact ⟨Chg.of_below HB.out, Or.inl ⟨hp, rfl, HH.out.below HB.out⟩⟩
def OutOw (w : World) (base : Nat) (out : List (Int × Value)) (outs : List (Int × List Int)) : Prop :=
 out.length = outs.length /\ (∀ (i : Nat) x y, out[i]? = some x -> outs[i]? = some y -> x.1 = y.1 /\ w.ownsRow base 5 1 x.2 y.2.length (U8 y.2)) /\ ∀ (i j : Nat) x y k, i ≠ j -> out[i]? = some x -> out[j]? = some y -> x.2.ownBlock = some k -> y.2.ownBlock ≠ some k
theorem OutOw.by {w : World} {base : Nat} {out : List (Int × Value)} {outs : List (Int × List Int)} (h : OutOw w base out outs) : OutBy w base out outs := ⟨h.1, h.2.1⟩
theorem OutOw.nil (w : World) (base : Nat) : OutOw w base [] [] := ⟨rfl, fun i x y hx => (by simp at hx), fun i j x y k _ hx => (by simp at hx)⟩
theorem OutOw.one {w : World} {base : Nat} {a : Int} {v : Value} {l : List Int} (hv : w.ownsRow base 5 1 v l.length (U8 l)) : OutOw w base [(a, v)] [(a, l)] := by
 refine ⟨rfl, fun i x y hx hy => ?_, fun i j x y k hij hx hy => ?_⟩
 ·cases i with
  | zero =>
   simp only [List.getElem?_cons_zero, Option.some.injEq] at hx hy
   subst hx hy
   exact ⟨rfl, hv⟩
  | succ i => simp at hx
 ·cases i with
  | zero =>
   cases j with
   | zero => exact absurd rfl hij
   | succ j => simp at hy
  | succ i => simp at hx
theorem OutOw.chg {F : Nat -> Prop} {w w' : World} {base : Nat} {out : List (Int × Value)} {outs : List (Int × List Int)} (h : OutOw w base out outs) (hc : Chg F w w') (hF : ∀ k cur fr, w.heap[k]? = some (.cells cur 5 fr) -> ¬ F k) : OutOw w' base out outs :=
 ⟨h.1, fun i x y hx hy => ⟨(h.2.1 i x y hx hy).1, own_typed (h.2.1 i x y hx hy).2 hc hF⟩, h.2.2⟩
theorem OutOw.mono {w : World} {b b' : Nat} {out : List (Int × Value)} {outs : List (Int × List Int)} (h : OutOw w b out outs) (hb : b' <= b) : OutOw w b' out outs :=
 ⟨h.1, fun i x y hx hy => ⟨(h.2.1 i x y hx hy).1, own_mono (h.2.1 i x y hx hy).2 hb⟩, h.2.2⟩
def OutsAt (w : World) (base : Nat) (v : Value) (outs : List (Int × List Int)) : Prop := ∃ out, w.ownsRow base 60 2 v out.length (sentCells out) /\ OutOw w base out outs
theorem own_lit2 (w : World) (base : Nat) (a : Int) (v : Value) (hb : base <= w.heap.size) : (w.alloc (.cells #[.int .i64 a, v] 60)).ownsRow base 60 2 (.slice (some ⟨w.heap.size, 0, none⟩) 1 1) 1 (sentCells [(a, v)]) := by
 have := World.ownsRow_lit (base := base) (e := 60) (size := 2) w #[.int .i64 a, v] 1 hb (by decide) (by simp)
 simpa [sentCells] using this
theorem OutsAt.nil (w : World) (base : Nat) : OutsAt w base (.slice none 0 0) [] := ⟨[], World.ownsRow_nil _ _ _ _, OutOw.nil w base⟩
structure TellOut (w : World) (cb : Nat) (g : Cfg) (c : ConS) (plv : Value) (sm dm : Nat) (past : Int) (f : List Int) (e : Ending) (w' : World) : Prop where
 ret : ∃ v, e = .returned v /\ OutsAt w' w.heap.size v (newsO c f [])
 blk : ConBlk w' cb g (newsC c f) plv sm dm past
 chg : Chg (· = cb) w w'
theorem ctell_any (cb : Nat) (g : Cfg) (c : ConS) (plv : Value) (sm dm : Nat) (past : Int) (kind : Int) (ns : List Int) (nb nc : Nat) (w : World) (h : ConBlk w cb g c plv sm dm past) (hc : 0 <= c.cid /\ c.cid <= 1073741823) (hg : 0 <= c.got /\ c.got <= 1125899906842624) (hs : 0 <= c.sent /\ c.sent <= 1125899906842624) (hn : ∀ n ∈ ns, 0 <= n /\ n <= 1073741823) (hl : ns.length <= 8) (hcell : ∀ j n, ns[j]? = some n -> w.cell? ⟨nb, j, none⟩ = some (.int .i64 n)) :
  Calls Tryz.prog 78 #[.pointer (some ⟨cb, 0, none⟩), .int .u8 kind, .slice (some ⟨nb, 0, none⟩) ns.length nc] w fun e w' => TellOut w cb g c plv sm dm past ([kind] ++ putsL ns) e w' := by
 have c10 : w.cell? ⟨cb, 10, none⟩ = some (.int .i64 c.cid) := h.cell 10
 have HN := hideIt (wNews_any c.cid kind ns nb nc w hc hn hl hcell)
 have hlen : (newsL c.cid ([kind] ++ putsL ns)).length <= 100 := by
  have h1 := putsL_len ns
  have h2 := putL_len c.cid
  simp [newsL] at h1 h2 ⊢
  omega
 have hpos : 0 < (newsL c.cid ([kind] ++ putsL ns)).length := by simp [newsL]
 have HNC : Hid (newsC c ([kind] ++ putsL ns) = if newsMay c (newsL c.cid ([kind] ++ putsL ns)).length then { c with sent := c.sent + (newsL c.cid ([kind] ++ putsL ns)).length } else c) := rfl
 have HNO : Hid (newsO c ([kind] ++ putsL ns) [] = if newsMay c (newsL c.cid ([kind] ++ putsL ns)).length then [(c.addr, newsL c.cid ([kind] ++ putsL ns))] else []) := rfl
 have HH := hideIt h
 generalize newsL c.cid ([kind] ++ putsL ns) = L at HN hlen hpos HNC HNO
 generalize [kind] ++ putsL ns = f at HNC HNO ⊢
 obtain ⟨N, hN⟩ : ∃ N, L.length = N := ⟨_, rfl⟩
 rw [hN] at HN hlen hpos HNC HNO
 have HNl := hideIt hN
 clear h hn hl hcell hN
 have hw1 : IntKind.i64.wrap (c.sent + (N : Int)) = c.sent + N := by rw [IntKind.wrap_i64]; omega
 have hw2 : IntKind.i64.wrap (3 * c.got) = 3 * c.got := by rw [IntKind.wrap_i64]; omega
 go_enter Tryz.func78, Tryz.ntmps78
 go_wp2_with fail
 refine HN.out.mono ?_
 rintro e w1 ⟨v, rfl, ho, hb⟩
 have H1 := hideIt (HH.out.below hb)
 have HO := hideIt ho
 have HB := hideIt hb
 obtain ⟨va, vc, rfl⟩ := own_form ho
 have d11 : w1.cell? ⟨cb, 11, none⟩ = some (.int .i64 c.addr) := H1.out.cell 11
 have d12 : w1.cell? ⟨cb, 12, none⟩ = some (.bool c.proven) := H1.out.cell 12
 have d13 : w1.cell? ⟨cb, 13, none⟩ = some (.int .i64 c.got) := H1.out.cell 13
 have d14 : w1.cell? ⟨cb, 14, none⟩ = some (.int .i64 c.sent) := H1.out.cell 14
 clear ho hb HN c10
 have hmay : newsMay c (N : Int) = true \/ (c.proven = false /\ 3 * c.got < c.sent + N /\ newsMay c (N : Int) = false) := by
  unfold newsMay
  cases c.proven with
  | true => left; rfl
  | false =>
   by_cases h3 : c.sent + (N : Int) <= 3 * c.got
   ·left; simp [h3]
   ·right; simp [h3]; omega
 rcases hmay with hm | ⟨hp, hgt, hm⟩
 ·have HC1 : Hid (newsC c f = { c with sent := c.sent + N }) := by
   show _ = _
   rw [HNC.out, if_pos hm]
  have HO1 : Hid (newsO c f [] = [(c.addr, L)]) := by
   show _ = _
   rw [HNO.out, if_pos hm]
  have hcut : c.proven = true \/ (c.proven = false /\ c.sent + (N : Int) <= 3 * c.got) := by
   unfold newsMay at hm
   cases hq : c.proven with
   | true => left; rfl
   | false => rw [hq] at hm; right; simpa using hm
  clear hm HNC HNO
  have HEnd : Hid (∀ W : World, Below w1.heap.size w1 W -> TellOut w cb g c plv sm dm past f (.returned (.slice (some ⟨W.heap.size, 0, none⟩) 1 1)) ((W.setCell ⟨cb, 14, none⟩ (.int .i64 (c.sent + N))).alloc (.cells #[.int .i64 c.addr, .slice va N vc] 60))) := by
   intro W hW
   have hcW : Chg (· = cb) W (W.setCell ⟨cb, 14, none⟩ (.int .i64 (c.sent + N))) := chg_set (Below.refl _ W) 14 _
   have hblk := H1.out.below hW
   have hne : ∀ k cur fr e, W.heap[k]? = some (.cells cur e fr) -> 137 ≠ e -> ¬ k = cb := by
    intro k cur fr e hk he e2
    subst e2
    unfold ConBlk at hblk
    rw [hblk] at hk
    simp only [Option.some.injEq, Obj.cells.injEq] at hk
    exact he hk.2.1
   have hbs : Below (W.setCell ⟨cb, 14, none⟩ (.int .i64 (c.sent + N))).heap.size (W.setCell ⟨cb, 14, none⟩ (.int .i64 (c.sent + N))) _ := below_alloc _ (.cells #[.int .i64 c.addr, .slice va N vc] 60)
   refine ⟨⟨_, rfl, [(c.addr, .slice va N vc)], ?_, ?_⟩, ?_, ?_⟩
   ·have := own_lit2 (W.setCell ⟨cb, 14, none⟩ (.int .i64 (c.sent + N))) w.heap.size (c.addr) (.slice va N vc) (by rw [World.size_setCell]; exact Nat.le_trans HB.out.size hW.size)
    rw [World.size_setCell] at this
    exact this
   ·rw [HO1.out]
    have hro := own_below HO.out hW
    have hro2 := own_below (own_typed hro hcW fun k cur fr hk => hne k cur fr _ hk (by decide)) hbs
    rw [<- HNl.out] at hro2 ⊢
    exact OutOw.one hro2
   ·rw [HC1.out]
    exact ConBlk.below (block_set hblk 14 _) hbs
   ·exact ((Chg.of_below (below_join HB.out hW)).trans hcW).trans (Chg.of_below hbs)
  rcases hcut with hp | ⟨hp, hle⟩
  ·rw [hp] at d12
   go_wp2_with fail
   go_quiet (fail)
   have hq := below_drewN (Below.refl w1.heap.size w1) nq
   clear d11 d12 d13 d14
   generalize w1.drewN nq = W at hq ⊢
   have HW := hideIt (H1.out.below hq)
   have HQ := hideIt hq
   have e11 : W.cell? ⟨cb, 11, none⟩ = some (.int .i64 c.addr) := HW.out.cell 11
   have e14 : W.cell? ⟨cb, 14, none⟩ = some (.int .i64 c.sent) := HW.out.cell 14
   have z14 := HW.out.free 14
   have e11b : (W.setCell ⟨cb, 14, none⟩ (.int .i64 (c.sent + N))).cell? ⟨cb, 11, none⟩ = some (.int .i64 c.addr) := ConBlk.cell (c := { c with sent := c.sent + N }) (block_set HW.out 14 _) 11
   clear hq
   go_wp2_with fail
   go_ret
   exact HEnd.out W HQ.out
  ·rw [hp] at d12
   go_wp2_with fail
   go_quiet (fail)
   have hq := below_drewN (Below.refl w1.heap.size w1) nq
   clear d11 d12 d13 d14
   generalize w1.drewN nq = W at hq ⊢
   have HW := hideIt (H1.out.below hq)
   have HQ := hideIt hq
   have e11 : W.cell? ⟨cb, 11, none⟩ = some (.int .i64 c.addr) := HW.out.cell 11
   have e14 : W.cell? ⟨cb, 14, none⟩ = some (.int .i64 c.sent) := HW.out.cell 14
   have z14 := HW.out.free 14
   have e11b : (W.setCell ⟨cb, 14, none⟩ (.int .i64 (c.sent + N))).cell? ⟨cb, 11, none⟩ = some (.int .i64 c.addr) := ConBlk.cell (c := { c with sent := c.sent + N }) (block_set HW.out 14 _) 11
   clear hq
   go_wp2_with fail
   go_ret
   exact HEnd.out W HQ.out
 ·rw [hp] at d12
  have HC1 : Hid (newsC c f = c) := by
   show _ = _
   rw [HNC.out, if_neg (by rw [hm]; decide)]
  have HO1 : Hid (newsO c f [] = []) := by
   show _ = _
   rw [HNO.out, if_neg (by rw [hm]; decide)]
  clear hm HNC HNO
  go_wp2_with fail
  go_quiet (fail)
  have hq := below_drewN (Below.refl w1.heap.size w1) nq
  clear d11 d12 d13 d14
  generalize w1.drewN nq = W at hq ⊢
  have HW := hideIt (H1.out.below hq)
  have HQ := hideIt hq
  clear hq
  go_wp2_with fail
  go_ret
  refine ⟨⟨_, rfl, ?_⟩, ?_, Chg.of_below (below_join HB.out HQ.out)⟩
  ·rw [HO1.out]; exact OutsAt.nil _ _
  ·rw [HC1.out]; exact HW.out
theorem putsL4 (k a b c d : Int) : [k] ++ putsL [a, b, c, d] = [k] ++ putL a ++ putL b ++ putL c ++ putL d := by simp [putsL]
theorem OutsAt.mono {w : World} {b b' : Nat} {v : Value} {outs : List (Int × List Int)} (h : OutsAt w b v outs) (hb : b' <= b) : OutsAt w b' v outs := by
 obtain ⟨out, h1, h2⟩ := h
 exact ⟨out, own_mono h1 hb, h2.mono hb⟩
theorem TellOut.pre {w W : World} {cb : Nat} {g : Cfg} {c : ConS} {plv : Value} {sm dm : Nat} {past : Int} {f : List Int} {e : Ending} {w' : World} (hW : Below w.heap.size w W) (h : TellOut W cb g c plv sm dm past f e w') : TellOut w cb g c plv sm dm past f e w' := by
 obtain ⟨v, e1, ho⟩ := h.ret
 exact ⟨⟨v, e1, ho.mono hW.size⟩, h.blk, (Chg.of_below hW).trans h.chg⟩
theorem OutsAt.form {w : World} {b : Nat} {v : Value} {outs : List (Int × List Int)} (h : OutsAt w b v outs) : ∃ ao cap, v = .slice ao outs.length cap := by
 obtain ⟨out, h1, h2⟩ := h
 obtain ⟨ao, cap, e⟩ := own_formN h1
 exact ⟨ao, cap, by rw [e, h2.1]⟩
theorem cClosed_any (cb : Nat) (g : Cfg) (c : ConS) (plv : Value) (sm dm : Nat) (past : Int) (code : Int) (w : World) (h : ConBlk w cb g c plv sm dm past) (hc : 0 <= c.cid /\ c.cid <= 1073741823) (hg : 0 <= c.got /\ c.got <= 1125899906842624) (hs : 0 <= c.sent /\ c.sent <= 1125899906842624) (hk : 0 <= code /\ code <= 1073741823) :
  Calls Tryz.prog 163 #[.pointer (some ⟨cb, 0, none⟩), .int .i64 code] w fun e w' => TellOut w cb g c plv sm dm past ([19] ++ putL code) e w' := by
 have hb : Below w.heap.size w (w.alloc (.cells #[.int .i64 code] 3)) := below_alloc w _
 have HT := hideIt (ctell_any cb g c plv sm dm past 19 [code] w.heap.size 1 _ (h.below hb) hc hg hs (fun n hn => by rw [List.mem_singleton.1 hn]; exact hk) (by simp) (fun j n hj => by
  cases j with
  | zero => simp only [List.getElem?_cons_zero, Option.some.injEq] at hj; subst hj; simp
  | succ j => simp at hj))
 rw [show ([code] : List Int).length = 1 from rfl] at HT
 have HP : Hid ([19] ++ putsL [code] = [19] ++ putL code) := by show _ = _; simp [putsL]
 have HB := hideIt hb
 clear h hc hg hs hk hb
 go_enter Tryz.func163, Tryz.ntmps163
 go_wp2_with fail
 refine HT.out.mono ?_
 intro e w1 ho
 rw [HP.out] at ho
 obtain ⟨v, rfl, hv⟩ := ho.ret
 obtain ⟨va, vc, rfl⟩ := hv.form
 have HO := hideIt (ho.pre HB.out)
 clear ho hv HT
 go_wp2_with fail
 go_ret
 exact HO.out
theorem cWelcome_any (cb : Nat) (g : Cfg) (c : ConS) (plv : Value) (sm dm : Nat) (past : Int) (w : World) (h : ConBlk w cb g c plv sm dm past) (hcf : CfgOk g) (ha : 0 <= c.addr /\ c.addr < 256) (hc : 0 <= c.cid /\ c.cid <= 1073741823) (hg : 0 <= c.got /\ c.got <= 1125899906842624) (hs : 0 <= c.sent /\ c.sent <= 1125899906842624) :
  Calls Tryz.prog 142 #[.pointer (some ⟨cb, 0, none⟩)] w fun e w' => TellOut w cb g c plv sm dm past (welcomeL g c) e w' := by
 have hpr : 0 <= proofN g.c9 c.addr c.cid /\ proofN g.c9 c.addr c.cid <= 1073741823 := by unfold proofN; omega
 have k1 := hcf.c1
 have k2 := hcf.c2
 have k3 := hcf.c3
 have HPr := hideIt (fun W (hW : Below w.heap.size w W) => cproof_any cb g c plv sm dm past W (h.below hW) hcf.c9 ha hc)
 have HWl : Hid ([20] ++ putsL [proofN g.c9 c.addr c.cid, g.c1, g.c2, g.c3] = welcomeL g c) := putsL4 _ _ _ _ _
 generalize proofN g.c9 c.addr c.cid = pf at HPr HWl hpr
 have HT : Hid (∀ W : World, Below w.heap.size w W -> Calls Tryz.prog 78 #[.pointer (some ⟨cb, 0, none⟩), .int .u8 20, .slice (some ⟨W.heap.size, 0, none⟩) 4 4] (W.alloc (.cells #[.int .i64 pf, .int .i64 g.c1, .int .i64 g.c2, .int .i64 g.c3] 3)) fun e w' => TellOut w cb g c plv sm dm past (welcomeL g c) e w') := by
  intro W hW
  have hb := below_join hW (below_alloc W (.cells #[.int .i64 pf, .int .i64 g.c1, .int .i64 g.c2, .int .i64 g.c3] 3))
  have h9 := ctell_any cb g c plv sm dm past 20 [pf, g.c1, g.c2, g.c3] W.heap.size 4 _ (h.below hb) hc hg hs (fun n hn => ?_) (by simp) (fun j n hj => ?_)
  rw [show ([pf, g.c1, g.c2, g.c3] : List Int).length = 4 from rfl] at h9
  refine h9.mono ?_
  ·intro e w' ho
   rw [HWl.out] at ho
   exact ho.pre hb
  ·simp only [List.mem_cons, List.not_mem_nil, or_false] at hn
   rcases hn with rfl | rfl | rfl | rfl <;> omega
  ·match j with
   | 0 => simp only [List.getElem?_cons_zero, Option.some.injEq] at hj; subst hj; simp
   | 1 => simp only [List.getElem?_cons_succ, List.getElem?_cons_zero, Option.some.injEq] at hj; subst hj; simp
   | 2 => simp only [List.getElem?_cons_succ, List.getElem?_cons_zero, Option.some.injEq] at hj; subst hj; simp
   | 3 => simp only [List.getElem?_cons_succ, List.getElem?_cons_zero, Option.some.injEq] at hj; subst hj; simp
   | j + 4 => simp at hj
 have c1 : w.cell? ⟨cb, 1, none⟩ = some (.int .i64 g.c1) := h.cell 1
 have c2 : w.cell? ⟨cb, 2, none⟩ = some (.int .i64 g.c2) := h.cell 2
 have c3 : w.cell? ⟨cb, 3, none⟩ = some (.int .i64 g.c3) := h.cell 3
 clear h hcf ha hc hg hs hpr k1 k2 k3
 go_enter Tryz.func142, Tryz.ntmps142
 go_wp2_with fail
 go_region_held3 (fun w' => w'.cell? ⟨cb, 1, none⟩ = some (.int .i64 g.c1) /\ w'.cell? ⟨cb, 2, none⟩ = some (.int .i64 g.c2) /\ w'.cell? ⟨cb, 3, none⟩ = some (.int .i64 g.c3)) (first | assumption | (refine ⟨cell_below k1 (below_alloc _ _), cell_below k2 (below_alloc _ _), cell_below k3 (below_alloc _ _)⟩) | go_keep) (first
  | (go_at_call 173; refine (HPr.out _ (below_drewN (Below.refl _ w) 1)).mono ?_; rintro e w1 ⟨rfl, hb1⟩; have k1 := cell_below c1 (below_undrew hb1); have k2 := cell_below c2 (below_undrew hb1); have k3 := cell_below c3 (below_undrew hb1))
  | (go_at_call 78; refine (HT.out w1 (below_undrew hb1)).mono ?_; intro e w2 ho; obtain ⟨v, rfl, hv⟩ := ho.ret; obtain ⟨va, vc, rfl⟩ := hv.form; have l1 : w2.cell? ⟨cb, 1, none⟩ = some (.int .i64 g.c1) := ho.blk.cell 1; have l2 : w2.cell? ⟨cb, 2, none⟩ = some (.int .i64 g.c2) := ho.blk.cell 2; have l3 : w2.cell? ⟨cb, 3, none⟩ = some (.int .i64 g.c3) := ho.blk.cell 3; have hS2 := And.intro l1 (And.intro l2 l3)))
 have HO := hideIt ho
 clear ho hv HT HPr hb1
 go_wp2_with fail
 go_ret
 exact HO.out
end Go.Proofs.YthmdjhlhodpbhaaGreatDoor
