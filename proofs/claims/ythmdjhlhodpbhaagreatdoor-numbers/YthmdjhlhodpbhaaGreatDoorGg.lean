/-
  GetNumber, the program's and the document's, at every list of bytes: one plain answer.
-/
import Derived.Test.YthmdjhlhodpbhaaGreatDoorNs
namespace Go.Proofs.YthmdjhlhodpbhaaGreatDoor
open Go.RowKit

/-- a slice of bytes reads as these numbers -/
def Reads (w : World) (v : Value) (l : List Int) : Prop :=
  Bytes l ∧ l.length ≤ 140737488355328 ∧ ((l = [] ∧ ∃ ao cap, v = .slice ao 0 cap) ∨ (0 < l.length ∧ ∃ b off cap, v = .slice (some ⟨b, off, none⟩) l.length cap ∧ l.length ≤ cap ∧ ∀ j, j < l.length → w.cell? ⟨b, off + j, none⟩ = some (.int .u8 (l.getD j 0))))

theorem rGetNumber_any (l : List Int) (v : Value) (w : World) (hr : Reads w v l) :
    Calls Tryz.prog 113 #[v] w fun e w' => e = .returned (.tuple #[.int .i64 (gval l), .int .i64 (gsz l), .int .i64 (gerr l)]) ∧ w = w' := by
  obtain ⟨hl, hm, h | h⟩ := hr
  · obtain ⟨rfl, ao, cap, rfl⟩ := h
    exact rGet_nil ao cap w
  · obtain ⟨hp, b, off, cap, rfl, _, hc⟩ := h
    exact rGet_any l hl hp b off cap w hm hc

theorem frozen_new (w : World) (c : Array Value) (t : TypeId) (i : Nat) : (w.alloc (.cells c t)).frozen? ⟨w.heap.size, i, none⟩ = false := by simp

/-- an error that wraps a *None, and none: told apart -/
theorem IsNone_within (h g : Nat) (w : World) (he : Env w) (hcause : w.cell? ⟨h, 1, none⟩ = some (.iface 158 (.pointer (some ⟨g, 0, none⟩)))) :
    Calls Tryz.prog 46 #[.iface 155 (.pointer (some ⟨h, 0, none⟩))] w fun e w' => e = .returned (.bool true) ∧ Below w.heap.size w w' := by
  have hb1 : Below w.heap.size w (w.alloc (.cells #[.pointer none] 158)) := below_alloc w _
  have HA := hideIt (As_within h ⟨g, 0, none⟩ ⟨w.heap.size, 0, none⟩ (w.alloc (.cells #[.pointer none] 158)) (cell_below he.2 hb1) (cell_below hcause hb1) (by simp) (by simp))
  clear hcause he
  go_enter Tryz.func46, Tryz.ntmps46
  go_wp2_with fail
  refine HA.out.mono ?_
  rintro e w2 ⟨rfl, hb2⟩
  have hb3 : Below w.heap.size w w2 := hb1.trans hb2
  clear hb1 hb2 HA
  go_wp2_with fail
  go_ret
  exact ⟨rfl, hb3⟩

theorem IsNone_nil (w : World) : Calls Tryz.prog 46 #[.nilIface] w fun e w' => e = .returned (.bool false) ∧ Below w.heap.size w w' := by
  go_enter Tryz.func46, Tryz.ntmps46
  go_wp2_with fail
  refine (As_nil _ _).mono ?_
  rintro e w2 ⟨rfl, rfl⟩
  go_wp2_with fail
  go_ret
  exact ⟨rfl, below_alloc w _⟩

/-- behind an error that wraps a *None -/
theorem Get_err (v : Value) (w : World) (he : Env w)
    (hread : Calls Tryz.prog 102 #[v] w fun e w' => ∃ g h, e = .returned (.tuple #[.int .i64 0, .int .i64 0, .iface 155 (.pointer (some ⟨h, 0, none⟩))]) ∧ w'.cell? ⟨h, 1, none⟩ = some (.iface 158 (.pointer (some ⟨g, 0, none⟩))) ∧ Below w.heap.size w w') :
    Calls Tryz.prog 56 #[v] w fun e w' => e = .returned (.tuple #[.int .i64 0, .int .i64 0, .int .i64 2]) ∧ Below w.heap.size w w' := by
  have HR := hideIt hread
  have HE := hideIt he
  clear hread he
  go_enter Tryz.func56, Tryz.ntmps56
  go_wp2_with fail
  refine HR.out.mono ?_
  rintro e w1 ⟨g, h, rfl, hcause, hb⟩
  clear HR
  have HI := hideIt (IsNone_within h g w1 (HE.out.below hb) hcause)
  clear hcause
  go_wp2_with fail
  refine HI.out.mono ?_
  rintro e w2 ⟨rfl, hb2⟩
  have hb3 : Below w.heap.size w w2 := below_join hb hb2
  clear hb hb2 HI
  go_wp2_with fail
  go_ret3
  exact ⟨rfl, hb3⟩

theorem Get_ok (l : List Int) (v : Value) (w : World)
    (hread : Calls Tryz.prog 102 #[v] w fun e w' => e = .returned (.tuple #[.int .i64 (gval l), .int .i64 (gsz l), .nilIface]) ∧ w = w') :
    Calls Tryz.prog 56 #[v] w fun e w' => e = .returned (.tuple #[.int .i64 (gval l), .int .i64 (gsz l), .int .i64 0]) ∧ Below w.heap.size w w' := by
  have HR := hideIt hread
  clear hread
  go_enter Tryz.func56, Tryz.ntmps56
  go_wp2_with fail
  refine HR.out.mono ?_
  rintro e w1 ⟨rfl, rfl⟩
  clear HR
  go_wp2_with fail
  refine (IsNone_nil _).mono ?_
  rintro e w2 ⟨rfl, hb⟩
  go_wp2_with fail
  go_ret3
  exact ⟨rfl, hb⟩

theorem GetNumber_any (l : List Int) (v : Value) (w : World) (he : Env w) (hr : Reads w v l) :
    Calls Tryz.prog 56 #[v] w fun e w' => e = .returned (.tuple #[.int .i64 (gval l), .int .i64 (gsz l), .int .i64 (gerr l)]) ∧ Below w.heap.size w w' := by
  obtain ⟨hl, hm, h | h⟩ := hr
  · obtain ⟨rfl, ao, cap, rfl⟩ := h
    exact Get_err _ w he (Read_nil ao cap w)
  · obtain ⟨hp, b, off, cap, rfl, hcap, hc⟩ := h
    have h0 := hc 0 hp
    rw [Nat.add_zero] at h0
    by_cases hz : gsz l = 0
    · obtain ⟨e1, e2⟩ := g_none hz
      rw [e1, e2, hz]
      exact Get_err _ w he (Read_none l hl hp b off cap w he hm h0 hz)
    · have e2 : gerr l = 0 := by simp [gerr, hz]
      rw [e2]
      exact Get_ok l _ w (Read_some l hl hp b off cap w hcap hm hc hz)
end Go.Proofs.YthmdjhlhodpbhaaGreatDoor
