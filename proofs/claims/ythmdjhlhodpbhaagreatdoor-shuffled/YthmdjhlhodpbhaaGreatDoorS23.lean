/- Shuffled, 23 -/
import Derived.LaidEqlPtr
import Derived.Test.YthmdjhlhodpbhaaGreatDoorS09
import Derived.Test.YthmdjhlhodpbhaaGreatDoorS22
set_option maxHeartbeats 16000000
set_option maxRecDepth 8000
namespace Go.Proofs.YthmdjhlhodpbhaaGreatDoor
open Go.RowKit
theorem mapIs_at {α : Type} {C : MCode α} {P : Program} {K : TypeId} {w : World} {b : Nat} (h : w.heap[b]? = some (.map #[] 0)) : MapIs C P K w b 0 [] := by
 have hlt : b < w.heap.size := (Array.getElem?_eq_some_iff.1 h).1
 have h1 := mapIs_made (C := C) (P := P) (K := K) { w with heap := w.heap.extract 0 b }
 have hsz : ({ w with heap := w.heap.extract 0 b } : World).heap.size = b := by simp; omega
 rw [hsz] at h1
 refine h1.same ?_
 have h2 := heap_alloc_new { w with heap := w.heap.extract 0 b } (.map #[] 0)
 rw [hsz] at h2
 rw [h, h2]
def conFresh (g : Cfg) (cid addr : Int) (ok : Bool) : ConS := { conNew cid addr ok 0 0 g.c1 with streams := growS g.c2 [] g.c3.toNat }
def conFreshX (sm dm : Nat) : ConX := ⟨.slice none 0 0, sm, dm, [], [], fun _ => .slice none 0 0, fun _ => False⟩
theorem conFresh_streams (g : Cfg) (cid addr : Int) (ok : Bool) : (conFresh g cid addr ok).streams = List.replicate g.c3.toNat (strNew g.c2) := by simp [conFresh, growS]
theorem conFresh_at {w : World} {cb sm dm : Nat} {g : Cfg} {cid addr : Int} {ok : Bool} (hb : ConBlk w cb g (conFresh g cid addr ok) (.slice none 0 0) sm dm 0) (h1 : w.heap[sm]? = some (.map #[] 0)) (h2 : w.heap[dm]? = some (.map #[] 0)) (hne : sm ≠ dm) : ConAt 0 w cb g (conFresh g cid addr ok) (conFreshX sm dm) := by
 have hst := conFresh_streams g cid addr ok
 have hmem : ∀ (i : Nat) x, (conFresh g cid addr ok).streams[i]? = some x -> x = strNew g.c2 := by
  intro i x hx
  rw [hst] at hx
  exact (List.mem_replicate.1 (List.mem_of_getElem? hx)).2
 have hps : pastS (conFresh g cid addr ok).streams = 0 := by
  rw [hst]
  unfold pastS
  rw [List.filter_eq_nil_iff.2 (fun x hx => by rw [(List.mem_replicate.1 hx).2]; simp [strNew])]
  rfl
 refine ⟨by rw [hps]; exact hb, ⟨[], ⟨⟨rfl, Or.inl ⟨rfl, rfl⟩⟩, ⟨rfl, fun i v r hv => (by simp at hv)⟩⟩⟩, ⟨0, Nat.le_refl _, mapIs_at h1⟩, ⟨0, Nat.le_refl _, mapIs_at h2⟩, ⟨by simp [conFreshX], fun p hp => (by simp [conFreshX] at hp), fun i x hx _ _ => hmem i x hx⟩, fun p hp => (by simp [conFreshX] at hp), fun id => ?_, hne, fun p hp => (by simp [conFreshX] at hp), fun k hk => hk.elim⟩
 simp only [conFreshX]
 unfold doneAt
 split
 ·cases hx : (conFresh g cid addr ok).streams[id.toNat]? with
  | none => rfl
  | some x => rw [hmem _ x hx]; rfl
 ·rfl
structure CNewOut (w : World) (g : Cfg) (cid addr : Int) (ok : Bool) (e : Ending) (w' : World) : Prop where
 ex : ∃ cb sm dm, e = .returned (.pointer (some ⟨cb, 0, none⟩)) /\ ConAt 0 w' cb g (conFresh g cid addr ok) (conFreshX sm dm) /\ w.heap.size <= cb /\ w.heap.size <= sm /\ w.heap.size <= dm
 bel : Below w.heap.size w w'
def cfgVal (g : Cfg) : Value := .agg #[.int .i64 g.c0, .int .i64 g.c1, .int .i64 g.c2, .int .i64 g.c3, .int .i64 g.c4, .int .i64 g.c5, .int .i64 g.c6, .int .i64 g.c7, .int .i64 g.c8, .int .i64 g.c9]
theorem fresh_cells {g : Cfg} (hg : 1 <= g.c3) (cid addr : Int) (ok : Bool) (sm dm : Nat) : conC g (conFresh g cid addr ok) (.slice none 0 0) sm dm 0 = #[.int .i64 g.c0, .int .i64 g.c1, .int .i64 g.c2, .int .i64 g.c3, .int .i64 g.c4, .int .i64 g.c5, .int .i64 g.c6, .int .i64 g.c7, .int .i64 g.c8, .int .i64 g.c9, .int .i64 cid, .int .i64 addr, .bool ok, .int .i64 0, .int .i64 0, .int .i64 0, .int .i64 0, .slice none 0 0, .int .i64 g.c1, .int .i64 g.c1, .int .i64 g.c3, .map (some sm), .map (some dm), .int .i64 0] := by
 have hl : ((conFresh g cid addr ok).streams.length : Int) = g.c3 := by
  rw [conFresh_streams]
  simp
  omega
 unfold conC
 rw [hl]
 rfl
theorem new_close {w W : World} {g : Cfg} {cid addr : Int} {ok : Bool} {sm dm : Nat} (hg : 1 <= g.c3) (hW : Below w.heap.size w W) (h1 : W.heap[sm]? = some (.map #[] 0)) (h2 : W.heap[dm]? = some (.map #[] 0)) (hne : sm ≠ dm) (hs : w.heap.size <= sm) (hd : w.heap.size <= dm) :
  CNewOut w g cid addr ok (.returned (.pointer (some ⟨W.heap.size, 0, none⟩))) (W.alloc (.cells #[.int .i64 g.c0, .int .i64 g.c1, .int .i64 g.c2, .int .i64 g.c3, .int .i64 g.c4, .int .i64 g.c5, .int .i64 g.c6, .int .i64 g.c7, .int .i64 g.c8, .int .i64 g.c9, .int .i64 cid, .int .i64 addr, .bool ok, .int .i64 0, .int .i64 0, .int .i64 0, .int .i64 0, .slice none 0 0, .int .i64 g.c1, .int .i64 g.c1, .int .i64 g.c3, .map (some sm), .map (some dm), .int .i64 0] 137)) := by
 have hb := below_alloc W (.cells #[.int .i64 g.c0, .int .i64 g.c1, .int .i64 g.c2, .int .i64 g.c3, .int .i64 g.c4, .int .i64 g.c5, .int .i64 g.c6, .int .i64 g.c7, .int .i64 g.c8, .int .i64 g.c9, .int .i64 cid, .int .i64 addr, .bool ok, .int .i64 0, .int .i64 0, .int .i64 0, .int .i64 0, .slice none 0 0, .int .i64 g.c1, .int .i64 g.c1, .int .i64 g.c3, .map (some sm), .map (some dm), .int .i64 0] 137)
 refine ⟨⟨W.heap.size, sm, dm, rfl, conFresh_at ?_ ?_ ?_ hne, hW.size, hs, hd⟩, below_join hW hb⟩
 ·unfold ConBlk
  rw [fresh_cells hg]
  exact heap_alloc_new W _
 ·rw [hb.block sm (Array.getElem?_eq_some_iff.1 h1).1]; exact h1
 ·rw [hb.block dm (Array.getElem?_eq_some_iff.1 h2).1]; exact h2
theorem cNew_any (g : Cfg) (cid addr : Int) (ok : Bool) (w : World) (hg : 1 <= g.c3) :
  Calls Tryz.prog 145 #[cfgVal g, .int .i64 cid, .int .i64 addr, .bool ok] w fun e w' => CNewOut w g cid addr ok e w' := by
 have HK := hideIt (fun W => kNew_any g.c1 W)
 have HA : Hid (∀ W W' : World, Below W.heap.size W W' -> (W.cell? ⟨w.heap.size, 0, none⟩ = some (.int .i64 g.c0) /\ W.cell? ⟨w.heap.size, 1, none⟩ = some (.int .i64 g.c1) /\ W.cell? ⟨w.heap.size, 2, none⟩ = some (.int .i64 g.c2) /\ W.cell? ⟨w.heap.size, 3, none⟩ = some (.int .i64 g.c3) /\ W.cell? ⟨w.heap.size, 4, none⟩ = some (.int .i64 g.c4) /\ W.cell? ⟨w.heap.size, 5, none⟩ = some (.int .i64 g.c5) /\ W.cell? ⟨w.heap.size, 6, none⟩ = some (.int .i64 g.c6) /\ W.cell? ⟨w.heap.size, 7, none⟩ = some (.int .i64 g.c7) /\ W.cell? ⟨w.heap.size, 8, none⟩ = some (.int .i64 g.c8) /\ W.cell? ⟨w.heap.size, 9, none⟩ = some (.int .i64 g.c9)) -> (W'.cell? ⟨w.heap.size, 0, none⟩ = some (.int .i64 g.c0) /\ W'.cell? ⟨w.heap.size, 1, none⟩ = some (.int .i64 g.c1) /\ W'.cell? ⟨w.heap.size, 2, none⟩ = some (.int .i64 g.c2) /\ W'.cell? ⟨w.heap.size, 3, none⟩ = some (.int .i64 g.c3) /\ W'.cell? ⟨w.heap.size, 4, none⟩ = some (.int .i64 g.c4) /\ W'.cell? ⟨w.heap.size, 5, none⟩ = some (.int .i64 g.c5) /\ W'.cell? ⟨w.heap.size, 6, none⟩ = some (.int .i64 g.c6) /\ W'.cell? ⟨w.heap.size, 7, none⟩ = some (.int .i64 g.c7) /\ W'.cell? ⟨w.heap.size, 8, none⟩ = some (.int .i64 g.c8) /\ W'.cell? ⟨w.heap.size, 9, none⟩ = some (.int .i64 g.c9))) := fun W W' hb h => ⟨cell_below h.1 hb, cell_below h.2.1 hb, cell_below h.2.2.1 hb, cell_below h.2.2.2.1 hb, cell_below h.2.2.2.2.1 hb, cell_below h.2.2.2.2.2.1 hb, cell_below h.2.2.2.2.2.2.1 hb, cell_below h.2.2.2.2.2.2.2.1 hb, cell_below h.2.2.2.2.2.2.2.2.1 hb, cell_below h.2.2.2.2.2.2.2.2.2 hb⟩
 have HFa : Hid (∀ w1 : World, Below (w.alloc (.cells #[.int .i64 g.c0, .int .i64 g.c1, .int .i64 g.c2, .int .i64 g.c3, .int .i64 g.c4, .int .i64 g.c5, .int .i64 g.c6, .int .i64 g.c7, .int .i64 g.c8, .int .i64 g.c9] 26)).heap.size (w.alloc (.cells #[.int .i64 g.c0, .int .i64 g.c1, .int .i64 g.c2, .int .i64 g.c3, .int .i64 g.c4, .int .i64 g.c5, .int .i64 g.c6, .int .i64 g.c7, .int .i64 g.c8, .int .i64 g.c9] 26)) w1 -> CNewOut w g cid addr ok (.returned (.pointer (some ⟨w1.heap.size + 1 + 1, 0, none⟩))) (((w1.alloc (.map #[] 0)).alloc (.map #[] 0)).alloc (.cells #[.int .i64 g.c0, .int .i64 g.c1, .int .i64 g.c2, .int .i64 g.c3, .int .i64 g.c4, .int .i64 g.c5, .int .i64 g.c6, .int .i64 g.c7, .int .i64 g.c8, .int .i64 g.c9, .int .i64 cid, .int .i64 addr, .bool ok, .int .i64 0, .int .i64 0, .int .i64 0, .int .i64 0, .slice none 0 0, .int .i64 g.c1, .int .i64 g.c1, .int .i64 g.c3, .map (some w1.heap.size), .map (some (w1.heap.size + 1)), .int .i64 0] 137)) /\ CNewOut w g cid addr ok (.returned (.pointer (some ⟨w1.heap.size + 1 + 1, 0, none⟩))) (((w1.alloc (.map #[] 0)).alloc (.map #[] 0)).alloc (.cells #[.int .i64 g.c0, .int .i64 g.c1, .int .i64 g.c2, .int .i64 g.c3, .int .i64 g.c4, .int .i64 g.c5, .int .i64 g.c6, .int .i64 g.c7, .int .i64 g.c8, .int .i64 g.c9, .int .i64 cid, .int .i64 addr, .bool ok, .int .i64 0, .int .i64 0, .int .i64 0, .int .i64 0, .slice none 0 0, .int .i64 g.c1, .int .i64 g.c1, .int .i64 g.c3, .map (some (w1.heap.size + 1)), .map (some w1.heap.size), .int .i64 0] 137))) := by
  intro w1 hb
  have hw1 := below_join (below_alloc w (.cells #[.int .i64 g.c0, .int .i64 g.c1, .int .i64 g.c2, .int .i64 g.c3, .int .i64 g.c4, .int .i64 g.c5, .int .i64 g.c6, .int .i64 g.c7, .int .i64 g.c8, .int .i64 g.c9] 26)) hb
  have hW := below_join hw1 ((below_alloc w1 (.map #[] 0)).alloc (by simp) (.map #[] 0))
  have hz : ((w1.alloc (.map #[] 0)).alloc (.map #[] 0)).heap.size = w1.heap.size + 1 + 1 := by simp
  have e1 := heap_alloc2_old w1 (.map #[] 0) (.map #[] 0)
  have e2 := heap_alloc2_new w1 (.map #[] 0) (.map #[] 0)
  have n1 := new_close (cid := cid) (addr := addr) (ok := ok) hg hW e1 e2 (by omega) hw1.size (Nat.le_succ_of_le hw1.size)
  have n2 := new_close (cid := cid) (addr := addr) (ok := ok) hg hW e2 e1 (by omega) (Nat.le_succ_of_le hw1.size) hw1.size
  rw [hz] at n1 n2
  exact ⟨n1, n2⟩
 have HFb : Hid (∀ w1 : World, Below ((w.alloc (.cells #[.int .i64 g.c0, .int .i64 g.c1, .int .i64 g.c2, .int .i64 g.c3, .int .i64 g.c4, .int .i64 g.c5, .int .i64 g.c6, .int .i64 g.c7, .int .i64 g.c8, .int .i64 g.c9] 26)).alloc (.map #[] 0)).heap.size ((w.alloc (.cells #[.int .i64 g.c0, .int .i64 g.c1, .int .i64 g.c2, .int .i64 g.c3, .int .i64 g.c4, .int .i64 g.c5, .int .i64 g.c6, .int .i64 g.c7, .int .i64 g.c8, .int .i64 g.c9] 26)).alloc (.map #[] 0)) w1 -> CNewOut w g cid addr ok (.returned (.pointer (some ⟨w1.heap.size + 1, 0, none⟩))) ((w1.alloc (.map #[] 0)).alloc (.cells #[.int .i64 g.c0, .int .i64 g.c1, .int .i64 g.c2, .int .i64 g.c3, .int .i64 g.c4, .int .i64 g.c5, .int .i64 g.c6, .int .i64 g.c7, .int .i64 g.c8, .int .i64 g.c9, .int .i64 cid, .int .i64 addr, .bool ok, .int .i64 0, .int .i64 0, .int .i64 0, .int .i64 0, .slice none 0 0, .int .i64 g.c1, .int .i64 g.c1, .int .i64 g.c3, .map (some (w.heap.size + 1)), .map (some w1.heap.size), .int .i64 0] 137)) /\ CNewOut w g cid addr ok (.returned (.pointer (some ⟨w1.heap.size + 1, 0, none⟩))) ((w1.alloc (.map #[] 0)).alloc (.cells #[.int .i64 g.c0, .int .i64 g.c1, .int .i64 g.c2, .int .i64 g.c3, .int .i64 g.c4, .int .i64 g.c5, .int .i64 g.c6, .int .i64 g.c7, .int .i64 g.c8, .int .i64 g.c9, .int .i64 cid, .int .i64 addr, .bool ok, .int .i64 0, .int .i64 0, .int .i64 0, .int .i64 0, .slice none 0 0, .int .i64 g.c1, .int .i64 g.c1, .int .i64 g.c3, .map (some w1.heap.size), .map (some (w.heap.size + 1)), .int .i64 0] 137))) := by
  intro w1 hb
  have hw1 := below_join ((below_alloc w (.cells #[.int .i64 g.c0, .int .i64 g.c1, .int .i64 g.c2, .int .i64 g.c3, .int .i64 g.c4, .int .i64 g.c5, .int .i64 g.c6, .int .i64 g.c7, .int .i64 g.c8, .int .i64 g.c9] 26)).alloc (by simp) (.map #[] 0)) hb
  have hW := below_join hw1 (below_alloc w1 (.map #[] 0))
  have hz : (w1.alloc (.map #[] 0)).heap.size = w1.heap.size + 1 := by simp
  have hs1 : w.heap.size + 1 < w1.heap.size := by have := hb.size; simp at this; omega
  have e1 : (w1.alloc (.map #[] 0)).heap[w.heap.size + 1]? = some (.map #[] 0) := by
   rw [Below.heap_alloc _ _ _ hs1, hb.block _ (by simp)]
   exact heap_alloc2_new w (.cells #[.int .i64 g.c0, .int .i64 g.c1, .int .i64 g.c2, .int .i64 g.c3, .int .i64 g.c4, .int .i64 g.c5, .int .i64 g.c6, .int .i64 g.c7, .int .i64 g.c8, .int .i64 g.c9] 26) (.map #[] 0)
  have e2 := heap_alloc_new w1 (.map #[] 0)
  have n1 := new_close (cid := cid) (addr := addr) (ok := ok) hg hW e1 e2 (by omega) (by omega) (by omega)
  have n2 := new_close (cid := cid) (addr := addr) (ok := ok) hg hW e2 e1 (by omega) (by omega) (by omega)
  rw [hz] at n1 n2
  exact ⟨n1, n2⟩
 have HFc : Hid (∀ w1 : World, Below (((w.alloc (.cells #[.int .i64 g.c0, .int .i64 g.c1, .int .i64 g.c2, .int .i64 g.c3, .int .i64 g.c4, .int .i64 g.c5, .int .i64 g.c6, .int .i64 g.c7, .int .i64 g.c8, .int .i64 g.c9] 26)).alloc (.map #[] 0)).alloc (.map #[] 0)).heap.size (((w.alloc (.cells #[.int .i64 g.c0, .int .i64 g.c1, .int .i64 g.c2, .int .i64 g.c3, .int .i64 g.c4, .int .i64 g.c5, .int .i64 g.c6, .int .i64 g.c7, .int .i64 g.c8, .int .i64 g.c9] 26)).alloc (.map #[] 0)).alloc (.map #[] 0)) w1 -> CNewOut w g cid addr ok (.returned (.pointer (some ⟨w1.heap.size, 0, none⟩))) (w1.alloc (.cells #[.int .i64 g.c0, .int .i64 g.c1, .int .i64 g.c2, .int .i64 g.c3, .int .i64 g.c4, .int .i64 g.c5, .int .i64 g.c6, .int .i64 g.c7, .int .i64 g.c8, .int .i64 g.c9, .int .i64 cid, .int .i64 addr, .bool ok, .int .i64 0, .int .i64 0, .int .i64 0, .int .i64 0, .slice none 0 0, .int .i64 g.c1, .int .i64 g.c1, .int .i64 g.c3, .map (some (w.heap.size + 1)), .map (some (w.heap.size + 1 + 1)), .int .i64 0] 137)) /\ CNewOut w g cid addr ok (.returned (.pointer (some ⟨w1.heap.size, 0, none⟩))) (w1.alloc (.cells #[.int .i64 g.c0, .int .i64 g.c1, .int .i64 g.c2, .int .i64 g.c3, .int .i64 g.c4, .int .i64 g.c5, .int .i64 g.c6, .int .i64 g.c7, .int .i64 g.c8, .int .i64 g.c9, .int .i64 cid, .int .i64 addr, .bool ok, .int .i64 0, .int .i64 0, .int .i64 0, .int .i64 0, .slice none 0 0, .int .i64 g.c1, .int .i64 g.c1, .int .i64 g.c3, .map (some (w.heap.size + 1 + 1)), .map (some (w.heap.size + 1)), .int .i64 0] 137))) := by
  intro w1 hb
  have hW := below_join (((below_alloc w (.cells #[.int .i64 g.c0, .int .i64 g.c1, .int .i64 g.c2, .int .i64 g.c3, .int .i64 g.c4, .int .i64 g.c5, .int .i64 g.c6, .int .i64 g.c7, .int .i64 g.c8, .int .i64 g.c9] 26)).alloc (by simp) (.map #[] 0)).alloc (by simp <;> omega) (.map #[] 0)) hb
  have e1 : w1.heap[w.heap.size + 1]? = some (.map #[] 0) := by
   rw [hb.block _ (by simp <;> omega), Below.heap_alloc _ _ _ (by simp)]
   exact heap_alloc2_new w (.cells #[.int .i64 g.c0, .int .i64 g.c1, .int .i64 g.c2, .int .i64 g.c3, .int .i64 g.c4, .int .i64 g.c5, .int .i64 g.c6, .int .i64 g.c7, .int .i64 g.c8, .int .i64 g.c9] 26) (.map #[] 0)
  have e2 : w1.heap[w.heap.size + 1 + 1]? = some (.map #[] 0) := by
   rw [hb.block _ (by simp)]
   have := heap_alloc2_new (w.alloc (.cells #[.int .i64 g.c0, .int .i64 g.c1, .int .i64 g.c2, .int .i64 g.c3, .int .i64 g.c4, .int .i64 g.c5, .int .i64 g.c6, .int .i64 g.c7, .int .i64 g.c8, .int .i64 g.c9] 26)) (.map #[] 0) (.map #[] 0)
   simpa using this
  have hs1 := hb.size
  simp at hs1
  exact ⟨new_close hg hW e1 e2 (by omega) (by omega) (by omega), new_close hg hW e2 e1 (by omega) (by omega) (by omega)⟩
 have hmk1 : ∀ W : World, (Instr.makeMap 134 none).run Tryz.prog W = .ok (.map (some W.heap.size)) (W.alloc (.map #[] 0)) := fun W => by simp [Instr.makeMap]
 have hmk2 : ∀ W : World, (Instr.makeMap 135 none).run Tryz.prog W = .ok (.map (some W.heap.size)) (W.alloc (.map #[] 0)) := fun W => by simp [Instr.makeMap]
 unfold cfgVal
 go_enter Tryz.func145, Tryz.ntmps145
 go_wp2_with fail
 go_region_held3 (fun w' => w'.cell? ⟨w.heap.size, 0, none⟩ = some (.int .i64 g.c0) /\ w'.cell? ⟨w.heap.size, 1, none⟩ = some (.int .i64 g.c1) /\ w'.cell? ⟨w.heap.size, 2, none⟩ = some (.int .i64 g.c2) /\ w'.cell? ⟨w.heap.size, 3, none⟩ = some (.int .i64 g.c3) /\ w'.cell? ⟨w.heap.size, 4, none⟩ = some (.int .i64 g.c4) /\ w'.cell? ⟨w.heap.size, 5, none⟩ = some (.int .i64 g.c5) /\ w'.cell? ⟨w.heap.size, 6, none⟩ = some (.int .i64 g.c6) /\ w'.cell? ⟨w.heap.size, 7, none⟩ = some (.int .i64 g.c7) /\ w'.cell? ⟨w.heap.size, 8, none⟩ = some (.int .i64 g.c8) /\ w'.cell? ⟨w.heap.size, 9, none⟩ = some (.int .i64 g.c9)) (first | assumption | exact HA.out _ _ (below_alloc _ _) (by assumption) | go_keep) (first
  | (go_at_call 165; refine (HK.out _).mono ?_; rintro e w1 ⟨rfl, hb1⟩; have hSq := HA.out _ _ hb1 (by assumption)))
 ·have HE := hideIt (HFa.out w1 (below_undrew hb1)).1
  clear hb1 HFa HFb HFc HK HA hmk1 hmk2
  go_wp2_with fail
  go_ret
  exact HE.out
 ·have HE := hideIt (HFa.out w1 (below_undrew hb1)).2
  clear hb1 HFa HFb HFc HK HA hmk1 hmk2
  go_wp2_with fail
  go_ret
  exact HE.out
 ·have HE := hideIt (HFb.out w1 (below_undrew hb1)).1
  clear hb1 HFa HFb HFc HK HA hmk1 hmk2
  go_wp2_with fail
  go_ret
  exact HE.out
 ·have HE := hideIt (HFc.out w1 (below_undrew hb1)).1
  clear hb1 HFa HFb HFc HK HA hmk1 hmk2
  go_wp2_with fail
  go_ret
  exact HE.out
 ·have HE := hideIt (HFb.out w1 (below_undrew hb1)).2
  clear hb1 HFa HFb HFc HK HA hmk1 hmk2
  go_wp2_with fail
  go_ret
  exact HE.out
 ·have HE := hideIt (HFc.out w1 (below_undrew hb1)).2
  clear hb1 HFa HFb HFc HK HA hmk1 hmk2
  go_wp2_with fail
  go_ret
  exact HE.out
theorem wRetry_any (cid : Int) (tk : List Int) (tv : Value) (w : World) (hc : 0 <= cid /\ cid <= 1073741823) (ht : RdB w tv tk) (h9 : tk.length = 9) :
  Calls Tryz.prog 147 #[.int .i64 cid, tv] w fun e w' => ∃ v, e = .returned v /\ w'.ownsRow w.heap.size 5 1 v ([3] ++ putL cid ++ putL 9 ++ tk).length (U8 ([3] ++ putL cid ++ putL 9 ++ tk)) /\ Below w.heap.size w w' := by
 obtain ⟨i0, hi, hz0, hz1, hz2⟩ := info_parts info_u8
 have hpl := putL_len cid
 obtain ⟨hbt, _, ba, bc, rfl, hbc, _, _, hp⟩ := id ht
 obtain ⟨tb, to_, _, _, rfl, _, _⟩ := hp (by omega)
 have HTR := hideIt ht
 have hp9 : putL 9 = [9] := rfl
 have HL : Hid (U8 [3] ++ U8 (putL cid) ++ U8 [9] ++ U8 tk = U8 ([3] ++ putL cid ++ putL 9 ++ tk) /\ ([3] ++ putL cid ++ putL 9 ++ tk).length = 1 + (putL cid).length + 1 + 9) := by
  refine ⟨by rw [hp9]; simp [U8], by rw [hp9]; simp [h9]; omega⟩
 obtain ⟨L, hL⟩ : ∃ L, [3] ++ putL cid ++ putL 9 ++ tk = L := ⟨_, rfl⟩
 rw [hL] at HL ⊢
 clear hL
 have HUl : Hid ((U8 tk).length = 9) := by show _ = _; rw [U8_length, h9]
 have H9 := hideIt h9
 rw [h9]
 clear ht hp h9
 go_enter Tryz.func147, Tryz.ntmps147
 go_wp2_with fail
 refine (wAppendNumber_any cid hc.1 hc.2 w.heap.size _ 1 (U8 [3]) _ (own_lit w 5 (U8 [3]) (by simp [U8, maxLen])) (by simp) (by decide)).mono ?_
 rintro e w1 ⟨v1, rfl, hown1, hg1⟩
 have b1 : Below w.heap.size w w1 := (below_alloc w _).grown hg1 (by simp) (fun g hg => by simp [Value.ownBlock] at hg; omega)
 obtain ⟨a1, c1, rfl⟩ := own_form hown1
 have HO1 := hideIt hown1
 have HB1 := hideIt b1
 clear hown1 hg1 b1
 go_wp2_with fail
 refine (wAppendNumber_any 9 (by decide) (by decide) w.heap.size _ _ _ w1 HO1.out HB1.out.size (by omega)).mono ?_
 rintro e w2 ⟨v2, rfl, hown2, hg2⟩
 have b2 : Below w.heap.size w w2 := HB1.out.grown hg2 HB1.out.size (fun g hg => (HO1.out.lt g hg).1)
 rw [hp9] at hown2
 obtain ⟨a2, c2, rfl⟩ := own_form hown2
 have HTR2 := hideIt (HTR.out.below b2)
 have hcells : ∀ (j : Nat) u, (U8 tk)[j]? = some u -> w2.cell? ((⟨tb, to_, none⟩ : Addr).add j) = some u := by
  intro j u hj
  have hjl := (List.getElem?_eq_some_iff.1 hj).1
  rw [U8_length] at hjl
  have h1 := HTR2.out.cell j hjl
  simp only [U8, List.getElem?_map, List.getElem?_eq_getElem hjl, Option.map_some, Option.some.injEq] at hj
  rw [<- hj]
  rw [Addr.add_lit, h1]
  simp [List.getD, List.getElem?_eq_getElem hjl]
 have HCs := hideIt hcells
 have HO2 := hideIt hown2
 have HB2 := hideIt b2
 clear hown2 hg2 b2 HO1 HB1 hcells
 have hz := HB2.out.size
 go_wp2_with (at_builtin; refine wpList_append_own _ rfl _ _ 44 rfl w.heap.size 5 i0 (.int .u8 0) 1 1 Tryz.underlying44 hi hz0 hz1 hz2 rfl (by decide) _ _ _ rfl HO2.out ⟨tb, to_, none⟩ 9 bc (U8 tk) rfl (by rw [HUl.out]) HCs.out (u8_one _) (by unfold maxLen; simp; omega) (by simp; omega) hz ?_; intro v3 w3 hown3 hg3 _)
 have b3 : Below w.heap.size w w3 := HB2.out.grown hg3 HB2.out.size (fun g hg => (HO2.out.lt g hg).1)
 go_ret
 refine ⟨_, rfl, ?_, b3⟩
 rw [HL.out.2, <- HL.out.1]
 exact hown3
def IsBlk (w : World) (b : Nat) : Prop := ∃ cs t, w.heap[b]? = some (.cells cs t (0, 0))
theorem eql_con {w : World} {p q : Nat} (hp : IsBlk w p) (hq : IsBlk w q) : (binOp .eql 97 (.pointer (some ⟨p, 0, none⟩)) (.pointer (some ⟨q, 0, none⟩))).run Tryz.prog w = .ok (.bool (decide (p = q))) w := by
 obtain ⟨j, hj, hz⟩ : ∃ j, Tryz.prog.info? 137 = some j /\ j.size ≠ 0 := by
  have h : (Tryz.prog.info? 137).map (fun i => i.size) = some 24 := by kernel_rfl
  cases hi : Tryz.prog.info? 137 with
  | none => rw [hi] at h; cases h
  | some j => rw [hi] at h; simp at h; exact ⟨j, rfl, by omega⟩
 by_cases h : p = q
 ·subst h
  rw [decide_eq_true rfl]
  exact run_eql_ptr_same w ⟨p, 0, none⟩ Tryz.underlying97 hj
 ·rw [decide_eq_false h]
  obtain ⟨c1, t1, h1⟩ := hp
  obtain ⟨c2, t2, h2⟩ := hq
  exact run_eql_ptr_other w Tryz.underlying97 hj hz (fun e => h (by injection e)) h1 h2
theorem swnm1_any (p q pb : Nat) (w : World) (hp : IsBlk w p) (hq : IsBlk w q) (hc : w.cell? ⟨pb, 0, none⟩ = some (.pointer (some ⟨q, 0, none⟩))) :
  Calls Tryz.prog 100 #[.pointer (some ⟨p, 0, none⟩), .pointer (some ⟨pb, 0, none⟩)] w fun e w' => e = .returned (.bool (decide (p = q))) /\ w = w' := by
 have he := eql_con hp hq
 clear hp hq
 generalize decide (p = q) = B at he ⊢
 go_enter Tryz.func100, Tryz.ntmps100
 go_wp2_with fail
 go_ret
 exact ⟨rfl, rfl⟩
def idxP (l : List Nat) (q : Nat) : Int := match l.findIdx? fun b => b == q with
 | some k => k
 | none => -1
theorem IdxFuncC_any (ws : List Nat) (lv : Value) (q pb : Nat) (w : World) (hown : w.ownsRow 0 97 1 lv ws.length (ptrs ws)) (hn : ws.length <= 1000) (hb : ∀ b ∈ ws, IsBlk w b) (hq : IsBlk w q) (hc : w.cell? ⟨pb, 0, none⟩ = some (.pointer (some ⟨q, 0, none⟩))) :
  Calls Tryz.prog 153 #[lv, .func (.func 100) #[] #[.pointer (some ⟨pb, 0, none⟩)]] w fun e w' => e = .returned (.int .i64 (idxP ws q)) /\ w = w' := by
 obtain ⟨ao, cap, rfl⟩ := own_formN hown
 have HO := hideIt hown
 have HS := hideIt (fun p hp => swnm1_any p q pb w (hb p hp) hq hc)
 clear hown hb hq hc
 go_enter Tryz.func153, Tryz.ntmps153
 go_wp2_with fail
 go_loop [8] (fun i => ∃ k : Nat, k <= ws.length /\ i = .int .i64 k /\ Hid (∀ (j : Nat) b, j < k -> ws[j]? = some b -> b ≠ q)) (fun i => ws.length - (intOf i).toNat)
 case atStart => exact ⟨0, Nat.zero_le _, rfl, fun j b hj => by omega⟩
 case round =>
  obtain ⟨k, hk, rfl, hno⟩ := hrel
  by_cases hlt : k < ws.length
  ·obtain ⟨p, hp⟩ : ∃ p, ws[k]? = some p := ⟨_, List.getElem?_eq_getElem hlt⟩
   rcases HO.out.2 with ⟨_, h0⟩ | ⟨g, cap', cur, e3, _, hg, hnc, hcm, hcs, htk⟩
   ·omega
   simp only [Value.slice.injEq] at e3
   obtain ⟨rfl, _, rfl⟩ := e3
   have c1 : w.cell? ⟨g, k, none⟩ = some (.pointer (some ⟨p, 0, none⟩)) := by
    rw [HO.out.cellAt k (by omega)]
    simp [ptrs, hp, ptrV]
   have HC := hideIt (HS.out p (List.mem_of_getElem? hp))
   have HP := hideIt hp
   have HN := hideIt hno
   clear hg htk hcs hcm hp hno
   go_wp2_with fail
   refine HC.out.mono ?_
   rintro e w1 ⟨rfl, rfl⟩
   clear HC c1
   by_cases hpq : p = q
   ·rw [decide_eq_true hpq]
    go_wp2_with fail
    go_ret
    refine ⟨?_, rfl⟩
    have hf : ws.findIdx? (fun b => b == q) = some k := by
     rw [List.findIdx?_eq_some_iff_getElem]
     refine ⟨hlt, ?_, fun j hj => ?_⟩
     ·have := HP.out
      rw [List.getElem?_eq_getElem hlt] at this
      simp only [Option.some.injEq] at this
      simp [this, hpq]
     ·have := HN.out j _ hj (List.getElem?_eq_getElem (Nat.lt_trans hj hlt))
      simpa using this
    unfold idxP
    rw [hf]
    rfl
   ·rw [decide_eq_false hpq]
    go_wp2_with fail
    go_round
    case rel =>
     refine ⟨k + 1, by omega, by go_num, fun j b hj hb => ?_⟩
     rcases Nat.lt_or_ge j k with h3 | h3
     ·exact HN.out j b h3 hb
     ·obtain rfl : j = k := by omega
      obtain rfl := Option.some.inj (HP.out.symm.trans hb)
      exact hpq
    case measure => simp [intOf]; omega
  ·obtain rfl : k = ws.length := by omega
   have HN := hideIt hno
   clear hno
   go_wp2_with fail
   go_ret
   refine ⟨?_, rfl⟩
   have hf : ws.findIdx? (fun b => b == q) = none := by
    rw [List.findIdx?_eq_none_iff]
    intro b hb
    obtain ⟨j, hj, rfl⟩ := List.getElem_of_mem hb
    have := HN.out j _ hj (List.getElem?_eq_getElem hj)
    simpa using this
   unfold idxP
   rw [hf]
   rfl
def keepTo (ws : List Nat) (q j : Nat) : List Nat := (ws.take j).filter fun b => b != q
theorem keepTo_succ {ws : List Nat} {q j p : Nat} (h : ws[j]? = some p) : keepTo ws q (j + 1) = keepTo ws q j ++ if p = q then [] else [p] := by
 unfold keepTo
 rw [List.take_add_one, h, List.filter_append]
 by_cases e : p = q
 ·simp [e]
 ·simp [e]
theorem keepTo_len (ws : List Nat) (q j : Nat) : (keepTo ws q j).length <= j := by
 unfold keepTo
 have := List.length_filter_le (fun b => b != q) (ws.take j)
 simp at this
 omega
theorem keepTo_lt {ws : List Nat} {q k j : Nat} (h : ws[k]? = some q) (hk : k < j) (hj : j <= ws.length) : (keepTo ws q j).length < j := by
 induction j with
 | zero => omega
 | succ j ih =>
  obtain ⟨p, hp⟩ : ∃ p, ws[j]? = some p := ⟨_, List.getElem?_eq_getElem (by omega)⟩
  rw [keepTo_succ hp]
  rcases Nat.lt_or_ge k j with h1 | h1
  ·have := ih h1 (by omega)
   split <;> simp <;> omega
  ·obtain rfl : k = j := by omega
   rw [h] at hp
   simp only [Option.some.injEq] at hp
   subst hp
   simp
   have := keepTo_len ws q k
   omega
theorem keepTo_all (ws : List Nat) (q : Nat) : keepTo ws q ws.length = ws.filter fun b => b != q := by unfold keepTo; rw [List.take_length]
theorem idxP_none {ws : List Nat} {q : Nat} (h : q ∉ ws) : idxP ws q = -1 /\ (ws.filter fun b => b != q) = ws := by
 constructor
 ·unfold idxP
  rw [List.findIdx?_eq_none_iff.2 (fun b hb => by simp; intro e; exact h (e ▸ hb))]
 ·rw [List.filter_eq_self]
  intro b hb
  simp
  intro e
  exact h (e ▸ hb)
theorem idxP_some {ws : List Nat} {q : Nat} (h : q ∈ ws) : ∃ k, idxP ws q = (k : Nat) /\ ws[k]? = some q /\ keepTo ws q (k + 1) = ws.take k := by
 cases hf : ws.findIdx? (fun b => b == q) with
 | none =>
  rw [List.findIdx?_eq_none_iff] at hf
  have := hf q h
  simp at this
 | some k =>
  obtain ⟨hk, h1, h2⟩ := List.findIdx?_eq_some_iff_getElem.1 hf
  have hq : ws[k]? = some q := by rw [List.getElem?_eq_getElem hk]; simpa using h1
  refine ⟨k, by unfold idxP; rw [hf], hq, ?_⟩
  rw [keepTo_succ hq, if_pos rfl, List.append_nil]
  unfold keepTo
  rw [List.filter_eq_self]
  intro b hb
  obtain ⟨j, hj, rfl⟩ := List.getElem_of_mem hb
  have hj2 : j < k := by simp at hj; omega
  have := h2 j hj2
  simp at this ⊢
  exact this
def IsConB (w : World) (b : Nat) : Prop := ∃ cs, w.heap[b]? = some (.cells cs 137 (0, 0))
theorem IsConB.blk {w : World} {b : Nat} (h : IsConB w b) : IsBlk w b := by obtain ⟨cs, h⟩ := h; exact ⟨cs, _, h⟩
theorem IsConB.kept {w w' : World} {b g : Nat} {cur : Array Value} (h : IsConB w b) (hg : w.heap[g]? = some (.cells cur 97 (0, 0))) (hw : w.grownBy w' (some g)) : IsConB w' b := by
 obtain ⟨cs, h⟩ := h
 refine ⟨cs, ?_⟩
 rw [hw.block b (Array.getElem?_eq_some_iff.1 h).1 (fun e => ?_)]
 ·exact h
 ·injection e with e
  subst e
  rw [h] at hg
  simp only [Option.some.injEq, Obj.cells.injEq] at hg
  exact absurd hg.2.1 (by decide)
theorem info_conp : (Tryz.prog.info? 97).map (fun i => (i.zero, i.size, i.bytes)) = some (some (.pointer none), 1, 8) := by kernel_rfl
theorem sizeOf_conp (w : World) : (Go.sizeOf 97).run Tryz.prog w = .ok 1 w := by kernel_rfl
theorem zero_conp (w : World) : (zeroValue 97).run Tryz.prog w = .ok (.pointer none) w := by kernel_rfl
theorem DelFuncC_any (ws : List Nat) (lv : Value) (q pb : Nat) (w : World) (hown : w.ownsRow 0 97 1 lv ws.length (ptrs ws)) (hn : ws.length <= 1000) (hb : ∀ b ∈ ws, IsConB w b) (hq : IsConB w q) (hc : w.cell? ⟨pb, 0, none⟩ = some (.pointer (some ⟨q, 0, none⟩))) (hpb : lv.ownBlock ≠ some pb) :
  Calls Tryz.prog 99 #[lv, .func (.func 100) #[] #[.pointer (some ⟨pb, 0, none⟩)]] w fun e w' => ∃ lv', e = .returned lv' /\ w'.ownsRow 0 97 1 lv' (ws.filter fun b => b != q).length (ptrs (ws.filter fun b => b != q)) /\ w.grownBy w' lv.ownBlock /\ lv'.ownBlock = lv.ownBlock := by
 have HI := hideIt (IdxFuncC_any ws lv q pb w hown hn (fun b h => (hb b h).blk) hq.blk hc)
 by_cases hm : q ∈ ws
 ·obtain ⟨k, hk1, hk2, hk3⟩ := idxP_some hm
  rw [hk1] at HI
  have hkl := (List.getElem?_eq_some_iff.1 hk2).1
  rcases hown.2 with ⟨_, h0⟩ | ⟨g, cap, cur, rfl, _, hg, hnc, hcm, hcs, htk⟩
  ·omega
  have HClo : Hid (∀ (wr : World) (p : Nat), w.grownBy wr (some g) -> p ∈ ws -> Calls Tryz.prog 100 #[.pointer (some ⟨p, 0, none⟩), .pointer (some ⟨pb, 0, none⟩)] wr fun e w' => e = .returned (.bool (decide (p = q))) /\ wr = w') := by
   intro wr p hw hp
   refine swnm1_any p q pb wr ((hb p hp).kept hg hw).blk (hq.kept hg hw).blk ?_
   rw [World.cell?_of_block (a := ⟨pb, 0, none⟩) (w := w) (hw.block pb (cell_lt hc) (fun e => hpb e.symm))]
   exact hc
  obtain ⟨n, hnn⟩ : ∃ n, ws.length = n := ⟨_, rfl⟩
  have HNn := hideIt hnn
  have H0 : Hid (w.ownsRow 0 97 1 (.slice (some ⟨g, 0, none⟩) n cap) n (ptrs ws)) := by rw [hnn] at hown; exact hown
  rw [hnn] at HI hn hnc hkl ⊢
  have hcm' : cap <= 9223372036854775807 := by unfold maxLen at hcm; omega
  have HCm := hideIt hcm
  have HK2 := hideIt hk2
  have HK3 := hideIt hk3
  have u1 := run_underlying Tryz.underlying99
  clear hown hb hq hc hpb hm hk1 hk2 hk3 htk hcs hcm hnn
  go_enter Tryz.func99, Tryz.ntmps99
  go_wp2_with fail
  refine HI.out.mono ?_
  rintro e w1 ⟨rfl, rfl⟩
  clear HI
  have hkb : ((k : Int) == -1) = false := beq_eq_false_iff_ne.2 (by omega)
  go_wp2_with fail
  go_loopw [5, 6] (fun iv jv wr => ∃ (j : Nat) (L : List Nat), k + 1 <= j /\ j <= n /\ jv = .int .i64 j /\ iv = .int .i64 ((keepTo ws q j).length : Nat) /\ Hid (wr.ownsRow 0 97 1 (.slice (some ⟨g, 0, none⟩) n cap) n (ptrs L) /\ L.length = n /\ L.take (keepTo ws q j).length = keepTo ws q j /\ L.drop j = ws.drop j /\ w.grownBy wr (some g))) (fun _ jv _ => n - (intOf jv).toNat)
  case atStart =>
   refine ⟨k + 1, ws, Nat.le_refl _, hkl, by go_num, ?_, H0.out, HNn.out, ?_, rfl, ?_⟩
   ·rw [HK3.out]
    have := HNn.out
    congr 1
    simp
    omega
   ·rw [HK3.out]
    simp
   ·exact ⟨rfl, rfl, rfl, Nat.le_refl _, fun _ _ _ => rfl⟩
  case round =>
   obtain ⟨j, L, hj1, hj2, rfl, rfl, HR⟩ := hrel
   by_cases hlt : j < n
   ·obtain ⟨p, hp⟩ : ∃ p, ws[j]? = some p := ⟨_, List.getElem?_eq_getElem (by rw [HNn.out]; exact hlt)⟩
    have hLp : L[j]? = some p := by
     have h1 : (L.drop j)[0]? = (ws.drop j)[0]? := by rw [HR.out.2.2.2.1]
     rw [List.getElem?_drop, List.getElem?_drop, Nat.add_zero] at h1
     rw [h1, hp]
    have c1 : wr.cell? ⟨g, j, none⟩ = some (.pointer (some ⟨p, 0, none⟩)) := by
     rw [HR.out.1.cellAt j (by omega)]
     simp [ptrs, hLp, ptrV]
    have HC := hideIt (HClo.out wr p HR.out.2.2.2.2 (List.mem_of_getElem? hp))
    have hmj : (keepTo ws q j).length < j := keepTo_lt HK2.out (by omega) (by rw [HNn.out]; omega)
    have HS := hideIt (keepTo_succ (q := q) hp)
    have HLp := hideIt hLp
    clear hLp hp
    by_cases hpq : p = q
    ·rw [decide_eq_true hpq] at HC
     have HS1 : Hid (keepTo ws q (j + 1) = keepTo ws q j) := by
      show _ = _
      rw [HS.out, if_pos hpq, List.append_nil]
     clear HS
     have HPQ := hideIt hpq
     clear hpq
     have HM := hideIt hmj
     generalize hgm : (keepTo ws q j).length = m at *
     have HGm := hideIt hgm
     clear hgm hmj
     go_wp2_with fail
     refine HC.out.mono ?_
     rintro e w2 ⟨rfl, rfl⟩
     clear HC
     go_wp2_with fail
     go_roundw
     case rel =>
      obtain ⟨r1, r2, r3, r4, r5⟩ := HR.out
      refine ⟨j + 1, L, by omega, by omega, by go_num, by rw [HS1.out, HGm.out], r1, r2, by rw [HS1.out, HGm.out]; exact r3, ?_, r5⟩
      rw [<- List.drop_drop, <- List.drop_drop, r4]
     case measure => simp [intOf]; omega
    ·rw [decide_eq_false hpq] at HC
     have HS1 : Hid (keepTo ws q (j + 1) = keepTo ws q j ++ [p]) := by
      show _ = _
      rw [HS.out, if_neg hpq]
     obtain ⟨r1, r2, r3, r4, r5⟩ := HR.out
     have hml : (keepTo ws q j).length < L.length := by omega
     have d1 : ∃ old, wr.cell? ⟨g, (keepTo ws q j).length, none⟩ = some old := by
      rw [r1.cellAt _ (by omega)]
      exact ⟨_, List.getElem?_eq_getElem (by rw [ptrs_length]; exact hml)⟩
     obtain ⟨old, d1⟩ := d1
     obtain ⟨cur1, hg1⟩ := own_blockN r1 rfl
     have z1 : wr.frozen? ⟨g, (keepTo ws q j).length, none⟩ = false := frozen_of_row wr g _ _ _ hg1
     have HSt := hideIt (r1.stored (keepTo ws q j).length (.pointer (some ⟨p, 0, none⟩)))
     have HT3 := hideIt (And.intro r2 (And.intro r3 (And.intro r4 r5)))
     clear r1 r2 r3 r4 r5 HS hg1 hpq HR
     have HMl := hideIt hml
     have HMj := hideIt hmj
     generalize hgm : (keepTo ws q j).length = m at d1 z1 HSt HT3 HMl HMj ⊢
     have HGm := hideIt hgm
     have hmn : (m : Int) < (n : Int) := by have := HMj.out; omega
     clear hgm hmj hml
     go_wp2_with fail
     refine HC.out.mono ?_
     rintro e w2 ⟨rfl, rfl⟩
     clear HC
     go_wp2_with fail
     go_roundw
     case rel =>
      obtain ⟨r2, r3, r4, r5⟩ := HT3.out
      refine ⟨j + 1, L.set m p, by omega, by omega, by go_num, ?_, ?_, by simp [r2], ?_, ?_, ?_⟩
      ·rw [HS1.out, List.length_append, HGm.out]
       go_num
      ·have h1 := HSt.out.1
       have h2 : (ptrs L).set m (.pointer (some ⟨p, 0, none⟩)) = ptrs (L.set m p) := by simp [ptrs, ptrV, List.map_set]
       rw [h2] at h1
       exact h1
      ·rw [HS1.out, List.length_append, HGm.out]
       simp only [List.length_cons, List.length_nil, Nat.zero_add]
       rw [List.take_add_one, List.take_set_of_le (Nat.le_refl _), r3, List.getElem?_set_self (by have := HMl.out; omega)]
       rfl
      ·rw [List.drop_set_of_lt (by have := HMj.out; omega), <- List.drop_drop, <- List.drop_drop, r4]
      ·refine grown_trans r5 HSt.out.2 (Or.inl rfl)
     case measure => simp [intOf]; omega
   ·obtain rfl : j = n := by omega
    obtain ⟨r1, r2, r3, r4, r5⟩ := HR.out
    have hmj : (keepTo ws q j).length < j := keepTo_lt HK2.out (by omega) (by rw [HNn.out]; omega)
    rcases r1.2 with ⟨e, _⟩ | ⟨g', cap', cur1, e, _, hg1, hnc1, hcm1, hcs1, htk1⟩
    ·cases e
    simp only [Value.slice.injEq, Option.some.injEq, Addr.mk.injEq, and_true, true_and] at e
    obtain ⟨rfl, rfl⟩ := e
    have HAll : Hid (keepTo ws q j = ws.filter fun b => b != q) := by
     show _ = _
     rw [<- keepTo_all, HNn.out]
    obtain ⟨m, hgm⟩ : ∃ m, (keepTo ws q j).length = m := ⟨_, rfl⟩
    rw [hgm] at r3 hmj ⊢
    have hsl1 : ∀ W : World, (Instr.slice 99 (.slice (some ⟨g, 0, none⟩) j cap) (some (.int .i64 (m : Int))) none none).run Tryz.prog W = .ok (.slice (some ⟨g, m, none⟩) (j - m) (cap - m)) W := fun W => by
     rw [wslice_low W Tryz.underlying99 (sizeOf_conp W) (by omega), if_neg (by omega)]
     simp [Addr.add_lit]
    have hsl2 : ∀ W : World, (Instr.slice 99 (.slice (some ⟨g, 0, none⟩) j cap) none (some (.int .i64 (m : Int))) none).run Tryz.prog W = .ok (.slice (some ⟨g, 0, none⟩) m cap) W := fun W => by
     have h1 : m <= cap := by omega
     simp [Instr.slice, Instr.sliceBounds, Instr.sliceBound, asIntOf, run_underlying Tryz.underlying99, sizeOf_conp W, h1, Addr.add]
    have HClr := hideIt (fun ty => run_clear_rowN (P := Tryz.prog) wr 99 97 ty (.pointer none) Tryz.underlying99 (zero_conp wr) g m (j - m) (cap - m) (by omega) cur1 97 hg1 (by simp [Value.cells]; omega) (by simp [Value.cells, Value.oneCell']))
    have hR0 : (List.replicate (j - m) (Value.pointer none).cells.toList).flatten.length = j - m := by simp [Value.cells]
    obtain ⟨ZS, hZS⟩ : ∃ ZS, (List.replicate (j - m) (Value.pointer none).cells.toList).flatten = ZS := ⟨_, rfl⟩
    rw [hZS] at HClr hR0
    have HFin : Hid ((wr.setRow g (overV cur1.toList m ZS).toArray).ownsRow 0 97 1 (.slice (some ⟨g, 0, none⟩) m cap) (ws.filter fun b => b != q).length (ptrs (ws.filter fun b => b != q)) /\ w.grownBy (wr.setRow g (overV cur1.toList m ZS).toArray) (some g)) := by
     have hlen : (ws.filter fun b => b != q).length = m := by rw [<- HAll.out, hgm]
     rw [hlen]
     have hol : (overV cur1.toList m ZS).length = cur1.toList.length := overV_length (by rw [hR0]; simp; omega)
     refine ⟨⟨by rw [ptrs_length, hlen]; omega, .inr ⟨g, cap, _, rfl, Nat.zero_le _, setRow_heap wr g cur1 _ _ _ hg1, by omega, HCm.out, by rw [List.size_toArray, hol]; simpa using hcs1, ?_⟩⟩, ?_⟩
     ·rw [Nat.mul_one]
      have h1 : (overV cur1.toList m ZS).take m = cur1.toList.take m := by
       unfold overV
       rw [List.append_assoc, List.take_append_of_le_length (by simp; omega), List.take_take, Nat.min_self]
      have h2 : cur1.toList.take m = (ptrs L).take m := by
       rw [<- htk1, List.take_take, Nat.mul_one, Nat.min_eq_left (by omega)]
      have h3 : (ptrs L).take m = ptrs (L.take m) := by simp [ptrs]
      show (overV cur1.toList m ZS).toArray.toList.take m = _
      rw [List.toList_toArray, h1, h2, h3, r3, HAll.out]
     ·refine grown_trans r5 (w2 := wr.setRow g (overV cur1.toList m ZS).toArray) (row2 := some g) ⟨rfl, rfl, rfl, by simp [World.setRow], fun k _ hk => setRow_other wr g k _ (fun e => hk (by rw [e]))⟩ (Or.inl rfl)
    clear r1 r2 r3 r4 r5 hg1 hcs1 htk1 hcm1 hR0 hZS HR HAll
    go_wp2_with (refine wpList_clear_run rfl _ 99 rfl _ rfl (HClr.out _) ?_; refine Hid.out ?_)
    refine hideIt ?_
    go_wp2_with fail
    go_ret
    exact ⟨_, rfl, HFin.out.1, HFin.out.2, rfl⟩
 ·obtain ⟨e1, e2⟩ := idxP_none hm
  rw [e1] at HI
  rw [e2]
  obtain ⟨ao, cap, rfl⟩ := own_formN hown
  have HO := hideIt hown
  clear hown hb hq hc hpb hm e1 e2
  go_enter Tryz.func99, Tryz.ntmps99
  go_wp2_with fail
  refine HI.out.mono ?_
  rintro e w1 ⟨rfl, rfl⟩
  clear HI
  go_wp2_with fail
  go_ret
  exact ⟨_, rfl, HO.out, ⟨rfl, rfl, rfl, Nat.le_refl _, fun _ _ _ => rfl⟩, rfl⟩
end Go.Proofs.YthmdjhlhodpbhaaGreatDoor
