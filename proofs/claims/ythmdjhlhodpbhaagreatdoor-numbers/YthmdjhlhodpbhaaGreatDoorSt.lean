/-
  World.step: one step of a kind up to 4.
-/
import Derived.Test.YthmdjhlhodpbhaaGreatDoorPo
namespace Go.Proofs.YthmdjhlhodpbhaaGreatDoor
open Go.RowKit

def OkBytes (w : World) (v : Value) : Prop := v = .slice none 0 0 ∨ ∃ ad cap l, v = .slice (some ad) l.length cap ∧ Reads w v l
theorem OkBytes.below {w w' : World} {v : Value} (h : OkBytes w v) (hb : Below w.heap.size w w') : OkBytes w' v := by
  rcases h with h | ⟨ad, cap, l, e, h⟩
  · exact Or.inl h
  · exact Or.inr ⟨ad, cap, l, e, h.below hb⟩

set_option maxHeartbeats 2000000 in
set_option maxRecDepth 8000 in
theorem step_of {kd on a b nn c0 c1 c2 c3 c4 c5 c6 c7 c8 c9 : Int} {v : Value} {base bw L : Nat} {w : World} (h1 : 1 ≤ kd) (h5 : kd ≤ 5) (hb : base ≤ w.heap.size)
    (HP : Calls Tryz.prog 62 #[.pointer (some ⟨bw, 0, none⟩), .agg #[.int .i64 kd, .int .i64 on, .int .i64 a, .int .i64 b, .int .i64 nn, .int .i64 c0, .int .i64 c1, .int .i64 c2, .int .i64 c3, .int .i64 c4, .int .i64 c5, .int .i64 c6, .int .i64 c7, .int .i64 c8, .int .i64 c9, v]] (w.alloc (.cells #[.int .i64 kd, .int .i64 on, .int .i64 a, .int .i64 b, .int .i64 nn, .int .i64 c0, .int .i64 c1, .int .i64 c2, .int .i64 c3, .int .i64 c4, .int .i64 c5, .int .i64 c6, .int .i64 c7, .int .i64 c8, .int .i64 c9, v] 90)) fun e w' => e = .returned (.bool true) ∧ (∃ L', L ≤ L' ∧ L' ≤ L + 4 ∧ Inv w' base bw L') ∧ Kept base bw (w.alloc (.cells #[.int .i64 kd, .int .i64 on, .int .i64 a, .int .i64 b, .int .i64 nn, .int .i64 c0, .int .i64 c1, .int .i64 c2, .int .i64 c3, .int .i64 c4, .int .i64 c5, .int .i64 c6, .int .i64 c7, .int .i64 c8, .int .i64 c9, v] 90)) w') :
    Calls Tryz.prog 35 #[.pointer (some ⟨bw, 0, none⟩), .agg #[.int .i64 kd, .int .i64 on, .int .i64 a, .int .i64 b, .int .i64 nn, .int .i64 c0, .int .i64 c1, .int .i64 c2, .int .i64 c3, .int .i64 c4, .int .i64 c5, .int .i64 c6, .int .i64 c7, .int .i64 c8, .int .i64 c9, v]] w fun e w' => e = .returned (.bool true) ∧ (∃ L', L ≤ L' ∧ L' ≤ L + 4 ∧ Inv w' base bw L') ∧ Kept base bw w w' := by
  have HH := hideIt HP
  clear HP
  go_enter Tryz.func35, Tryz.ntmps35
  go_wp2_with fail
  refine HH.out.mono ?_
  rintro e w1 ⟨rfl, hI, hK⟩
  clear HH
  have HI := hideIt hI
  clear hI
  go_wp2_with fail
  go_ret
  exact ⟨rfl, HI.out, below_weaken (below_alloc w _) hb hK⟩

set_option maxHeartbeats 2000000 in
set_option maxRecDepth 8000 in
theorem step_low (kd on a b nn c0 c1 c2 c3 c4 c5 c6 c7 c8 c9 : Int) (v : Value) (base bw L : Nat) (w : World) (inv : Inv w base bw L) (hk : kd < 1) :
    Calls Tryz.prog 35 #[.pointer (some ⟨bw, 0, none⟩), .agg #[.int .i64 kd, .int .i64 on, .int .i64 a, .int .i64 b, .int .i64 nn, .int .i64 c0, .int .i64 c1, .int .i64 c2, .int .i64 c3, .int .i64 c4, .int .i64 c5, .int .i64 c6, .int .i64 c7, .int .i64 c8, .int .i64 c9, v]] w fun e w' => e = .returned (.bool true) ∧ (∃ L', L ≤ L' ∧ L' ≤ L + 4 ∧ Inv w' base bw L') ∧ Kept base bw w w' := by
  have HI := hideIt inv
  clear inv
  go_enter Tryz.func35, Tryz.ntmps35
  go_wp2_with fail
  go_ret
  exact ⟨rfl, ⟨L, Nat.le_refl _, by omega, HI.out.below (below_alloc w _)⟩, Kept.of_below ((below_alloc w _).mono HI.out.base_le)⟩

theorem step_any (kd on a b nn c0 c1 c2 c3 c4 c5 c6 c7 c8 c9 : Int) (v : Value) (base bw L : Nat) (w : World) (he : Env w) (hv : OkBytes w v) (inv : Inv w base bw L) (hL : L ≤ 5000000000000) (hk : kd ≤ 4) :
    Calls Tryz.prog 35 #[.pointer (some ⟨bw, 0, none⟩), .agg #[.int .i64 kd, .int .i64 on, .int .i64 a, .int .i64 b, .int .i64 nn, .int .i64 c0, .int .i64 c1, .int .i64 c2, .int .i64 c3, .int .i64 c4, .int .i64 c5, .int .i64 c6, .int .i64 c7, .int .i64 c8, .int .i64 c9, v]] w fun e w' => e = .returned (.bool true) ∧ (∃ L', L ≤ L' ∧ L' ≤ L + 4 ∧ Inv w' base bw L') ∧ Kept base bw w w' := by
  by_cases h1 : kd < 1
  · exact step_low kd on a b nn c0 c1 c2 c3 c4 c5 c6 c7 c8 c9 v base bw L w inv h1
  have hb0 := below_alloc w (.cells #[.int .i64 kd, .int .i64 on, .int .i64 a, .int .i64 b, .int .i64 nn, .int .i64 c0, .int .i64 c1, .int .i64 c2, .int .i64 c3, .int .i64 c4, .int .i64 c5, .int .i64 c6, .int .i64 c7, .int .i64 c8, .int .i64 c9, v] 90)
  have inv0 := inv.below hb0
  refine step_of (by omega) (by omega) inv.base_le ?_
  rcases (show kd = 1 ∨ kd = 2 ∨ kd = 3 ∨ kd = 4 by omega) with rfl | rfl | rfl | rfl
  · refine (plain_put on a b nn c0 c1 c2 c3 c4 c5 c6 c7 c8 c9 v base bw L _ inv0 hL).mono ?_
    rintro e w' ⟨rfl, hI, hK⟩
    exact ⟨rfl, ⟨L + 4, by omega, by omega, hI⟩, hK⟩
  · rcases hv.below hb0 with rfl | ⟨ad, cap, l, rfl, hr⟩
    · refine (plain_get_nil on a b nn c0 c1 c2 c3 c4 c5 c6 c7 c8 c9 base bw L _ (he.below hb0) inv0).mono ?_
      rintro e w' ⟨rfl, hI, hK⟩
      exact ⟨rfl, ⟨L, by omega, by omega, hI⟩, hK⟩
    · refine (plain_get on a b nn c0 c1 c2 c3 c4 c5 c6 c7 c8 c9 ad cap l base bw L _ (he.below hb0) hr inv0).mono ?_
      rintro e w' ⟨rfl, hI, hK⟩
      exact ⟨rfl, ⟨L, by omega, by omega, hI⟩, hK⟩
  · refine (plain_token on a b nn c0 c1 c2 c3 c4 c5 c6 c7 c8 c9 v base bw L _ inv0 hL).mono ?_
    rintro e w' ⟨rfl, hI, hK⟩
    exact ⟨rfl, ⟨L + 4, by omega, by omega, hI⟩, hK⟩
  · refine (plain_proof on a b nn c0 c1 c2 c3 c4 c5 c6 c7 c8 c9 v base bw L _ inv0).mono ?_
    rintro e w' ⟨rfl, hI, hK⟩
    exact ⟨rfl, ⟨L, by omega, by omega, hI⟩, hK⟩
end Go.Proofs.YthmdjhlhodpbhaaGreatDoor
