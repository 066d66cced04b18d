/-
  World.plain at Token and Proof.
-/
import Derived.Test.YthmdjhlhodpbhaaGreatDoorPn
namespace Go.Proofs.YthmdjhlhodpbhaaGreatDoor
open Go.RowKit

theorem tokM_length (c0 c1 c2 c3 c4 c5 c6 c7 c8 k a t : Int) : (tokM c0 c1 c2 c3 c4 c5 c6 c7 c8 k a t).length ≤ 9 := by
  unfold tokM
  split
  · simp [tokenL, frontL, fourL]
  · simp

set_option maxHeartbeats 2000000 in
set_option maxRecDepth 8000 in
theorem plain_token (on a b nn c0 c1 c2 c3 c4 c5 c6 c7 c8 c9 : Int) (v : Value) (base bw L : Nat) (w : World) (inv : Inv w base bw L) (hL : L ≤ 5000000000000) :
    Calls Tryz.prog 62 #[.pointer (some ⟨bw, 0, none⟩), .agg #[.int .i64 3, .int .i64 on, .int .i64 a, .int .i64 b, .int .i64 nn, .int .i64 c0, .int .i64 c1, .int .i64 c2, .int .i64 c3, .int .i64 c4, .int .i64 c5, .int .i64 c6, .int .i64 c7, .int .i64 c8, .int .i64 c9, v]] w
      fun e w' => e = .returned (.bool true) ∧ Inv w' base bw (L + 4) ∧ Kept base bw w w' := by
  have HI := hideIt inv
  clear inv
  go_enter Tryz.func62, Tryz.ntmps62
  go_wp2_with fail
  have hb0 := below_alloc w (.cells #[.int .i64 3, .int .i64 on, .int .i64 a, .int .i64 b, .int .i64 nn, .int .i64 c0, .int .i64 c1, .int .i64 c2, .int .i64 c3, .int .i64 c4, .int .i64 c5, .int .i64 c6, .int .i64 c7, .int .i64 c8, .int .i64 c9, v] 90)
  have HI0 := hideIt (HI.out.below hb0)
  refine (Token_any c0 c1 c2 c3 c4 c5 c6 c7 c8 c9 a b _).mono ?_
  rintro e w1 ⟨v1, rfl, hown1, hb1⟩
  have q2 := (step_box hb1).1 2
  have q3 := (step_box hb1).1 3
  have q5 := (step_box hb1).1 5
  have q6 := (step_box hb1).1 6
  have q7 := (step_box hb1).1 7
  have q8 := (step_box hb1).1 8
  have q9 := (step_box hb1).1 9
  have q10 := (step_box hb1).1 10
  have q11 := (step_box hb1).1 11
  have q12 := (step_box hb1).1 12
  have q13 := (step_box hb1).1 13
  have q14 := (step_box hb1).1 14
  simp at q2 q3 q5 q6 q7 q8 q9 q10 q11 q12 q13 q14
  go_wp2_with fail
  refine (rToken_any c0 c1 c2 c3 c4 c5 c6 c7 c8 c9 a b _).mono ?_
  rintro e w2 ⟨v2, rfl, hown2, hb2⟩
  have hown1' := own_below hown1 hb2
  have hb12 := below_join hb1 hb2
  have k1 := conv_own hown1'
  have k2 := conv_own hown2
  clear q2 q3 q5 q6 q7 q8 q9 q10 q11 q12 q13 q14 hown1 hown2 hb1 hb2
  have HB := hideIt (byted_any base bw L _ v1 _ _ w2 HI0.out hb12 hown1' (by have := tokM_length c0 c1 c2 c3 c4 c5 c6 c7 c8 c9 a b; omega) hL)
  clear hown1'
  generalize tokE c0 c1 c2 c3 c4 c5 c6 c7 c8 c9 a b = E
  go_wp2_with (go_at_call 110; refine (num_any _ _).mono ?_; rintro e w' ⟨rfl, rfl⟩)
  refine HB.out.mono ?_
  rintro e w3 ⟨rfl, hinv, hb3⟩
  clear k1 k2 HB
  go_wp2_with fail
  go_ret
  exact ⟨rfl, hinv, below_weaken hb0 HI.out.base_le hb3⟩

set_option maxHeartbeats 2000000 in
set_option maxRecDepth 8000 in
theorem plain_proof (on a b nn c0 c1 c2 c3 c4 c5 c6 c7 c8 c9 : Int) (v : Value) (base bw L : Nat) (w : World) (inv : Inv w base bw L) :
    Calls Tryz.prog 62 #[.pointer (some ⟨bw, 0, none⟩), .agg #[.int .i64 4, .int .i64 on, .int .i64 a, .int .i64 b, .int .i64 nn, .int .i64 c0, .int .i64 c1, .int .i64 c2, .int .i64 c3, .int .i64 c4, .int .i64 c5, .int .i64 c6, .int .i64 c7, .int .i64 c8, .int .i64 c9, v]] w
      fun e w' => e = .returned (.bool true) ∧ Inv w' base bw L ∧ Kept base bw w w' := by
  have HI := hideIt inv
  clear inv
  go_enter Tryz.func62, Tryz.ntmps62
  go_wp2_with fail
  have hb0 := below_alloc w (.cells #[.int .i64 4, .int .i64 on, .int .i64 a, .int .i64 b, .int .i64 nn, .int .i64 c0, .int .i64 c1, .int .i64 c2, .int .i64 c3, .int .i64 c4, .int .i64 c5, .int .i64 c6, .int .i64 c7, .int .i64 c8, .int .i64 c9, v] 90)
  refine (Proof_any c0 c1 c2 c3 c4 c5 c6 c7 c8 c9 a b _).mono ?_
  rintro e w1 ⟨rfl, hb1⟩
  have q2 := (step_box hb1).1 2
  have q3 := (step_box hb1).1 3
  have q5 := (step_box hb1).1 5
  have q6 := (step_box hb1).1 6
  have q7 := (step_box hb1).1 7
  have q8 := (step_box hb1).1 8
  have q9 := (step_box hb1).1 9
  have q10 := (step_box hb1).1 10
  have q11 := (step_box hb1).1 11
  have q12 := (step_box hb1).1 12
  have q13 := (step_box hb1).1 13
  have q14 := (step_box hb1).1 14
  simp at q2 q3 q5 q6 q7 q8 q9 q10 q11 q12 q13 q14
  go_wp2_with fail
  refine (rProof_any c0 c1 c2 c3 c4 c5 c6 c7 c8 c9 a b _).mono ?_
  rintro e w2 ⟨rfl, hb2⟩
  have hbb := below_join hb0 (below_join hb1 hb2)
  clear q2 q3 q5 q6 q7 q8 q9 q10 q11 q12 q13 q14 hb1 hb2
  generalize prfE c0 c1 c2 c3 c4 c5 c6 c7 c8 c9 a b = E
  generalize prfM c0 c1 c2 c3 c4 c5 c6 c7 c8 c9 a b = M
  go_wp2_with (go_at_call 110; refine (num_any _ _).mono ?_; rintro e w' ⟨rfl, rfl⟩)
  go_ret
  exact ⟨rfl, HI.out.below hbb, Kept.of_below (hbb.mono HI.out.base_le)⟩
end Go.Proofs.YthmdjhlhodpbhaaGreatDoor
