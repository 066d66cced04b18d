/-
  How many bytes a number has by its first byte and by how many there are, and the number read: the program's, over errors that are wrapped.
-/
import Derived.Test.YthmdjhlhodpbhaaGreatDoorEv
import Derived.Test.YthmdjhlhodpbhaaGreatDoorGn
import Derived.Test.YthmdjhlhodpbhaaGreatDoorAt
namespace Go.Proofs.YthmdjhlhodpbhaaGreatDoor
open Go.RowKit

def noneV (g : Nat) : Value := .iface 158 (.pointer (some ⟨g, 0, none⟩))

theorem tooFew_any (a c : Int) (ha : 0 ≤ a) (ha1 : a ≤ 9223372036854775807) (hc : 0 ≤ c) (hc1 : c ≤ 9223372036854775807) (w : World) (he : Env w) : Calls Tryz.prog 136 #[.int .i64 a, .int .i64 c] w fun e w' => ∃ g, e = .returned (.pointer (some ⟨g, 0, none⟩)) ∧ Below w.heap.size w w' := by
  have HE := hideIt he
  clear he
  go_enter Tryz.func136, Tryz.ntmps136
  go_wp2_with fail
  refine (itoa_any a ha ha1 w HE.out).mono ?_
  rintro e w1 ⟨s, rfl, hs, hb⟩
  go_wp2_with fail
  refine (itoa_any c hc hc1 w1 (HE.out.below hb)).mono ?_
  rintro e w2 ⟨s2, rfl, hs2, hb2⟩
  have hbb := below_join hb hb2
  clear hb hb2
  go_wp2_with fail
  go_ret
  exact ⟨_, rfl, hbb.alloc hbb.size _⟩

theorem numberSize_nil (ao : Option Addr) (cap : Nat) (w : World) : Calls Tryz.prog 154 #[.slice ao 0 cap] w fun e w' => ∃ g, e = .returned (.tuple #[.int .i64 0, .iface 158 (.pointer (some ⟨g, 0, none⟩))]) ∧ Below w.heap.size w w' := by
  go_enter Tryz.func154, Tryz.ntmps154
  go_wp2
  go_ret2
  exact ⟨_, rfl, below_alloc w _⟩

set_option maxHeartbeats 1000000 in
theorem numberSize_some (l : List Int) (hp : 0 < l.length) (b off cap : Nat) (w : World) (hm : l.length ≤ 140737488355328) (hc : w.cell? ⟨b, off, none⟩ = some (.int .u8 (l.getD 0 0))) (hz : ¬ gsz l = 0) :
    Calls Tryz.prog 154 #[.slice (some ⟨b, off, none⟩) l.length cap] w fun e w' => e = .returned (.tuple #[.int .i64 (gsz l), .nilIface]) ∧ w = w' := by
  have hlb : ((l.length : Int) == 0) = false := beq_eq_false_iff_ne.2 (by omega)
  have e1 : gsz l = sizeN (l.getD 0 0) ∧ ¬ (l.length : Int) < sizeN (l.getD 0 0) := by
    unfold gsz at hz ⊢
    rw [if_neg (by omega)] at hz ⊢
    by_cases h : (l.length : Int) < sizeN (l.getD 0 0)
    · rw [if_pos h] at hz; exact absurd rfl hz
    · rw [if_neg h]; exact ⟨rfl, h⟩
  obtain ⟨e1, e2⟩ := e1
  rw [e1] at hz ⊢
  clear e1
  generalize l.getD 0 0 = c at hc hz e2 ⊢
  have hsb : (sizeN c == 0) = false := beq_eq_false_iff_ne.2 hz
  go_enter Tryz.func154, Tryz.ntmps154
  go_wp2_with (go_at_call 183; refine (sizeByFirst_any _ _).mono ?_; rintro e w' ⟨rfl, rfl⟩)
  go_ret2
  exact ⟨rfl, rfl⟩

set_option maxHeartbeats 1000000 in
theorem numberSize_none (l : List Int) (hl : Bytes l) (hp : 0 < l.length) (b off cap : Nat) (w : World) (he : Env w) (hm : l.length ≤ 140737488355328) (hc : w.cell? ⟨b, off, none⟩ = some (.int .u8 (l.getD 0 0))) (hz : gsz l = 0) :
    Calls Tryz.prog 154 #[.slice (some ⟨b, off, none⟩) l.length cap] w fun e w' => ∃ g, e = .returned (.tuple #[.int .i64 0, .iface 158 (.pointer (some ⟨g, 0, none⟩))]) ∧ Below w.heap.size w w' := by
  have hlb : ((l.length : Int) == 0) = false := beq_eq_false_iff_ne.2 (by omega)
  have hcr := getD_byte hl 0
  unfold gsz at hz
  rw [if_neg (by omega)] at hz
  generalize l.getD 0 0 = c at hc hz hcr
  obtain ⟨hc0, hc1⟩ := hcr
  have HE := hideIt he
  clear he
  by_cases h0 : sizeN c = 0
  · have hsb : (sizeN c == 0) = true := by simp [h0]
    clear hz h0
    go_enter Tryz.func154, Tryz.ntmps154
    go_wp2_with (first | (go_at_call 183; refine (sizeByFirst_any _ _).mono ?_; rintro e w' ⟨rfl, rfl⟩))
    refine (itoa_any c hc0 (by omega) w HE.out).mono ?_
    rintro e w1 ⟨s, rfl, hs, hb⟩
    go_wp2_with fail
    go_ret2
    exact ⟨_, rfl, hb.alloc hb.size _⟩
  · have hsb : (sizeN c == 0) = false := beq_eq_false_iff_ne.2 h0
    have hsh : (l.length : Int) < sizeN c := by
      by_cases h : (l.length : Int) < sizeN c
      · exact h
      · rw [if_neg h] at hz; exact absurd hz h0
    have hle : sizeN c ≤ 4 := by
      unfold sizeN
      repeat' split
      all_goals omega
    clear hz h0
    have hlo : 0 ≤ sizeN c := by omega
    go_enter Tryz.func154, Tryz.ntmps154
    go_wp2_with (first | (go_at_call 183; refine (sizeByFirst_any _ _).mono ?_; rintro e w' ⟨rfl, rfl⟩))
    refine (tooFew_any _ _ (by omega) (by omega) hlo (by omega) w HE.out).mono ?_
    rintro e w1 ⟨g, rfl, hb⟩
    go_wp2_with fail
    go_ret2
    exact ⟨g, rfl, hb⟩

/-- where no number stands: an error that wraps a *None -/
theorem Read_nil (ao : Option Addr) (cap : Nat) (w : World) : Calls Tryz.prog 102 #[.slice ao 0 cap] w fun e w' => ∃ g h, e = .returned (.tuple #[.int .i64 0, .int .i64 0, .iface 155 (.pointer (some ⟨h, 0, none⟩))]) ∧ w'.cell? ⟨h, 1, none⟩ = some (.iface 158 (.pointer (some ⟨g, 0, none⟩))) ∧ Below w.heap.size w w' := by
  go_enter Tryz.func102, Tryz.ntmps102
  go_wp2_with fail
  refine (numberSize_nil ao cap w).mono ?_
  rintro e w1 ⟨g, rfl, hb⟩
  go_wp2_with fail
  go_ret3
  exact ⟨g, w1.heap.size, rfl, by simp, hb.alloc hb.size _⟩

theorem Read_none (l : List Int) (hl : Bytes l) (hp : 0 < l.length) (b off cap : Nat) (w : World) (he : Env w) (hm : l.length ≤ 140737488355328) (hc : w.cell? ⟨b, off, none⟩ = some (.int .u8 (l.getD 0 0))) (hz : gsz l = 0) :
    Calls Tryz.prog 102 #[.slice (some ⟨b, off, none⟩) l.length cap] w fun e w' => ∃ g h, e = .returned (.tuple #[.int .i64 0, .int .i64 0, .iface 155 (.pointer (some ⟨h, 0, none⟩))]) ∧ w'.cell? ⟨h, 1, none⟩ = some (.iface 158 (.pointer (some ⟨g, 0, none⟩))) ∧ Below w.heap.size w w' := by
  go_enter Tryz.func102, Tryz.ntmps102
  go_wp2_with fail
  refine (numberSize_none l hl hp b off cap w he hm hc hz).mono ?_
  rintro e w1 ⟨g, rfl, hb⟩
  clear hc he hz
  go_wp2_with fail
  go_ret3
  exact ⟨g, w1.heap.size, rfl, by simp, hb.alloc hb.size _⟩

set_option maxHeartbeats 1000000 in
theorem Read_some (l : List Int) (hl : Bytes l) (hp : 0 < l.length) (b off cap : Nat) (w : World) (hcap : l.length ≤ cap) (hm : l.length ≤ 140737488355328) (hc : ∀ j, j < l.length → w.cell? ⟨b, off + j, none⟩ = some (.int .u8 (l.getD j 0))) (hz : ¬ gsz l = 0) :
    Calls Tryz.prog 102 #[.slice (some ⟨b, off, none⟩) l.length cap] w fun e w' => e = .returned (.tuple #[.int .i64 (gval l), .int .i64 (gsz l), .nilIface]) ∧ w = w' := by
  have HC := hideIt hc
  have h0 := hc 0 hp
  rw [Nat.add_zero] at h0
  clear hc
  obtain ⟨S, hS, hS4, hSl⟩ : ∃ S : Nat, gsz l = S ∧ (1 ≤ S ∧ S ≤ 4) ∧ S ≤ l.length := by
    unfold gsz at hz ⊢
    rw [if_neg (by omega)] at hz ⊢
    by_cases h : (l.length : Int) < sizeN (l.getD 0 0)
    · rw [if_pos h] at hz; exact absurd rfl hz
    · rw [if_neg h] at hz ⊢
      have hb : 0 ≤ sizeN (l.getD 0 0) ∧ sizeN (l.getD 0 0) ≤ 4 := by
        unfold sizeN
        repeat' split
        all_goals omega
      exact ⟨(sizeN (l.getD 0 0)).toNat, by omega, by omega, by omega⟩
  have hns := numberSize_some l hp b off cap w hm h0 hz
  have hcr := getD_byte hl 0
  have HV1 : Hid (valTo l 1 = l.getD 0 0 % 64) := rfl
  generalize l.getD 0 0 = c at h0 hcr HV1
  obtain ⟨hc0, hc1⟩ := hcr
  have hand := u8_and63 c hc0 hc1
  have HG : Hid (gval l = valTo l S) := (g_some hS (by omega)).1
  rw [hS] at hns ⊢
  clear hS hz
  obtain ⟨hS1, hS2⟩ := hS4
  by_cases hcap1 : cap = 1
  · subst hcap1
    obtain rfl : S = 1 := by omega
    go_enter Tryz.func102, Tryz.ntmps102
    go_wp2_with fail
    refine hns.mono ?_
    rintro e w1 ⟨rfl, rfl⟩
    clear hns
    go_wp2_with fail
    refine wp_loop_rounds 1 ?_
    rw [rounds_succ]
    go_wp2
    go_ret3
    exact ⟨by rw [HG.out, HV1.out]; rfl, rfl⟩
  · go_enter Tryz.func102, Tryz.ntmps102
    go_wp2_with fail
    refine hns.mono ?_
    rintro e w1 ⟨rfl, rfl⟩
    clear hns
    go_wp2_with fail
    go_loop [2, 27] (fun n i => ∃ k : Nat, k + 1 ≤ S ∧ i = .int .i64 k ∧ n = .int .i64 (valTo l (k + 1))) (fun _ i => S - (intOf i).toNat)
    case atStart => exact ⟨0, hS1, rfl, by rw [HV1.out]⟩
    case round =>
      obtain ⟨k, hk, rfl, rfl⟩ := hrel
      by_cases hlt : k + 1 < S
      · have hcell := HC.out (k + 1) (by omega)
        rw [show off + (k + 1) = off + 1 + k from by omega] at hcell
        have hv := valTo_lt hl (k + 1) (by omega) (by omega)
        have hb := getD_byte hl (k + 1)
        have HV : Hid (valTo l (k + 1 + 1) = valTo l (k + 1) * 256 + l.getD (k + 1) 0) := rfl
        generalize valTo l (k + 1) = n at hv HV ⊢
        generalize l.getD (k + 1) 0 = x at hcell hb HV
        obtain ⟨hv0, hv1⟩ := hv
        obtain ⟨hb0, hb1⟩ := hb
        have hor := or8 n x hv0 (by omega) hb0 hb1
        go_wp2
        go_round
        case rel => exact ⟨k + 1, by omega, by go_num, by rw [HV.out]⟩
        case measure => simp [intOf]; omega
      · obtain rfl : S = k + 1 := by omega
        go_wp2
        go_ret3
        exact ⟨by rw [HG.out]; rfl, rfl⟩
end Go.Proofs.YthmdjhlhodpbhaaGreatDoor
