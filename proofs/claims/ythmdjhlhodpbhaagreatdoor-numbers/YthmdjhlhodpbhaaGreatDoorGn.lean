/-
  Numbers read: the document's GetNumber, and the program's ReadNumber where a number stands.
-/
import Derived.Test.YthmdjhlhodpbhaaGreatDoorLf
namespace Go.Proofs.YthmdjhlhodpbhaaGreatDoor
open Go.RowKit

/-- the number in the first k bytes (k at least 1) -/
def valTo (l : List Int) : Nat → Int
  | 0 => 0
  | 1 => l.getD 0 0 % 64
  | k + 2 => valTo l (k + 1) * 256 + l.getD (k + 1) 0
/-- how many bytes the number at the front has; 0: there is none -/
def gsz (l : List Int) : Int := if l.length = 0 then 0 else if (l.length : Int) < sizeN (l.getD 0 0) then 0 else sizeN (l.getD 0 0)
def gval (l : List Int) : Int := if gsz l = 0 then 0 else valTo l (gsz l).toNat
def gerr (l : List Int) : Int := if gsz l = 0 then 2 else 0
theorem getD_byte {l : List Int} (hl : Bytes l) (k : Nat) : 0 ≤ l.getD k 0 ∧ l.getD k 0 < 256 := by
  rcases Nat.lt_or_ge k l.length with h | h
  · exact hl _ (by simp [List.getD, List.getElem?_eq_getElem h])
  · simp [List.getD, List.getElem?_eq_none h]
theorem valTo_range {l : List Int} (hl : Bytes l) : (0 ≤ valTo l 1 ∧ valTo l 1 < 64) ∧ (0 ≤ valTo l 2 ∧ valTo l 2 < 16384) ∧ (0 ≤ valTo l 3 ∧ valTo l 3 < 4194304) ∧ (0 ≤ valTo l 4 ∧ valTo l 4 < 1073741824) := by
  have h0 := getD_byte hl 0
  have h1 := getD_byte hl 1
  have h2 := getD_byte hl 2
  have h3 := getD_byte hl 3
  have e1 : valTo l 1 = l.getD 0 0 % 64 := rfl
  have e2 : valTo l 2 = valTo l 1 * 256 + l.getD 1 0 := rfl
  have e3 : valTo l 3 = valTo l 2 * 256 + l.getD 2 0 := rfl
  have e4 : valTo l 4 = valTo l 3 * 256 + l.getD 3 0 := rfl
  omega
theorem valTo_lt {l : List Int} (hl : Bytes l) (k : Nat) (h1 : 1 ≤ k) (h2 : k < 4) : 0 ≤ valTo l k ∧ valTo l k < 4194304 := by
  obtain ⟨a, b, c, _⟩ := valTo_range hl
  match k, h1, h2 with
  | 1, _, _ => omega
  | 2, _, _ => omega
  | 3, _, _ => omega
theorem gsz_zero_len {l : List Int} (h : l.length = 0) : gsz l = 0 := by simp [gsz, h]
theorem gsz_short {l : List Int} {c S : Int} (h : 0 < l.length) (e : l.getD 0 0 = c) (hs : sizeN c = S) (hl : (l.length : Int) < S) : gsz l = 0 := by
  unfold gsz; rw [if_neg (by omega), e, hs, if_pos hl]
theorem gsz_is {l : List Int} {c S : Int} (h : 0 < l.length) (e : l.getD 0 0 = c) (hs : sizeN c = S) (hl : S ≤ (l.length : Int)) : gsz l = S := by
  unfold gsz; rw [if_neg (by omega), e, hs, if_neg (by omega)]
theorem sizeN_1 {c : Int} (h : c < 64) : sizeN c = 1 := by simp [sizeN, h]
theorem sizeN_2 {c : Int} (h : 64 ≤ c) (h2 : c < 128) : sizeN c = 2 := by simp [sizeN, h2]; omega
theorem sizeN_4 {c : Int} (h : 128 ≤ c) (h2 : c < 192) : sizeN c = 4 := by unfold sizeN; rw [if_neg (by omega), if_neg (by omega), if_pos h2]
theorem sizeN_0 {c : Int} (h : 192 ≤ c) : sizeN c = 0 := by unfold sizeN; rw [if_neg (by omega), if_neg (by omega), if_neg (by omega)]
theorem g_none {l : List Int} (h : gsz l = 0) : gval l = 0 ∧ gerr l = 2 := by simp [gval, gerr, h]
theorem g_some {l : List Int} {S : Nat} (h : gsz l = S) (hs : 0 < S) : gval l = valTo l S ∧ gerr l = 0 := by
  have : ¬ gsz l = 0 := by omega
  constructor
  · unfold gval; rw [if_neg this, h, Int.toNat_natCast]
  · simp [gerr, this]
theorem ret3 {a b c a' b' c' : Int} (h1 : a = a') (h2 : b = b') (h3 : c = c') : Ending.returned (.tuple #[.int .i64 a, .int .i64 b, .int .i64 c]) = .returned (.tuple #[.int .i64 a', .int .i64 b', .int .i64 c']) := by rw [h1, h2, h3]

theorem rGet_nil (ao : Option Addr) (cap : Nat) (w : World) : Calls Tryz.prog 113 #[.slice ao 0 cap] w fun e w' => e = .returned (.tuple #[.int .i64 0, .int .i64 0, .int .i64 2]) ∧ w = w' := by
  go_enter Tryz.func113, Tryz.ntmps113
  go_wp2
  go_ret3
  exact ⟨rfl, rfl⟩

set_option maxHeartbeats 1000000 in
theorem rGet_any (l : List Int) (hl : Bytes l) (hp : 0 < l.length) (b off cap : Nat) (w : World) (hm : l.length ≤ 140737488355328) (hc : ∀ j, j < l.length → w.cell? ⟨b, off + j, none⟩ = some (.int .u8 (l.getD j 0))) :
    Calls Tryz.prog 113 #[.slice (some ⟨b, off, none⟩) l.length cap] w fun e w' => e = .returned (.tuple #[.int .i64 (gval l), .int .i64 (gsz l), .int .i64 (gerr l)]) ∧ w = w' := by
  have HC := hideIt hc
  have h0 := hc 0 hp
  clear hc
  obtain ⟨c, hcc⟩ : ∃ c, l.getD 0 0 = c := ⟨_, rfl⟩
  have hcr := getD_byte hl 0
  rw [hcc] at h0 hcr
  rw [Nat.add_zero] at h0
  obtain ⟨hc0, hc1⟩ := hcr
  have HE := hideIt hcc
  clear hcc
  have hlb : ((l.length : Int) == 0) = false := beq_eq_false_iff_ne.2 (by omega)
  by_cases g3 : 192 ≤ c
  · have hz : gsz l = 0 := by
      by_cases hx : (l.length : Int) < 0
      · omega
      · exact gsz_is hp HE.out (sizeN_0 g3) (by omega)
    obtain ⟨e1, e2⟩ := g_none hz
    rw [e1, e2, hz]
    clear e1 e2 hz
    go_enter Tryz.func113, Tryz.ntmps113
    go_wp2
    go_ret3
    exact ⟨rfl, rfl⟩
  by_cases g1 : c < 64
  · have hz := gsz_is (S := 1) hp HE.out (sizeN_1 g1) (by omega)
    obtain ⟨e1, e2⟩ := g_some (S := 1) hz (by decide)
    have ev : valTo l 1 = c % 64 := by show l.getD 0 0 % 64 = _; rw [HE.out]
    rw [e1, e2, hz, ev]
    clear e1 e2 hz ev
    go_enter Tryz.func113, Tryz.ntmps113
    go_wp2
    refine wp_loop_rounds 1 ?_
    rw [rounds_succ]
    go_wp2
    go_ret3
    exact ⟨rfl, rfl⟩
  by_cases g2 : c < 128
  · by_cases hsh : (l.length : Int) < 2
    · have hz := gsz_short (S := 2) hp HE.out (sizeN_2 (by omega) g2) hsh
      obtain ⟨e1, e2⟩ := g_none hz
      rw [e1, e2, hz]
      clear e1 e2 hz
      go_enter Tryz.func113, Tryz.ntmps113
      go_wp2
      go_ret3
      exact ⟨rfl, rfl⟩
    · have hz := gsz_is (S := 2) hp HE.out (sizeN_2 (by omega) g2) (by omega)
      obtain ⟨e1, e2⟩ := g_some (S := 2) hz (by decide)
      rw [e1, e2, hz]
      have hz1 : valTo l 1 = c % 64 := by show l.getD 0 0 % 64 = _; rw [HE.out]
      have H1 := hideIt hz1
      clear e1 e2 hz hz1
      go_enter Tryz.func113, Tryz.ntmps113
      go_wp2
      go_loop [6, 7] (fun n i => ∃ k : Nat, 1 ≤ k ∧ k ≤ 2 ∧ i = .int .i64 k ∧ n = .int .i64 (valTo l k)) (fun _ i => 2 - (intOf i).toNat)
      case atStart => exact ⟨1, by decide, by decide, rfl, by rw [H1.out]⟩
      case round =>
        obtain ⟨k, hk1, hk2, rfl, rfl⟩ := hrel
        by_cases hlt : k < 2
        · have hcell := HC.out k (by omega)
          have hv := valTo_lt hl k hk1 (by omega)
          have hb := getD_byte hl k
          have HV : Hid (valTo l (k + 1) = valTo l k * 256 + l.getD k 0) := by
            obtain ⟨j, rfl⟩ : ∃ j, k = j + 1 := ⟨k - 1, by omega⟩
            rfl
          generalize valTo l k = n at hv HV ⊢
          generalize l.getD k 0 = x at hcell hb HV
          obtain ⟨hv0, hv1⟩ := hv
          obtain ⟨hb0, hb1⟩ := hb
          go_wp2
          go_round
          case rel => exact ⟨k + 1, by omega, by omega, by go_num, by rw [HV.out]; go_num⟩
          case measure => simp [intOf]; omega
        · obtain rfl : k = 2 := by omega
          go_wp2
          go_ret3
          exact ⟨rfl, rfl⟩
  · by_cases hsh : (l.length : Int) < 4
    · have hz := gsz_short (S := 4) hp HE.out (sizeN_4 (by omega) (by omega)) hsh
      obtain ⟨e1, e2⟩ := g_none hz
      rw [e1, e2, hz]
      clear e1 e2 hz
      go_enter Tryz.func113, Tryz.ntmps113
      go_wp2
      go_ret3
      exact ⟨rfl, rfl⟩
    · have hz := gsz_is (S := 4) hp HE.out (sizeN_4 (by omega) (by omega)) (by omega)
      obtain ⟨e1, e2⟩ := g_some (S := 4) hz (by decide)
      rw [e1, e2, hz]
      have hz1 : valTo l 1 = c % 64 := by show l.getD 0 0 % 64 = _; rw [HE.out]
      have H1 := hideIt hz1
      clear e1 e2 hz hz1
      go_enter Tryz.func113, Tryz.ntmps113
      go_wp2
      go_loop [6, 7] (fun n i => ∃ k : Nat, 1 ≤ k ∧ k ≤ 4 ∧ i = .int .i64 k ∧ n = .int .i64 (valTo l k)) (fun _ i => 4 - (intOf i).toNat)
      case atStart => exact ⟨1, by decide, by decide, rfl, by rw [H1.out]⟩
      case round =>
        obtain ⟨k, hk1, hk2, rfl, rfl⟩ := hrel
        by_cases hlt : k < 4
        · have hcell := HC.out k (by omega)
          have hv := valTo_lt hl k hk1 (by omega)
          have hb := getD_byte hl k
          have HV : Hid (valTo l (k + 1) = valTo l k * 256 + l.getD k 0) := by
            obtain ⟨j, rfl⟩ : ∃ j, k = j + 1 := ⟨k - 1, by omega⟩
            rfl
          generalize valTo l k = n at hv HV ⊢
          generalize l.getD k 0 = x at hcell hb HV
          obtain ⟨hv0, hv1⟩ := hv
          obtain ⟨hb0, hb1⟩ := hb
          go_wp2
          go_round
          case rel => exact ⟨k + 1, by omega, by omega, by go_num, by rw [HV.out]; go_num⟩
          case measure => simp [intOf]; omega
        · obtain rfl : k = 4 := by omega
          go_wp2
          go_ret3
          exact ⟨rfl, rfl⟩
end Go.Proofs.YthmdjhlhodpbhaaGreatDoor
