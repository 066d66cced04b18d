/-
  The functions that append bytes to a row of the call's own: AppendNumber, appendFour, four, join.
-/
import Derived.Test.YthmdjhlhodpbhaaGreatDoorLf
namespace Go.Proofs.YthmdjhlhodpbhaaGreatDoor
open Go.RowKit

theorem info_u8 : (Tryz.prog.info? 5).map (fun i => (i.zero, i.size, i.bytes)) = some (some (.int .u8 0), 1, 1) := by kernel_rfl
theorem u8_one (l : List Int) : ∀ u ∈ U8 l, u.oneCell' = true := by
  intro u hu
  simp only [U8, List.mem_map] at hu
  obtain ⟨x, _, rfl⟩ := hu
  rfl
theorem lit_cells (w : World) (e : TypeId) (cs : List Value) (hm : cs.length ≤ maxLen) : ∀ (j : Nat) u, cs[j]? = some u → (w.alloc (.cells cs.toArray e)).cell? ((⟨w.heap.size, 0, none⟩ : Addr).add j) = some u :=
  (own_lit w e cs hm).cells rfl
theorem grown_after_alloc {w w1 : World} {o : Obj} {row : Option Nat} (h : (w.alloc o).grownBy w1 row) : w.grownBy w1 row := 
  ⟨h.os, h.tape, h.output, by have := h.size; simp at this; omega, fun k hk hne => (h.block k (by simp; omega) hne).trans (Below.heap_alloc w o k hk)⟩
theorem grown_trans {w w1 w2 : World} {row row2 : Option Nat} (h : w.grownBy w1 row) (h2 : w1.grownBy w2 row2) (hr : row2 = row ∨ ∀ k, row2 = some k → w.heap.size ≤ k) : w.grownBy w2 row :=
  ⟨h2.os.trans h.os, h2.tape.trans h.tape, h2.output.trans h.output, Nat.le_trans h.size h2.size, fun k hk hne => by
    have : k < w1.heap.size := Nat.lt_of_lt_of_le hk h.size
    rw [h2.block k this (by rcases hr with rfl | hr; exact hne; intro e; have := hr k e.symm; omega)]
    exact h.block k hk hne⟩
theorem grown_below {w w' : World} (h : w.grownBy w' none) : Below w.heap.size w w' := ⟨h.os, h.tape, h.output, h.size, fun k hk => h.block k hk (by simp)⟩
theorem below_grown {w w' : World} (h : Below w.heap.size w w') (row : Option Nat) : w.grownBy w' row := ⟨h.os, h.tape, h.output, h.size, fun k hk _ => h.block k hk⟩

theorem wAppendNumber_any (m : Int) (h0 : 0 ≤ m) (h1 : m ≤ 1073741823) (base : Nat) (v : Value) (n : Nat) (xs : List Value) (w : World) (hown : w.ownsRow base 5 1 v n xs) (hb : base ≤ w.heap.size) (hn : n ≤ 70368744177664) :
    Calls Tryz.prog 105 #[v, .int .i64 m] w fun e w' => ∃ v', e = .returned v' ∧ w'.ownsRow base 5 1 v' (n + (putL m).length) (xs ++ U8 (putL m)) ∧ w.grownBy w' v.ownBlock := by
  obtain ⟨i0, hi, hz0, hz1, hz2⟩ := info_parts info_u8
  by_cases a : m < 64
  · have e : putL m = [m] := by unfold putL; rw [if_pos a]
    rw [e]
    go_enter Tryz.func105, Tryz.ntmps105
    go_wp2_with (at_builtin; refine wpList_append_own _ rfl _ _ 44 rfl base 5 i0 (.int .u8 0) 1 1 Tryz.underlying44 hi hz0 hz1 hz2 rfl (by decide) v n xs rfl (hown.alloc _) ⟨w.heap.size, 0, none⟩ 1 1 (U8 [m]) rfl rfl (lit_cells w 5 (U8 [m]) (by simp [U8, maxLen])) (u8_one _) (by unfold maxLen; omega) (by omega) (by simp; omega) ?_; intro v' w1 hown' hgrow _)
    go_ret
    exact ⟨_, rfl, hown', grown_after_alloc hgrow⟩
  by_cases b : m < 16384
  · have e : putL m = [64 + m / 256, m % 256] := by unfold putL; rw [if_neg a, if_pos b]
    rw [e]
    have hor := or64 (m / 256) (by omega) (by omega)
    go_enter Tryz.func105, Tryz.ntmps105
    go_wp2_with (at_builtin; refine wpList_append_own _ rfl _ _ 44 rfl base 5 i0 (.int .u8 0) 1 1 Tryz.underlying44 hi hz0 hz1 hz2 rfl (by decide) v n xs rfl (hown.alloc _) ⟨w.heap.size, 0, none⟩ 2 2 (U8 [64 + m / 256, m % 256]) rfl rfl (lit_cells w 5 (U8 [64 + m / 256, m % 256]) (by simp [U8, maxLen])) (u8_one _) (by unfold maxLen; omega) (by omega) (by simp; omega) ?_; intro v' w1 hown' hgrow _)
    go_ret
    exact ⟨_, rfl, hown', grown_after_alloc hgrow⟩
  · have e : putL m = [128 + m / 16777216, m / 65536 % 256, m / 256 % 256, m % 256] := by unfold putL; rw [if_neg a, if_neg b]
    rw [e]
    have hor := or128 (m / 16777216) (by omega) (by omega)
    go_enter Tryz.func105, Tryz.ntmps105
    go_wp2_with (at_builtin; refine wpList_append_own _ rfl _ _ 44 rfl base 5 i0 (.int .u8 0) 1 1 Tryz.underlying44 hi hz0 hz1 hz2 rfl (by decide) v n xs rfl (hown.alloc _) ⟨w.heap.size, 0, none⟩ 4 4 (U8 [128 + m / 16777216, m / 65536 % 256, m / 256 % 256, m % 256]) rfl rfl (lit_cells w 5 (U8 [128 + m / 16777216, m / 65536 % 256, m / 256 % 256, m % 256]) (by simp [U8, maxLen])) (u8_one _) (by unfold maxLen; omega) (by omega) (by simp; omega) ?_; intro v' w1 hown' hgrow _)
    go_ret
    exact ⟨_, rfl, hown', grown_after_alloc hgrow⟩

theorem wappendFour_any (m : Int) (h0 : 0 ≤ m) (h1 : m < 4294967296) (base : Nat) (v : Value) (n : Nat) (xs : List Value) (w : World) (hown : w.ownsRow base 5 1 v n xs) (hb : base ≤ w.heap.size) (hn : n ≤ 70368744177664) :
    Calls Tryz.prog 127 #[v, .int .u32 m] w fun e w' => ∃ v', e = .returned v' ∧ w'.ownsRow base 5 1 v' (n + 4) (xs ++ U8 (fourL m)) ∧ w.grownBy w' v.ownBlock := by
  obtain ⟨i0, hi, hz0, hz1, hz2⟩ := info_parts info_u8
  have e4 : fourL m = [m % 256, m / 256 % 256, m / 65536 % 256, m / 16777216] := by unfold fourL; rw [Int.emod_eq_of_lt (a := m / 16777216) (by omega) (by omega)]
  rw [e4]
  clear e4
  go_enter Tryz.func127, Tryz.ntmps127
  go_wp2_with (at_builtin; refine wpList_append_own _ rfl _ _ 44 rfl base 5 i0 (.int .u8 0) 1 1 Tryz.underlying44 hi hz0 hz1 hz2 rfl (by decide) v n xs rfl (hown.alloc _) ⟨w.heap.size, 0, none⟩ 4 4 (U8 [m % 256, m / 256 % 256, m / 65536 % 256, m / 16777216]) rfl rfl (lit_cells w 5 (U8 [m % 256, m / 256 % 256, m / 65536 % 256, m / 16777216]) (by simp [U8, maxLen])) (u8_one _) (by unfold maxLen; omega) (by omega) (by simp; omega) ?_; intro v' w1 hown' hgrow _)
  go_ret
  exact ⟨_, rfl, hown', grown_after_alloc hgrow⟩

/-- the cells of an owned row of bytes that is not empty -/
theorem own_some {w : World} {base : Nat} {e : TypeId} {v : Value} {n : Nat} {xs : List Value} (h : w.ownsRow base e 1 v n xs) (hn : 0 < n) : ∃ g cap, v = .slice (some ⟨g, 0, none⟩) n cap ∧ base ≤ g ∧ g < w.heap.size ∧ n ≤ cap := by
  rcases h.2 with ⟨_, h0⟩ | ⟨g, cap, cur, rfl, hb, hg, hnc, _⟩
  · omega
  · exact ⟨g, cap, rfl, hb, (Array.getElem?_eq_some_iff.1 hg).1, hnc⟩

theorem rjoin_any (la lb : List Int) (base : Nat) (va vb : Value) (w : World) (ha : w.ownsRow base 5 1 va la.length (U8 la)) (hb : w.ownsRow base 5 1 vb lb.length (U8 lb)) (na : 0 < la.length) (nb : 0 < lb.length) (ma : la.length ≤ 1000) (mb : lb.length ≤ 1000) :
    Calls Tryz.prog 106 #[va, vb] w fun e w' => ∃ v', e = .returned v' ∧ w'.ownsRow w.heap.size 5 1 v' (la ++ lb).length (U8 (la ++ lb)) ∧ Below w.heap.size w w' := by
  obtain ⟨i0, hi, hz0, hz1, hz2⟩ := info_parts info_u8
  obtain ⟨ga, ca, rfl, hga, hga2, hca⟩ := own_some ha na
  obtain ⟨gb, cb, rfl, hgb, hgb2, hcb⟩ := own_some hb nb
  have cellsA := ha.cells rfl
  have HB : Hid (w.ownsRow base 5 1 (.slice (some ⟨gb, 0, none⟩) lb.length cb) lb.length (U8 lb)) := hb
  have HA : Hid (∀ (j : Nat) u, (U8 la)[j]? = some u → w.cell? ((⟨ga, 0, none⟩ : Addr).add j) = some u) := cellsA
  clear cellsA ha hb
  go_enter Tryz.func106, Tryz.ntmps106
  go_wp2_with (first
    | (at_builtin; refine wpList_append_own _ rfl _ _ 44 rfl w.heap.size 5 i0 (.int .u8 0) 1 1 Tryz.underlying44 hi hz0 hz1 hz2 rfl (by decide) (.slice none 0 0) 0 [] rfl (World.ownsRow_nil _ _ _ _) ⟨ga, 0, none⟩ la.length ca (U8 la) rfl (by simp [U8]) HA.out (u8_one _) (by unfold maxLen; omega) (by omega) (Nat.le_refl _) ?_; intro v1 w1 hown1 hgrow1 _; simp only [Nat.zero_add, List.nil_append] at hown1)
    | (at_builtin; refine wpList_append_own _ rfl _ _ 44 rfl w.heap.size 5 i0 (.int .u8 0) 1 1 Tryz.underlying44 hi hz0 hz1 hz2 rfl (by decide) v1 la.length (U8 la) rfl hown1 ⟨gb, 0, none⟩ lb.length cb (U8 lb) rfl (by simp [U8]) ((HB.out.kept hgrow1 (Or.inr (by simp [Value.ownBlock]))).cells rfl) (u8_one _) (by unfold maxLen; omega) (by omega) hgrow1.size ?_; intro v2 w2 hown2 hgrow2 _))
  go_ret
  refine ⟨_, rfl, by rw [U8_append]; exact hown2, ?_⟩
  exact grown_below (grown_trans hgrow1 hgrow2 (Or.inr fun k hk => (hown1.lt k hk).1))

theorem take_snoc {l : List Int} {k : Nat} (h : k < l.length) : l.take (k + 1) = l.take k ++ [l.getD k 0] := by
  rw [List.take_succ_eq_append_getElem h]; simp [List.getD, List.getElem?_eq_getElem h]

set_option maxHeartbeats 400000 in
theorem wSum_any (l : List Int) (hl : Bytes l) (b off cap : Nat) (w : World) (hm : l.length ≤ 1000000) (hc : ∀ j, j < l.length → w.cell? ⟨b, off + j, none⟩ = some (.int .u8 (l.getD j 0))) :
    Calls Tryz.prog 128 #[.slice (some ⟨b, off, none⟩) l.length cap] w fun e w' => e = .returned (.int .u32 (sumL l)) ∧ w = w' := by
  have HC : Hid (∀ j, j < l.length → w.cell? ⟨b, off + j, none⟩ = some (.int .u8 (l.getD j 0))) := hc
  clear hc
  go_enter Tryz.func128, Tryz.ntmps128
  go_wp2
  go_loop [3, 8] (fun s i => ∃ k : Nat, k ≤ l.length ∧ i = .int .i64 k ∧ s = .int .u32 (sumL (l.take k))) (fun _ i => l.length - (intOf i).toNat)
  case atStart => exact ⟨0, Nat.zero_le _, rfl, rfl⟩
  case round =>
    obtain ⟨k, hk, rfl, rfl⟩ := hrel
    by_cases hlt : k < l.length
    · have hcell := HC.out k hlt
      have hsn := sumL_snoc (l.take k) (l.getD k 0)
      rw [← take_snoc hlt] at hsn
      have hcr : 0 ≤ l.getD k 0 ∧ l.getD k 0 < 256 := hl _ (by simp [List.getD, List.getElem?_eq_getElem hlt])
      have hsr := sumL_range (l.take k)
      generalize l.getD k 0 = c at hcell hsn hcr
      generalize sumL (l.take k) = s at hsn hsr ⊢
      obtain ⟨hc0, hc1⟩ := hcr
      obtain ⟨hs0, hs1⟩ := hsr
      have hx := u32_xor s c hs0 hs1 hc0 (by omega)
      have HS : Hid (sumL (l.take (k + 1)) = sumStep s c) := hsn
      clear hsn
      go_wp2
      go_round
      case rel => exact ⟨k + 1, by omega, by go_num, by rw [HS.out]; rfl⟩
      case measure => simp [intOf]; omega
    · obtain rfl : k = l.length := by omega
      go_wp2
      go_ret
      exact ⟨rfl, rfl⟩

set_option maxHeartbeats 400000 in
theorem rsum_any (l : List Int) (hl : Bytes l) (b off cap : Nat) (w : World) (hm : l.length ≤ 1000000) (hc : ∀ j, j < l.length → w.cell? ⟨b, off + j, none⟩ = some (.int .u8 (l.getD j 0))) :
    Calls Tryz.prog 108 #[.slice (some ⟨b, off, none⟩) l.length cap] w fun e w' => e = .returned (.int .i64 (sumL l)) ∧ w = w' := by
  have HC : Hid (∀ j, j < l.length → w.cell? ⟨b, off + j, none⟩ = some (.int .u8 (l.getD j 0))) := hc
  clear hc
  go_enter Tryz.func108, Tryz.ntmps108
  go_wp2
  go_loop [3, 4] (fun s i => ∃ k : Nat, k ≤ l.length ∧ i = .int .i64 k ∧ s = .int .i64 (sumL (l.take k))) (fun _ i => l.length - (intOf i).toNat)
  case atStart => exact ⟨0, Nat.zero_le _, rfl, rfl⟩
  case round =>
    obtain ⟨k, hk, rfl, rfl⟩ := hrel
    by_cases hlt : k < l.length
    · have hcell := HC.out k hlt
      have hsn := sumL_snoc (l.take k) (l.getD k 0)
      rw [← take_snoc hlt] at hsn
      have hcr : 0 ≤ l.getD k 0 ∧ l.getD k 0 < 256 := hl _ (by simp [List.getD, List.getElem?_eq_getElem hlt])
      have hsr := sumL_range (l.take k)
      generalize l.getD k 0 = c at hcell hsn hcr
      generalize sumL (l.take k) = s at hsn hsr ⊢
      obtain ⟨hc0, hc1⟩ := hcr
      obtain ⟨hs0, hs1⟩ := hsr
      have hx := xor_i64 s c hs0 hs1 hc0 hc1
      have hxl := xor_lt s c hs1 hc1
      have HS : Hid (sumL (l.take (k + 1)) = sumStep s c) := hsn
      clear hsn
      go_wp2
      go_round
      case rel => exact ⟨k + 1, by omega, by go_num, by rw [HS.out]; rfl⟩
      case measure => simp [intOf]; omega
    · obtain rfl : k = l.length := by omega
      go_wp2
      go_ret
      exact ⟨rfl, rfl⟩

/-- what is left of a number behind k rounds of the loop -/
def sh (m : Int) : Nat → Int
  | 0 => m
  | k + 1 => sh m k / 256
theorem sh_nonneg (m : Int) (h : 0 ≤ m) (k : Nat) : 0 ≤ sh m k := by
  induction k with
  | zero => exact h
  | succ k ih => unfold sh; omega
theorem sh_le (m : Int) (h : 0 ≤ m) (k : Nat) : sh m k ≤ m := by
  induction k with
  | zero => exact Int.le_refl _
  | succ k ih => have := sh_nonneg m h k; unfold sh; omega
theorem four_snoc (m : Int) (k : Nat) (hk : k < 4) : (fourL m).take (k + 1) = (fourL m).take k ++ [sh m k % 256] := by
  match k, hk with
  | 0, _ => simp [fourL, sh]
  | 1, _ => simp [fourL, sh]
  | 2, _ => simp [fourL, sh]; omega
  | 3, _ => simp [fourL, sh]; omega
theorem own_mono {w : World} {base base' : Nat} {e : TypeId} {size : Nat} {v : Value} {n : Nat} {xs : List Value} (h : w.ownsRow base e size v n xs) (hb : base' ≤ base) : w.ownsRow base' e size v n xs := by
  obtain ⟨h1, h2⟩ := h
  refine ⟨h1, ?_⟩
  rcases h2 with h2 | ⟨g, cap, cur, hv, hg, r⟩
  · exact Or.inl h2
  · exact Or.inr ⟨g, cap, cur, hv, by omega, r⟩

set_option maxHeartbeats 400000 in
set_option maxRecDepth 4000 in
theorem rfour_any (m : Int) (w : World) (h0 : 0 ≤ m) (h1 : m < 4294967296) :
    Calls Tryz.prog 107 #[.int .i64 m] w fun e w' => ∃ v', e = .returned v' ∧ w'.ownsRow w.heap.size 5 1 v' 4 (U8 (fourL m)) ∧ Below w.heap.size w w' := by
  obtain ⟨i0, hi, hz0, hz1, hz2⟩ := info_parts info_u8
  go_enter Tryz.func107, Tryz.ntmps107
  go_wp2
  go_loopw [0, 3, 4] (fun n v i wr => ∃ k : Nat, k ≤ 4 ∧ i = .int .i64 k ∧ n = .int .i64 (sh m k) ∧ wr.ownsRow w.heap.size 5 1 v k (U8 ((fourL m).take k)) ∧ Below w.heap.size w wr) (fun _ _ i _ => 4 - (intOf i).toNat)
  case atStart => exact ⟨0, Nat.zero_le _, rfl, rfl, World.ownsRow_nil _ _ _ _, Below.refl _ _⟩
  case round =>
    obtain ⟨k, hk, rfl, rfl, hown, hnx⟩ := hrel
    have hs0 := sh_nonneg m h0 k
    have hs1 := sh_le m h0 k
    have hsz := hnx.size
    by_cases hlt : k < 4
    · have hsn := four_snoc m k hlt
      have HS : Hid (sh m (k + 1) = sh m k / 256) := rfl
      generalize sh m k = n at hsn hs0 hs1 HS ⊢
      have HN : Hid ((fourL m).take (k + 1) = (fourL m).take k ++ [n % 256]) := hsn
      clear hsn
      go_wp2_with (at_builtin; refine wpList_append_own _ rfl _ _ 44 rfl w.heap.size 5 i0 (.int .u8 0) 1 1 Tryz.underlying44 hi hz0 hz1 hz2 rfl (by decide) _ k (U8 ((fourL m).take k)) rfl (hown.alloc _) ⟨wr.heap.size, 0, none⟩ 1 1 (U8 [n % 256]) rfl rfl (lit_cells wr 5 (U8 [n % 256]) (by simp [U8, maxLen])) (u8_one _) (by unfold maxLen; omega) (by omega) (by simp; omega) ?_; intro v' w1 hown' hgrow _)
      go_roundw
      case rel =>
        refine ⟨k + 1, by omega, by go_num, by rw [HS.out], by rw [HN.out, U8_append]; exact hown', ?_⟩
        exact hnx.trans (((below_alloc wr _).mono hsz).grown hgrow (by simp; omega) (fun g hg => (hown.lt g hg).1))
      case measure => simp [intOf]; omega
    · obtain rfl : k = 4 := by omega
      go_wp2
      go_ret
      exact ⟨_, rfl, hown, hnx⟩
end Go.Proofs.YthmdjhlhodpbhaaGreatDoor
