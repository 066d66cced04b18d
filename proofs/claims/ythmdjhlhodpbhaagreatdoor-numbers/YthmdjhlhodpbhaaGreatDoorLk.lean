/-
  World.looks: all lists read as their owner left them.
-/
import Derived.Test.YthmdjhlhodpbhaaGreatDoorBy
namespace Go.Proofs.YthmdjhlhodpbhaaGreatDoor
open Go.RowKit

set_option maxHeartbeats 2000000 in
set_option maxRecDepth 8000 in
theorem looks_any (base bw L : Nat) (w : World) (inv : Inv w base bw L) (hL : L ≤ 5000000000000) :
    Calls Tryz.prog 36 #[.pointer (some ⟨bw, 0, none⟩)] w fun e w' => e = .returned (.bool true) ∧ w = w' := by
  obtain ⟨vb, vals, hW, hbw, hk4, hvb, hrows⟩ := inv
  obtain ⟨ab, cb, rfl⟩ := own_form hvb
  have hc1 : w.cell? ⟨bw, 1, none⟩ = some (.slice ab L cb) := by simp [World.cell?, hW]
  have hc2 : w.cell? ⟨bw, 2, none⟩ = some (.slice none 0 0) := by simp [World.cell?, hW]
  have HR := hideIt hrows
  have HV := hideIt hvb
  clear hrows hvb hW hbw hk4
  go_enter Tryz.func36, Tryz.ntmps36
  go_wp2
  go_loop [3] (fun i => ∃ k : Nat, k ≤ L ∧ i = .int .i64 k) (fun i => L - (intOf i).toNat)
  case atStart => exact ⟨0, Nat.zero_le _, rfl⟩
  case round =>
    obtain ⟨k, hk, rfl⟩ := hrel
    by_cases hlt : k < L
    · have hvb := HV.out
      obtain ⟨gb, cb', e1, _, _, _⟩ := own_some hvb (by omega)
      simp only [Value.slice.injEq] at e1
      obtain ⟨rfl, _, rfl⟩ := e1
      have hvl : vals.length = L := by simpa using hvb.1
      have hck := hvb.cellAt k (by omega)
      rw [List.getElem?_eq_getElem (by omega)] at hck
      obtain ⟨n, hn, hrow⟩ := HR.out k vals[k] (List.getElem?_eq_getElem (by omega))
      generalize vals[k] = u at hck hrow
      obtain ⟨au, cu, rfl⟩ := own_form hrow
      have HRow := hideIt hrow
      clear hvl hrow hvb
      go_wp2
      go_loop [4] (fun i => ∃ j : Nat, j ≤ n ∧ i = .int .i64 j) (fun i => n - (intOf i).toNat)
      case atStart => exact ⟨0, Nat.zero_le _, rfl⟩
      case round =>
        obtain ⟨j, hj, rfl⟩ := hrel
        by_cases hjt : j < n
        · have hrow := HRow.out
          obtain ⟨gu, cu', e2, _, _, _⟩ := own_some hrow (by omega)
          simp only [Value.slice.injEq] at e2
          obtain ⟨rfl, _, rfl⟩ := e2
          have hcj := hrow.cellAt j (by omega)
          rw [List.getElem?_replicate, if_pos hjt] at hcj
          unfold markL at hcj
          clear hrow
          go_wp2
          go_round
          case rel => exact ⟨j + 1, by omega, by go_num⟩
          case measure => simp [intOf]; omega
        · obtain rfl : j = n := by omega
          go_wp2
          go_round
          case rel => exact ⟨k + 1, by omega, by go_num⟩
          case measure => simp [intOf]; omega
    · obtain rfl : k = L := by omega
      go_wp2
      refine wp_loop_rounds 1 ?_
      rw [rounds_succ]
      go_wp2
      go_ret
      exact ⟨rfl, rfl⟩
end Go.Proofs.YthmdjhlhodpbhaaGreatDoor
