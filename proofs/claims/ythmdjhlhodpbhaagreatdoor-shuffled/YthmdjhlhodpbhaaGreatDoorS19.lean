/- Shuffled, 19 -/
import Derived.Test.YthmdjhlhodpbhaaGreatDoorS14
import Derived.Test.YthmdjhlhodpbhaaGreatDoorS18
set_option maxHeartbeats 16000000
set_option maxRecDepth 8000
namespace Go.Proofs.YthmdjhlhodpbhaaGreatDoor
open Go.RowKit
theorem u_behind_any (f : Int) (n cap : Nat) (ao : Option Addr) (w : World) (hf : -4611686018427387904 <= f /\ f <= 4611686018427387904) (hn : n <= 4611686018427387) :
  Calls Tryz.prog 176 #[.agg #[.int .i64 f, .slice ao n cap]] w fun e w' => e = .returned (.int .i64 (f + n)) /\ Below w.heap.size w w' := by
 obtain ⟨h0, h1⟩ := hf
 go_enter Tryz.func176, Tryz.ntmps176
 go_wp2
 go_ret
 exact ⟨rfl, below_alloc w _⟩
theorem u_Covers1_any (f first behind : Int) (n cap p1 p2 : Nat) (ao : Option Addr) (w : World) (hf : -4611686018427387904 <= f /\ f <= 4611686018427387904) (hn : n <= 4611686018427387) (h1 : w.cell? ⟨p1, 0, none⟩ = some (.int .i64 first)) (h2 : w.cell? ⟨p2, 0, none⟩ = some (.int .i64 behind)) :
  Calls Tryz.prog 175 #[.agg #[.int .i64 f, .slice ao n cap], .pointer (some ⟨p1, 0, none⟩), .pointer (some ⟨p2, 0, none⟩)] w fun e w' => e = .returned (.bool (decide (f <= first) && decide (behind <= f + n))) /\ Below w.heap.size w w' := by
 have hl1 := cell_lt h1
 have hl2 := cell_lt h2
 have HB : Hid (∀ W, Calls Tryz.prog 176 #[.agg #[.int .i64 f, .slice ao n cap]] W fun e w' => e = .returned (.int .i64 (f + n)) /\ Below W.heap.size W w') := fun W => u_behind_any f n cap ao W hf hn
 have HA : Hid (∀ W w' : World, Below W.heap.size W w' -> (W.cell? ⟨p1, 0, none⟩ = some (.int .i64 first) /\ W.cell? ⟨p2, 0, none⟩ = some (.int .i64 behind) /\ W.cell? ⟨w.heap.size, 0, none⟩ = some (.int .i64 f) /\ W.cell? ⟨w.heap.size, 1, none⟩ = some (.slice ao n cap)) ->
   (w'.cell? ⟨p1, 0, none⟩ = some (.int .i64 first) /\ w'.cell? ⟨p2, 0, none⟩ = some (.int .i64 behind) /\ w'.cell? ⟨w.heap.size, 0, none⟩ = some (.int .i64 f) /\ w'.cell? ⟨w.heap.size, 1, none⟩ = some (.slice ao n cap))) :=
  fun W w' hb h => ⟨cell_below h.1 hb, cell_below h.2.1 hb, cell_below h.2.2.1 hb, cell_below h.2.2.2 hb⟩
 by_cases hle : f <= first
 ·have hd : decide (f <= first) = true := by simpa using hle
  go_enter Tryz.func175, Tryz.ntmps175
  go_wp2_with fail
  go_region_held3 (fun w' => w'.cell? ⟨p1, 0, none⟩ = some (.int .i64 first) /\ w'.cell? ⟨p2, 0, none⟩ = some (.int .i64 behind) /\ w'.cell? ⟨w.heap.size, 0, none⟩ = some (.int .i64 f) /\ w'.cell? ⟨w.heap.size, 1, none⟩ = some (.slice ao n cap)) (first | assumption | go_keep) (first
   | (go_at_call 176; refine (HB.out _).mono ?_; rintro e wq ⟨rfl, hbq⟩; have hSq := HA.out _ _ hbq (by assumption)))
  go_wp2_with fail
  go_ret
  exact ⟨by rw [hd]; rfl, below_join (below_alloc w _) (below_undrew hbq)⟩
 ·have hd : decide (f <= first) = false := by simpa using hle
  go_enter Tryz.func175, Tryz.ntmps175
  go_wp2_with fail
  go_quiet (fail)
  go_wp2_with fail
  go_ret
  refine ⟨by rw [hd]; rfl, ?_⟩
  exact below_drewN (below_alloc w _) _
theorem u_IndexFunc_any (vs : List RunV) (rl : List RunL) (lv : Value) (first behind : Int) (p1 p2 : Nat) (w : World) (hown : w.ownsRow 0 279 2 lv vs.length (cells2 vs)) (hsh : Shape vs rl) (hb : ∀ r ∈ rl, -4611686018427387904 <= r.1 /\ r.1 <= 4611686018427387904 /\ r.2.length <= 4611686018427387) (hn : vs.length <= 1000)
  (h1 : w.cell? ⟨p1, 0, none⟩ = some (.int .i64 first)) (h2 : w.cell? ⟨p2, 0, none⟩ = some (.int .i64 behind)) :
  Calls Tryz.prog 199 #[lv, .func (.func 175) #[] #[.pointer (some ⟨p1, 0, none⟩), .pointer (some ⟨p2, 0, none⟩)]] w fun e w' =>
   (∃ k : Int, e = .returned (.int .i64 k) /\ (0 <= k ↔ (rl.any fun r => decide (r.1 <= first) && decide (behind <= behindR r)) = true)) /\ Below w.heap.size w w' := by
 obtain ⟨ao, cap, rfl⟩ := own_formN hown
 have HO := hideIt hown
 have HS := hideIt hsh
 have HB := hideIt hb
 clear hown hsh hb
 go_enter Tryz.func199, Tryz.ntmps199
 go_wp2_with fail
 go_loopw [8] (fun i wr => ∃ k : Nat, k <= vs.length /\ i = .int .i64 k /\ Below w.heap.size w wr /\ Hid (∀ (j : Nat) r, j < k -> rl[j]? = some r -> (decide (r.1 <= first) && decide (behind <= behindR r)) = false)) (fun i _ => vs.length - (intOf i).toNat)
 case atStart => exact ⟨0, Nat.zero_le _, rfl, Below.refl _ _, fun j r hj => by omega⟩
 case round =>
  obtain ⟨k, hk, rfl, hbr, hno⟩ := hrel
  by_cases hlt : k < vs.length
  ·obtain ⟨v, hv⟩ : ∃ v, vs[k]? = some v := ⟨_, List.getElem?_eq_getElem hlt⟩
   obtain ⟨r, hr⟩ : ∃ r, rl[k]? = some r := ⟨_, List.getElem?_eq_getElem (by rw [<- HS.out.1]; exact hlt)⟩
   obtain ⟨e1, ao2, cap2, e2, hcap2⟩ := HS.out.2 k v r hv hr
   obtain ⟨v1, v2⟩ := v
   simp only at e1 e2
   subst e1 e2
   have hown := own_below HO.out hbr
   rcases hown.2 with ⟨_, h0⟩ | ⟨g, cap', cur, e3, _, hg, hnc, hcm, hcs, htk⟩
   ·omega
   simp only [Value.slice.injEq] at e3
   obtain ⟨rfl, _, rfl⟩ := e3
   obtain ⟨q1, q2⟩ := cells2_at hv
   have c1 : wr.cell? ⟨g, k * 2, none⟩ = some (.int .i64 r.1) := by rw [hown.cellAt (k * 2) (by omega)]; exact q1
   have c2 : wr.cell? ⟨g, k * 2 + 1, none⟩ = some (.slice ao2 r.2.length cap2) := by rw [hown.cellAt (k * 2 + 1) (by omega)]; exact q2
   have hbd := HB.out r (List.mem_of_getElem? hr)
   have HC := hideIt (u_Covers1_any r.1 first behind r.2.length cap2 p1 p2 ao2 wr ⟨hbd.1, hbd.2.1⟩ hbd.2.2 (cell_below h1 hbr) (cell_below h2 hbr))
   have HR := hideIt hr
   have HBR := hideIt hbr
   have HN := hideIt hno
   clear hown hg htk hcs hcm q1 q2 hbd hr hv hno
   go_wp2_with fail
   refine HC.out.mono ?_
   rintro e w1 ⟨rfl, hb1⟩
   have hbb := hideIt (below_join HBR.out hb1)
   clear hb1 HC HBR hbr c1 c2
   cases hc : (decide (r.1 <= first) && decide (behind <= r.1 + (r.2.length : Int)))
   ·go_wp2_with fail
    go_roundw
    case rel =>
     refine ⟨k + 1, by omega, by go_num, hbb.out, fun j r' hj hr' => ?_⟩
     rcases Nat.lt_or_ge j k with h3 | h3
     ·exact HN.out j r' h3 hr'
     ·obtain rfl : j = k := by omega
      obtain rfl := Option.some.inj (HR.out.symm.trans hr')
      exact hc
    case measure => simp [intOf]; omega
   ·go_wp2_with fail
    go_ret
    refine ⟨⟨k, rfl, ?_⟩, hbb.out⟩
    refine ⟨fun _ => ?_, fun _ => by omega⟩
    rw [List.any_eq_true]
    exact ⟨r, List.mem_of_getElem? HR.out, hc⟩
  ·obtain rfl : k = vs.length := by omega
   have HN := hideIt hno
   have HBR := hideIt hbr
   clear hno hbr
   go_wp2_with fail
   go_ret
   refine ⟨⟨-1, rfl, ?_⟩, HBR.out⟩
   refine ⟨fun h => by omega, fun h => ?_⟩
   rw [List.any_eq_true] at h
   obtain ⟨r, hr, h3⟩ := h
   obtain ⟨j, hj, rfl⟩ := List.getElem_of_mem hr
   have := HN.out j rl[j] (by rw [HS.out.1]; exact hj) (List.getElem?_eq_getElem hj)
   rw [this] at h3
   cases h3
theorem u_Contains_any (vs : List RunV) (rl : List RunL) (lv : Value) (first behind : Int) (p1 p2 : Nat) (w : World) (hown : w.ownsRow 0 279 2 lv vs.length (cells2 vs)) (hsh : Shape vs rl) (hb : ∀ r ∈ rl, -4611686018427387904 <= r.1 /\ r.1 <= 4611686018427387904 /\ r.2.length <= 4611686018427387) (hn : vs.length <= 1000)
  (h1 : w.cell? ⟨p1, 0, none⟩ = some (.int .i64 first)) (h2 : w.cell? ⟨p2, 0, none⟩ = some (.int .i64 behind)) :
  Calls Tryz.prog 174 #[lv, .func (.func 175) #[] #[.pointer (some ⟨p1, 0, none⟩), .pointer (some ⟨p2, 0, none⟩)]] w fun e w' =>
   e = .returned (.bool (rl.any fun r => decide (r.1 <= first) && decide (behind <= behindR r))) /\ Below w.heap.size w w' := by
 have HI := hideIt (u_IndexFunc_any vs rl lv first behind p1 p2 w hown hsh hb hn h1 h2)
 clear hown hsh hb hn h1 h2
 go_enter Tryz.func174, Tryz.ntmps174
 go_wp2_with fail
 refine HI.out.mono ?_
 rintro e w1 ⟨⟨k, rfl, hk⟩, hb1⟩
 have HK := hideIt hk
 clear hk HI
 have hkb : decide (0 <= k) = (rl.any fun r => decide (r.1 <= first) && decide (behind <= behindR r)) := by
  rw [Bool.eq_iff_iff, decide_eq_true_iff]
  exact HK.out
 replace hkb := hideIt hkb
 go_wp2_with fail
 go_ret
 refine ⟨?_, hb1⟩
 rw [<- hkb.out]
 rfl
theorem u_Covers_any (vs : List RunV) (rl : List RunL) (lv : Value) (first behind : Int) (rb off : Nat) (w : World) (hc : w.cell? ⟨rb, off, none⟩ = some lv) (hown : w.ownsRow 0 279 2 lv vs.length (cells2 vs)) (hsh : Shape vs rl) (hb : ∀ r ∈ rl, -4611686018427387904 <= r.1 /\ r.1 <= 4611686018427387904 /\ r.2.length <= 4611686018427387) (hn : vs.length <= 1000) :
  Calls Tryz.prog 148 #[.pointer (some ⟨rb, off, none⟩), .int .i64 first, .int .i64 behind] w fun e w' => e = .returned (.bool (coversR rl first behind)) /\ Below w.heap.size w w' := by
 have hlt := cell_lt hc
 obtain ⟨ao, cap, rfl⟩ := own_formN hown
 have hbb : Below w.heap.size w ((w.alloc (.cells #[.int .i64 first] 3)).alloc (.cells #[.int .i64 behind] 3)) := (below_alloc w _).alloc (by simp) _
 have HI := hideIt (u_Contains_any vs rl _ first behind w.heap.size (w.heap.size + 1) _ (own_below hown hbb) hsh hb hn (by simp) (by simp))
 have HB := hideIt hbb
 clear hown hsh hb hn hbb
 by_cases hle : behind <= first
 ·have hd : decide (behind <= first) = true := by simpa using hle
  go_enter Tryz.func148, Tryz.ntmps148
  go_wp2_with fail
  go_ret
  exact ⟨by unfold coversR; rw [hd]; rfl, HB.out⟩
 ·have hd : decide (behind <= first) = false := by simpa using hle
  go_enter Tryz.func148, Tryz.ntmps148
  go_wp2_with fail
  refine HI.out.mono ?_
  rintro e w1 ⟨rfl, hb1⟩
  have hbb := hideIt (below_join HB.out hb1)
  clear hb1 HI HB
  go_wp2_with fail
  go_ret
  exact ⟨by unfold coversR; rw [hd, Bool.false_or]; rfl, hbb.out⟩
abbrev u_TouchS (rb off g b0 k : Nat) (lv : Value) (f : Int) (iv : Value) (a : Int) (av : Value) (w : World) : Prop :=
 w.cell? ⟨rb, off, none⟩ = some lv /\ w.cell? ⟨g, k * 2, none⟩ = some (.int .i64 f) /\ w.cell? ⟨g, k * 2 + 1, none⟩ = some iv /\ w.cell? ⟨b0, 0, none⟩ = some (.int .i64 a) /\ w.cell? ⟨b0, 1, none⟩ = some av
theorem u_TouchS.below {rb off g b0 k : Nat} {lv : Value} {f : Int} {iv : Value} {a : Int} {av : Value} {w w' : World} (h : u_TouchS rb off g b0 k lv f iv a av w) (hb : Below w.heap.size w w') : u_TouchS rb off g b0 k lv f iv a av w' :=
 ⟨cell_below h.1 hb, cell_below h.2.1 hb, cell_below h.2.2.1 hb, cell_below h.2.2.2.1 hb, cell_below h.2.2.2.2 hb⟩
theorem u_touching_any (vs : List RunV) (rl : List RunL) (lv : Value) (a : RunL) (aa : Option Addr) (ac : Nat) (rb off : Nat) (w : World) (hc : w.cell? ⟨rb, off, none⟩ = some lv) (hown : w.ownsRow 0 279 2 lv vs.length (cells2 vs)) (hsh : Shape vs rl) (hb : ∀ r ∈ rl, -4611686018427387904 <= r.1 /\ r.1 <= 4611686018427387904 /\ r.2.length <= 4611686018427387) (hn : vs.length <= 1000)
  (ha : -4611686018427387904 <= a.1 /\ a.1 <= 4611686018427387904 /\ a.2.length <= 4611686018427387) :
  Calls Tryz.prog 177 #[.pointer (some ⟨rb, off, none⟩), .agg #[.int .i64 a.1, .slice aa a.2.length ac]] w fun e w' => e = .returned (.tuple #[.int .i64 (fromR rl a), .int .i64 (toR rl a)]) /\ Below w.heap.size w w' := by
 obtain ⟨ao, cap, rfl⟩ := own_formN hown
 have hlt := cell_lt hc
 have hbb : Below w.heap.size w (w.alloc (.cells #[.int .i64 a.1, .slice aa a.2.length ac] 279)) := below_alloc w _
 have hlen := hsh.1
 have HK : Hid (∀ (k : Nat) (wr : World), k < vs.length -> Below (w.heap.size + 1) (w.alloc (.cells #[.int .i64 a.1, .slice aa a.2.length ac] 279)) wr -> ∃ g r ri rc, ao = some ⟨g, 0, none⟩ /\ rl[k]? = some r /\ u_TouchS rb off g w.heap.size k (.slice ao vs.length cap) r.1 (.slice ri r.2.length rc) a.1 (.slice aa a.2.length ac) wr /\ -4611686018427387904 <= r.1 /\ r.1 <= 4611686018427387904 /\ r.2.length <= 4611686018427387) := by
  intro k wr hk hbr
  have hbw : Below w.heap.size w wr := below_join hbb (by simpa using hbr)
  obtain ⟨v, hv⟩ : ∃ v, vs[k]? = some v := ⟨_, List.getElem?_eq_getElem hk⟩
  obtain ⟨r, hr⟩ : ∃ r, rl[k]? = some r := ⟨_, List.getElem?_eq_getElem (by rw [<- hlen]; exact hk)⟩
  obtain ⟨e1, ao2, cap2, e2, _⟩ := hsh.2 k v r hv hr
  obtain ⟨v1, v2⟩ := v
  simp only at e1 e2
  subst e1 e2
  have hown2 := own_below hown hbw
  rcases hown2.2 with ⟨_, h0⟩ | ⟨g, cap', cur, e3, _, hg, hnc, hcm, hcs, htk⟩
  ·omega
  simp only [Value.slice.injEq] at e3
  obtain ⟨rfl, _, rfl⟩ := e3
  obtain ⟨q1, q2⟩ := cells2_at hv
  have hbd := hb r (List.mem_of_getElem? hr)
  refine ⟨g, r, ao2, cap2, rfl, hr, ⟨cell_below hc hbw, ?_, ?_, ?_, ?_⟩, hbd⟩
  ·rw [hown2.cellAt (k * 2) (by omega)]; exact q1
  ·rw [hown2.cellAt (k * 2 + 1) (by omega)]; exact q2
  ·rw [hbr.cell (by simp)]; simp
  ·rw [hbr.cell (by simp)]; simp
 have HL : Hid (∀ wr, Below (w.heap.size + 1) (w.alloc (.cells #[.int .i64 a.1, .slice aa a.2.length ac] 279)) wr -> wr.cell? ⟨rb, off, none⟩ = some (.slice ao vs.length cap)) := by
  intro wr hbr
  exact cell_below hc (below_join hbb (by simpa using hbr))
 have HBd := hideIt ha
 have HLen := hideIt hlen
 have HBB := hideIt hbb
 clear hown hsh hb hc hlen hbb ha
 go_enter Tryz.func177, Tryz.ntmps177
 go_wp2_with fail
 go_loopw [6] (fun i wr => ∃ k : Nat, k <= vs.length /\ i = .int .i64 k /\ Below (w.heap.size + 1) (w.alloc (.cells #[.int .i64 a.1, .slice aa a.2.length ac] 279)) wr /\ Hid (∀ (j : Nat) r, j < k -> rl[j]? = some r -> decide (behindR r < a.1) = true)) (fun i _ => vs.length - (intOf i).toNat)
 case atStart => exact ⟨0, Nat.zero_le _, rfl, Below.refl _ _, fun j r hj => by omega⟩
 case round =>
  obtain ⟨k, hk, rfl, hbr, hno⟩ := hrel
  by_cases hkl : k < vs.length
  ·obtain ⟨g, r, ri, rc, rfl, hr, hT, hr0, hr1, hr2⟩ := HK.out k wr hkl hbr
   have hd : decide ((k : Int) < (vs.length : Int)) = true := by simp; omega
   have HX : Hid (∀ W, Calls Tryz.prog 176 #[.agg #[.int .i64 r.1, .slice ri r.2.length rc]] W fun e w' => e = .returned (.int .i64 (r.1 + r.2.length)) /\ Below W.heap.size W w') := fun W => u_behind_any r.1 r.2.length rc ri W ⟨hr0, hr1⟩ hr2
   obtain ⟨t1, t2, t3, t4, t5⟩ := id hT
   have HBR := hideIt hbr
   have HN := hideIt hno
   have HR := hideIt hr
   clear hbr hno hr
   go_wp2_with fail
   go_region_held3 (fun w' => w'.cell? ⟨rb, off, none⟩ = some (.slice (some ⟨g, 0, none⟩) vs.length cap) /\ w'.cell? ⟨g, k * 2, none⟩ = some (.int .i64 r.1) /\ w'.cell? ⟨g, k * 2 + 1, none⟩ = some (.slice ri r.2.length rc) /\ w'.cell? ⟨w.heap.size, 0, none⟩ = some (.int .i64 a.1) /\ w'.cell? ⟨w.heap.size, 1, none⟩ = some (.slice aa a.2.length ac)) (first | assumption | go_keep) (first
    | (go_at_call 176; refine (HX.out _).mono ?_; rintro e wq ⟨rfl, hbq⟩; have hSq := u_TouchS.below (by assumption) hbq))
   have HBx := hideIt (below_more HBR.out hbq)
   clear hbq hSq hT t1 t2 t3 t4 t5 HX HBR
   by_cases hc1 : r.1 + (r.2.length : Int) < a.1
   ·go_wp2_with fail
    go_roundw
    case rel =>
     refine ⟨k + 1, by omega, by go_num, HBx.out, fun j r' hj hr' => ?_⟩
     rcases Nat.lt_or_ge j k with h3 | h3
     ·exact HN.out j r' h3 hr'
     ·obtain rfl : j = k := by omega
      obtain rfl := Option.some.inj (HR.out.symm.trans hr')
      exact decide_eq_true hc1
    case measure => simp [intOf]; omega
   ·have HF : Hid (fromR rl a = k) := tw_length (by rw [<- HLen.out]; exact hk) HN.out (fun r' hr' => by
     obtain rfl := Option.some.inj (HR.out.symm.trans hr')
     exact decide_eq_false (by unfold behindR; exact hc1))
    clear HN HR
    go_wp2_with fail
    go_loopw [7] (fun i wr => ∃ m : Nat, k <= m /\ m <= vs.length /\ i = .int .i64 m /\ Below (w.heap.size + 1) (w.alloc (.cells #[.int .i64 a.1, .slice aa a.2.length ac] 279)) wr /\ Hid (∀ (j : Nat) r, k <= j -> j < m -> rl[j]? = some r -> decide (r.1 <= behindR a) = true)) (fun i _ => vs.length - (intOf i).toNat)
    case atStart => exact ⟨k, Nat.le_refl _, hk, rfl, HBx.out, fun j r h1 h2 => by omega⟩
    case round =>
     obtain ⟨m, hkm, hm, rfl, hbr2, hno2⟩ := hrel
     by_cases hml : m < vs.length
     ·obtain ⟨g2, r2, ri2, rc2, e2, hr2', hT2, hs0, hs1, hs2⟩ := HK.out m wr hml hbr2
      first | subst e2 | (obtain rfl := Addr.mk.inj (Option.some.inj e2) |>.1)
      have hd2 : decide ((m : Int) < (vs.length : Int)) = true := (by simp; omega)
      have HX2 : Hid (∀ W, Calls Tryz.prog 176 #[.agg #[.int .i64 a.1, .slice aa a.2.length ac]] W fun e w' => e = .returned (.int .i64 (a.1 + a.2.length)) /\ Below W.heap.size W w') := fun W => u_behind_any a.1 a.2.length ac aa W ⟨HBd.out.1, HBd.out.2.1⟩ HBd.out.2.2
      obtain ⟨u1, u2, u3, u4, u5⟩ := id hT2
      have HBR2 := hideIt hbr2
      have HN2 := hideIt hno2
      have HR2 := hideIt hr2'
      clear hbr2 hno2 hr2'
      go_wp2_with fail
      go_region_held3 (fun w' => w'.cell? ⟨rb, off, none⟩ = some (.slice (some ⟨g, 0, none⟩) vs.length cap) /\ w'.cell? ⟨g, m * 2, none⟩ = some (.int .i64 r2.1) /\ w'.cell? ⟨g, m * 2 + 1, none⟩ = some (.slice ri2 r2.2.length rc2) /\ w'.cell? ⟨w.heap.size, 0, none⟩ = some (.int .i64 a.1) /\ w'.cell? ⟨w.heap.size, 1, none⟩ = some (.slice aa a.2.length ac)) (first | assumption | go_keep) (first
       | (go_at_call 176; refine (HX2.out _).mono ?_; rintro e wq2 ⟨rfl, hbq2⟩; have hSq2 := u_TouchS.below (by assumption) hbq2))
      have HBQ2 := hideIt (below_more HBR2.out hbq2)
      clear hbq2 hSq2 hT2 u1 u2 u3 u4 u5 HX2
      by_cases hc2 : r2.1 <= a.1 + (a.2.length : Int)
      ·go_wp2_with fail
       go_roundw
       case rel =>
        refine ⟨m + 1, by omega, by omega, by go_num, HBQ2.out, fun j r' h1 h2 hr' => ?_⟩
        rcases Nat.lt_or_ge j m with h3 | h3
        ·exact HN2.out j r' h1 h3 hr'
        ·obtain rfl : j = m := by omega
         obtain rfl := Option.some.inj (HR2.out.symm.trans hr')
         exact decide_eq_true hc2
       case measure => simp [intOf]; omega
      ·have HT : Hid (toR rl a = m) := to_is HF.out hkm (by rw [<- HLen.out]; exact hm) HN2.out (fun r' hr' => by
        obtain rfl := Option.some.inj (HR2.out.symm.trans hr')
        exact decide_eq_false (by unfold behindR; exact hc2))
       go_wp2_with fail
       go_ret2
       exact ⟨by rw [HF.out, HT.out]; rfl, below_join HBB.out (by simpa using HBQ2.out)⟩
     ·obtain rfl : m = vs.length := by omega
      have hd2 : decide (((vs.length : Nat) : Int) < (vs.length : Int)) = false := by simp
      have hl2 := HL.out wr hbr2
      have HBR2 := hideIt hbr2
      have HT : Hid (toR rl a = vs.length) := to_is HF.out hkm (by rw [<- HLen.out]; exact hm) hno2 (fun r' hr' => by
       have := (List.getElem?_eq_some_iff.1 hr').1
       have := HLen.out
       omega)
      clear hbr2 hno2
      go_wp2_with fail
      go_quiet (fail)
      go_wp2_with fail
      go_ret2
      exact ⟨by rw [HF.out, HT.out]; rfl, below_join HBB.out (by simpa using below_drewN HBR2.out _)⟩
  ·obtain rfl : k = vs.length := by omega
   have hd : decide (((vs.length : Nat) : Int) < (vs.length : Int)) = false := by simp
   have hl1 := HL.out wr hbr
   have HF : Hid (fromR rl a = vs.length) := tw_length (by rw [<- HLen.out]; exact hk) hno (fun r' hr' => by
    have := (List.getElem?_eq_some_iff.1 hr').1
    have := HLen.out
    omega)
   have HBr := hideIt hbr
   clear hbr hno
   go_wp2_with fail
   go_quiet (fail)
   have HBx := hideIt (below_drewN HBr.out nq)
   clear HBr
   go_wp2_with fail
   go_loopw [7] (fun i wr => ∃ m : Nat, vs.length <= m /\ m <= vs.length /\ i = .int .i64 m /\ Below (w.heap.size + 1) (w.alloc (.cells #[.int .i64 a.1, .slice aa a.2.length ac] 279)) wr /\ Hid (∀ (j : Nat) r, vs.length <= j -> j < m -> rl[j]? = some r -> decide (r.1 <= behindR a) = true)) (fun i _ => vs.length - (intOf i).toNat)
   case atStart => exact ⟨vs.length, Nat.le_refl _, hk, rfl, HBx.out, fun j r h1 h2 => by omega⟩
   case round =>
    obtain ⟨m, hkm, hm, rfl, hbr2, hno2⟩ := hrel
    obtain rfl : m = vs.length := by omega
    have hd2 : decide (((vs.length : Nat) : Int) < (vs.length : Int)) = false := by simp
    have hl2 := HL.out wr hbr2
    have HBR2 := hideIt hbr2
    have HT : Hid (toR rl a = vs.length) := to_is HF.out hkm (by rw [<- HLen.out]; exact hm) hno2 (fun r' hr' => by
     have := (List.getElem?_eq_some_iff.1 hr').1
     have := HLen.out
     omega)
    clear hbr2 hno2
    go_wp2_with fail
    go_quiet (fail)
    go_wp2_with fail
    go_ret2
    exact ⟨by rw [HF.out, HT.out]; rfl, below_join HBB.out (by simpa using below_drewN HBR2.out _)⟩
theorem info_unit : (Tryz.prog.info? 230).map (fun i => (i.zero, i.size, i.bytes)) = some (some (.agg #[]), 0, 0) := by kernel_rfl
theorem make_unit (n : Nat) (hn : n <= 4611686018427) (u : World) : (Instr.makeSlice 232 (.int .i64 (n : Int)) (.int .i64 (n : Int))).run Tryz.prog u = .ok (.slice (some ⟨u.heap.size, 0, none⟩) n n) (u.alloc (.cells #[] 230)) := by
 obtain ⟨i0, hi0, hz0, hz1, hz2⟩ := info_parts info_unit
 have h := run_make (P := Tryz.prog) u 232 230 i0 (.agg #[]) Tryz.underlying232 hi0 hz0 .i64 .i64 (n : Int) (n : Int) (by omega) (Int.le_refl _) (by rw [hz2]; omega) (by omega)
 have e : ((n : Nat) : Int).toNat = n := by omega
 have e3 : madeCells (Value.agg #[]).cells 0 = #[] := Array.eq_empty_of_size_eq_zero (by simp [madeCells])
 rw [e, hz1, Nat.mul_zero, e3] at h
 exact h
theorem copy_unit (d s : Option Addr) (dl dc sl sc : Nat) (ty : TypeId) (W : World) : (Builtin.copy_ #[232, 232] ty #[.slice d dl dc, .slice s sl sc]).run Tryz.prog W = .ok (goInt (Nat.min sl dl)) W := by
 obtain ⟨i0, hi0, hz0, hz1, hz2⟩ := info_parts info_unit
 have hf : (Builtin.firstCells i0.size (Nat.min sl dl) (.slice s sl sc)).run Tryz.prog W = .ok #[] W := by
  cases s with
  | none => exact run_firstCells_none (P := Tryz.prog) W i0.size _ sl sc
  | some a => exact run_firstCells_some (P := Tryz.prog) W i0.size _ a sl sc [] (by rw [hz1]; simp) (fun j v h => by simp at h)
 cases d with
 | none => simp [Builtin.copy_, run_underlying Tryz.underlying232, Builtin.lenOf, sizeOf, typeInfo, hi0, hf]
 | some a => simp [Builtin.copy_, run_underlying Tryz.underlying232, Builtin.lenOf, sizeOf, typeInfo, hi0, hf, storeCells]
theorem u_join_any (a : RunL) (av tv : Value) (vs : List RunV) (M : List RunL) (w : World) (ha : ∃ aa ac, av = .slice aa a.2.length ac) (ha0 : 0 < a.2.length) (hp : Part w tv vs) (hsh : Shape vs M) (hpos : ∀ r ∈ M, 0 < r.2.length)
  (hb : ∀ r ∈ a :: M, 0 <= r.1 /\ behindR r <= 1099511627776) (hn : vs.length <= 1000) :
  Calls Tryz.prog 179 #[.agg #[.int .i64 a.1, av], tv] w fun e w' => ∃ J n, e = .returned (.agg #[.int .i64 (joinR a M).1, .slice (some ⟨J, 0, none⟩) n n]) /\ n = (joinR a M).2.length /\ w.heap.size <= J /\ Below w.heap.size w w' := by
 obtain ⟨ta, tc, rfl, hpk⟩ := hp
 obtain ⟨aa, ac, rfl⟩ := ha
 have hA := hb a (by simp)
 have hAb : behindR a = a.1 + a.2.length := rfl
 have HX : Hid (∀ W, Calls Tryz.prog 176 #[.agg #[.int .i64 a.1, .slice aa a.2.length ac]] W fun e w' => e = .returned (.int .i64 (a.1 + a.2.length)) /\ Below W.heap.size W w') := fun W => u_behind_any a.1 a.2.length ac aa W (by omega) (by omega)
 have HA : Hid (∀ W w' : World, Below W.heap.size W w' -> (W.cell? ⟨w.heap.size, 0, none⟩ = some (.int .i64 a.1) /\ W.cell? ⟨w.heap.size, 1, none⟩ = some (.slice aa a.2.length ac)) -> (w'.cell? ⟨w.heap.size, 0, none⟩ = some (.int .i64 a.1) /\ w'.cell? ⟨w.heap.size, 1, none⟩ = some (.slice aa a.2.length ac))) :=
  fun W w' hb h => ⟨cell_below h.1 hb, cell_below h.2 hb⟩
 go_enter Tryz.func179, Tryz.ntmps179
 go_wp2_with fail
 go_region_held3 (fun w' => w'.cell? ⟨w.heap.size, 0, none⟩ = some (.int .i64 a.1) /\ w'.cell? ⟨w.heap.size, 1, none⟩ = some (.slice aa a.2.length ac)) (first | assumption | go_keep) (first
  | (go_at_call 176; refine (HX.out _).mono ?_; rintro e wq ⟨rfl, hbq⟩; have hSq := HA.out _ _ hbq (by assumption)))
 have hBq : Below w.heap.size w wq := below_join ((below_alloc w _).alloc (by simp) _) (below_undrew hbq)
 have hR : wq.heap[w.heap.size + 1]? = some (.cells #[.int .i64 0, .slice none 0 0] 279 (0, 0)) := by
  rw [hbq.block (w.heap.size + 1) (by simp [World.drew])]
  have := heap_alloc_new (w.alloc (.cells #[.int .i64 a.1, .slice aa a.2.length ac] 279)) (.cells #[.int .i64 0, .slice none 0 0] 279)
  simpa [World.drew] using this
 obtain ⟨s0, s1⟩ := hSq
 have hWs : w.heap.size + 2 <= wq.heap.size := by have := hbq.size; simpa [World.drew] using this
 have HBq := hideIt hBq
 have HR := hideIt hR
 have HS0 := hideIt s0
 have HS1 := hideIt s1
 have HK : Hid (∀ (k : Nat) (wr : World), k < vs.length -> Below wq.heap.size wq wr -> ∃ g o r rv rc, ta = some ⟨g, o, none⟩ /\ M[k]? = some r /\ wr.cell? ⟨g, o + k * 2, none⟩ = some (.int .i64 r.1) /\ wr.cell? ⟨g, o + k * 2 + 1, none⟩ = some (.slice rv r.2.length rc) /\ 0 <= r.1 /\ behindR r <= 1099511627776 /\ 0 < r.2.length) := by
  intro k wr hk hbr
  have hbw : Below w.heap.size w wr := below_join HBq.out hbr
  obtain ⟨v, hv⟩ : ∃ v, vs[k]? = some v := ⟨_, List.getElem?_eq_getElem hk⟩
  obtain ⟨r, hr⟩ : ∃ r, M[k]? = some r := ⟨_, List.getElem?_eq_getElem (by rw [<- hsh.1]; exact hk)⟩
  obtain ⟨e1, ao2, cap2, e2, _⟩ := hsh.2 k v r hv hr
  obtain ⟨g, o, e3, c1, c2⟩ := hpk k v hv
  have h5 := hb r (by simp [List.mem_of_getElem? hr])
  rw [e2] at c2
  rw [e1] at c1
  exact ⟨g, o, r, ao2, cap2, e3, hr, cell_below c1 hbw, cell_below c2 hbw, h5.1, h5.2, hpos r (List.mem_of_getElem? hr)⟩
 have HLen := hideIt hsh.1
 have HLo : Hid (∀ k, 0 <= loR a (M.take k) /\ loR a (M.take k) <= a.1 /\ behindR a <= hiR a (M.take k) /\ hiR a (M.take k) <= 1099511627776) := by
  intro k
  have h1 := loR_le (M := M.take k) a
  have h2 := hiR_ge (M := M.take k) a
  refine ⟨?_, h1.1, h2.1, ?_⟩
  ·rcases loR_is (M := M.take k) a with h | ⟨q, hq, h⟩
   ·rw [h]; exact hA.1
   ·rw [h]; exact (hb q (by simp [List.mem_of_mem_take hq])).1
  ·rcases hiR_is (M := M.take k) a with h | ⟨q, hq, h⟩
   ·rw [h]; exact hA.2
   ·rw [h]; exact (hb q (by simp [List.mem_of_mem_take hq])).2
 clear hpk hsh hpos hb hbq hBq hR s0 s1 HX HA
 go_wp2_with fail
 go_loopw [5, 6, 18] (fun s5 s6 i wr => ∃ k : Nat, k <= vs.length /\ i = .int .i64 k /\ s5 = .int .i64 (loR a (M.take k)) /\ s6 = .int .i64 (hiR a (M.take k)) /\ Below wq.heap.size wq wr) (fun _ _ i _ => vs.length - (intOf i).toNat)
 case atStart => exact ⟨0, Nat.zero_le _, rfl, rfl, rfl, Below.refl _ _⟩
 case round =>
  obtain ⟨k, hk, rfl, rfl, rfl, hbr⟩ := hrel
  have hL := HLo.out k
  by_cases hkl : k < vs.length
  ·obtain ⟨g, o, r, rv, rc, rfl, hr, c1, c2, hr0, hr1, hr2⟩ := HK.out k wr hkl hbr
   have hrb : behindR r = r.1 + r.2.length := rfl
   have HX : Hid (∀ W, Calls Tryz.prog 176 #[.agg #[.int .i64 r.1, .slice rv r.2.length rc]] W fun e w' => e = .returned (.int .i64 (r.1 + r.2.length)) /\ Below W.heap.size W w') := fun W => u_behind_any r.1 r.2.length rc rv W (by omega) (by omega)
   have HA : Hid (∀ W w' : World, Below W.heap.size W w' -> (W.cell? ⟨wr.heap.size, 0, none⟩ = some (.int .i64 r.1) /\ W.cell? ⟨wr.heap.size, 1, none⟩ = some (.slice rv r.2.length rc)) -> (w'.cell? ⟨wr.heap.size, 0, none⟩ = some (.int .i64 r.1) /\ w'.cell? ⟨wr.heap.size, 1, none⟩ = some (.slice rv r.2.length rc))) :=
    fun W w' hb h => ⟨cell_below h.1 hb, cell_below h.2 hb⟩
   have HT : Hid (M.take (k + 1) = M.take k ++ [r]) := take_snocN hr
   have HBR := hideIt hbr
   clear hbr hr
   generalize hlo : loR a (M.take k) = lo at hL
   generalize hhi : hiR a (M.take k) = hi at hL
   have HLO := hideIt hlo
   have HHI := hideIt hhi
   clear hlo hhi
   obtain ⟨l1, l2, l3, l4⟩ := hL
   go_wp2_with fail
   rcases Int.lt_or_le r.1 lo with hm1 | hm1 <;> rcases Int.lt_or_le hi (r.1 + (r.2.length : Int)) with hm2 | hm2
   all_goals go_region_held3 (fun w' => w'.cell? ⟨wr.heap.size, 0, none⟩ = some (.int .i64 r.1) /\ w'.cell? ⟨wr.heap.size, 1, none⟩ = some (.slice rv r.2.length rc)) (first | assumption | go_keep) (first
    | (go_at_call 176; refine (HX.out _).mono ?_; rintro e wz ⟨rfl, hbz⟩; have hSz := HA.out _ _ hbz (by assumption)))
   all_goals
    have hBz : Below wq.heap.size wq wz := below_join HBR.out (below_join (below_alloc wr _) (below_undrew hbz))
    replace hBz := hideIt hBz
    clear hbz hSz HX HA
    go_wp2_with fail
    go_roundw
    case rel =>
     refine ⟨k + 1, by omega, by go_num, congrArg (Value.int .i64) ?_, congrArg (Value.int .i64) ?_, hBz.out⟩
     ·rw [HT.out, loR_snoc, HLO.out] <;> omega
     ·rw [HT.out, hiR_snoc, HHI.out]; unfold behindR; omega
    case measure => simp [intOf]; omega
  ·obtain rfl : k = vs.length := by omega
   have hMt : M.take vs.length = M := List.take_of_length_le (by rw [HLen.out]; exact Nat.le_refl _)
   rw [hMt] at hL ⊢
   have s0r := cell_below HS0.out hbr
   have s1r := cell_below HS1.out hbr
   have HBR := hideIt hbr
   have hlt : loR a M < hiR a M := by omega
   have HJ1 : Hid ((joinR a M).1 = loR a M) := rfl
   have HJ2 : Hid ((joinR a M).2 = layR (loR a M) (overlay (List.replicate (hiR a M - loR a M).toNat 0) (a.1 - loR a M).toNat a.2) M) := rfl
   have HIn : Hid (∀ r ∈ M, loR a M <= r.1 /\ behindR r <= hiR a M) := fun r hr => ⟨(loR_le (M := M) a).2 r hr, (hiR_ge (M := M) a).2 r hr⟩
   clear hbr hMt
   generalize loR a M = lo at hL hlt HJ1 HJ2 HIn ⊢
   generalize hiR a M = hi at hL hlt HJ2 HIn ⊢
   obtain ⟨l1, l2, l3, l4⟩ := hL
   obtain ⟨n, hn2⟩ : ∃ n : Nat, hi - lo = n := ⟨(hi - lo).toNat, by omega⟩
   have hw1 : IntKind.i64.wrap (hi - lo) = (n : Int) := by rw [IntKind.wrap_i64]; omega
   have hsz : (hi - lo).toNat = n := by omega
   have HJl : Hid ((joinR a M).2.length = n) := by
    show _ = _
    rw [HJ2.out, layR_length, overlay_length]
    ·simp [hsz]
    ·simp only [List.length_replicate]; omega
    ·intro q hq
     have h5 := HIn.out q hq
     unfold behindR at h5
     rw [overlay_length (by simp only [List.length_replicate]; omega)]
     simp only [List.length_replicate]
     omega
   have hmk := make_unit n (by omega)
   have hcu := copy_unit
   have s0m : ((wr.alloc (.cells #[] 230)).alloc (.cells #[.int .i64 lo, .slice (some ⟨wr.heap.size, 0, none⟩) n n] 279)).cell? ⟨w.heap.size, 0, none⟩ = some (.int .i64 a.1) := cell_below s0r ((below_alloc wr _).alloc (by simp) _)
   have s1m : ((wr.alloc (.cells #[] 230)).alloc (.cells #[.int .i64 lo, .slice (some ⟨wr.heap.size, 0, none⟩) n n] 279)).cell? ⟨w.heap.size, 1, none⟩ = some (.slice aa a.2.length ac) := cell_below s1r ((below_alloc wr _).alloc (by simp) _)
   clear s0r s1r
   replace hcu := hideIt hcu
   go_wp2_with fail
   have hBW : Below wr.heap.size wr ((wr.alloc (.cells #[] 230)).alloc (.cells #[.int .i64 lo, .slice (some ⟨wr.heap.size, 0, none⟩) n n] 279)) := (below_alloc wr _).alloc (by simp) _
   have h9 : ((wr.alloc (.cells #[] 230)).alloc (.cells #[.int .i64 lo, .slice (some ⟨wr.heap.size, 0, none⟩) n n] 279)).heap[wr.heap.size + 1]? = some (.cells #[.int .i64 lo, .slice (some ⟨wr.heap.size, 0, none⟩) n n] 279 (0, 0)) := by
    have := heap_alloc_new (wr.alloc (.cells #[] 230)) (.cells #[.int .i64 lo, .slice (some ⟨wr.heap.size, 0, none⟩) n n] 279)
    simpa using this
   generalize (wr.alloc (.cells #[] 230)).alloc (.cells #[.int .i64 lo, .slice (some ⟨wr.heap.size, 0, none⟩) n n] 279) = W2 at hBW h9 s0m s1m ⊢
   have c91 : W2.cell? ⟨wr.heap.size + 1, 1, none⟩ = some (.slice (some ⟨wr.heap.size, 0, none⟩) n n) := by simp [World.cell?, h9]
   obtain ⟨d, hd⟩ : ∃ d : Nat, a.1 - lo = d := ⟨(a.1 - lo).toNat, by omega⟩
   have hw2 : IntKind.i64.wrap (a.1 - lo) = (d : Int) := by rw [IntKind.wrap_i64]; omega
   have hw3 : IntKind.i64.wrap (d : Int) = (d : Int) := by rw [IntKind.wrap_i64]; omega
   have hdn1 : (d : Int) <= (n : Int) := by omega
   have hdn2 : ¬ (n = d) := by omega
   have H9 := hideIt h9
   have HBW := hideIt hBW
   clear h9 hBW hmk
   go_region_held3 (fun w' => w'.cell? ⟨wr.heap.size + 1, 1, none⟩ = some (.slice (some ⟨wr.heap.size, 0, none⟩) n n) /\ w'.cell? ⟨w.heap.size, 0, none⟩ = some (.int .i64 a.1) /\ w'.cell? ⟨w.heap.size, 1, none⟩ = some (.slice aa a.2.length ac)) (first | assumption | go_keep) (first
    | (refine step_copy_run rfl (.tmp 43) (.tmp 45) 232 232 rfl (.slice (some ⟨wr.heap.size, 0, none⟩) (n - d) (n - d)) (.slice aa a.2.length ac) (by kernel_rfl) (by kernel_rfl) (hcu.out _ _ _ _ _ _ _ _) ?_))
   have hb3 : Below wq.heap.size wq W2.drew := below_drewN (below_join HBR.out HBW.out) 1
   have h93 : W2.drew.heap[wr.heap.size + 1]? = some (.cells #[.int .i64 lo, .slice (some ⟨wr.heap.size, 0, none⟩) n n] 279 (0, 0)) := H9.out
   have hJw : wq.heap.size <= wr.heap.size := HBR.out.size
   generalize W2.drew = W3 at *
   generalize wr.heap.size = J at *
   have H3 := hideIt (And.intro hb3 h93)
   clear H9 HBW s0m s1m c91 hb3 h93 HBR
   go_wp2_with fail
   go_loopw [49] (fun i wr => ∃ k : Nat, k <= vs.length /\ i = .int .i64 k /\ Hid (Below wq.heap.size wq wr /\ wr.heap[J + 1]? = some (.cells #[.int .i64 lo, .slice (some ⟨J, 0, none⟩) n n] 279 (0, 0)))) (fun i _ => vs.length - (intOf i).toNat)
   case atStart => exact ⟨0, Nat.zero_le _, rfl, H3.out⟩
   case round =>
    obtain ⟨k, hk, rfl, hI⟩ := hrel
    obtain ⟨hbr, h9r⟩ := hI.out
    have c91 : wr.cell? ⟨J + 1, 1, none⟩ = some (.slice (some ⟨J, 0, none⟩) n n) := by simp [World.cell?, h9r]
    by_cases hkl : k < vs.length
    ·obtain ⟨g, o, r, rv, rc, rfl, hr, c1, c2, hr0, hr1, hr2⟩ := HK.out k wr hkl hbr
     have hin := HIn.out r (List.mem_of_getElem? hr)
     have hrb : behindR r = r.1 + r.2.length := rfl
     obtain ⟨d2, hd2⟩ : ∃ d2 : Nat, r.1 - lo = d2 := ⟨(r.1 - lo).toNat, by omega⟩
     have hx1 : IntKind.i64.wrap (r.1 - lo) = (d2 : Int) := by rw [IntKind.wrap_i64]; omega
     have hx2 : IntKind.i64.wrap (d2 : Int) = (d2 : Int) := by rw [IntKind.wrap_i64]; omega
     have hx4 : (d2 : Int) <= (n : Int) := by omega
     have hx5 : ¬ (n = d2) := by omega
     have hbx : Below wr.heap.size wr (wr.alloc (.cells #[.int .i64 r.1, .slice rv r.2.length rc] 279)) := below_alloc wr _
     have h9l : J + 1 < wr.heap.size := (Array.getElem?_eq_some_iff.1 h9r).1
     have c91x : (wr.alloc (.cells #[.int .i64 r.1, .slice rv r.2.length rc] 279)).cell? ⟨J + 1, 1, none⟩ = some (.slice (some ⟨J, 0, none⟩) n n) := cell_below c91 hbx
     have H4 : Hid (Below wq.heap.size wq (wr.alloc (.cells #[.int .i64 r.1, .slice rv r.2.length rc] 279)).drew /\ (wr.alloc (.cells #[.int .i64 r.1, .slice rv r.2.length rc] 279)).drew.heap[J + 1]? = some (.cells #[.int .i64 lo, .slice (some ⟨J, 0, none⟩) n n] 279 (0, 0))) :=
      ⟨below_drewN (below_join hbr hbx) 1, (hbx.block _ h9l).trans h9r⟩
     clear hI hbr h9r hr hbx
     go_wp2_with fail
     go_region_held3 (fun w' => w'.cell? ⟨J + 1, 1, none⟩ = some (.slice (some ⟨J, 0, none⟩) n n) /\ w'.cell? ⟨wr.heap.size, 0, none⟩ = some (.int .i64 r.1) /\ w'.cell? ⟨wr.heap.size, 1, none⟩ = some (.slice rv r.2.length rc)) (first | assumption | go_keep) (first
      | (refine step_copy_run rfl (.tmp 59) (.tmp 61) 232 232 rfl (.slice (some ⟨J, 0, none⟩) (n - d2) (n - d2)) (.slice rv r.2.length rc) (by kernel_rfl) (by kernel_rfl) (hcu.out _ _ _ _ _ _ _ _) ?_))
     go_wp2_with fail
     go_roundw
     case rel => exact ⟨k + 1, by omega, by go_num, H4.out⟩
     case measure => simp [intOf]; omega
    ·obtain rfl : k = vs.length := by omega
     have hbw := below_join HBq.out hbr
     have hRr : wr.heap[w.heap.size + 1]? = some (.cells #[.int .i64 0, .slice none 0 0] 279 (0, 0)) := by rw [hbr.block _ (by omega)]; exact HR.out
     have c90 : wr.cell? ⟨J + 1, 0, none⟩ = some (.int .i64 lo) := by simp [World.cell?, h9r]
     have r0 : wr.cell? ⟨w.heap.size + 1, 0, none⟩ = some (.int .i64 0) := by simp [World.cell?, hRr]
     have r1 : wr.cell? ⟨w.heap.size + 1, 1, none⟩ = some (.slice none 0 0) := by simp [World.cell?, hRr]
     have f0 : wr.frozen? ⟨w.heap.size + 1, 0, none⟩ = false := frozen_of_row wr _ _ _ _ hRr
     have f1 : wr.frozen? ⟨w.heap.size + 1, 1, none⟩ = false := frozen_of_row wr _ _ _ _ hRr
     have HF := hideIt (And.intro hbw hRr)
     clear hI hbr h9r hbw hRr
     go_wp2_with fail
     obtain ⟨hbw, hRr⟩ := HF.out
     have hgF : ((wr.setCell ⟨w.heap.size + 1, 0, none⟩ (.int .i64 lo)).setCell ⟨w.heap.size + 1, 1, none⟩ (.slice (some ⟨J, 0, none⟩) n n)).heap[w.heap.size + 1]? = some (.cells #[.int .i64 lo, .slice (some ⟨J, 0, none⟩) n n] 279 (0, 0)) :=
      (block_set (block_set hRr 0 _) 1 _).trans rfl
     refine bodyPost_ret (results_cell_row (P := Tryz.prog) Tryz.results179 _ _ (w.heap.size + 1) 279 #[.int .i64 lo, .slice (some ⟨J, 0, none⟩) n n] (0, 0) _ rfl hgF Tryz.underlying279 rfl u_size) rfl ?_
     refine ⟨J, n, by rw [HJ1.out], HJl.out.symm, by omega, ?_⟩
     refine ⟨hbw.os, hbw.tape, hbw.output, (by rw [World.size_setCell, World.size_setCell]; exact hbw.size), fun q hq => ?_⟩
     rw [heap_setCell_other _ _ _ _ (show q ≠ w.heap.size + 1 by omega), heap_setCell_other _ _ _ _ (show q ≠ w.heap.size + 1 by omega)]
     exact hbw.block q hq
end Go.Proofs.YthmdjhlhodpbhaaGreatDoor
