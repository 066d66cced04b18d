/- Shuffled, 13 -/
import Derived.Test.YthmdjhlhodpbhaaGreatDoorS11
import Derived.Test.YthmdjhlhodpbhaaGreatDoorS12
set_option maxHeartbeats 16000000
set_option maxRecDepth 8000
namespace Go.Proofs.YthmdjhlhodpbhaaGreatDoor
open Go.RowKit
theorem x_behind_any (f : Int) (n cap : Nat) (ao : Option Addr) (w : World) (hf : -4611686018427387904 <= f /\ f <= 4611686018427387904) (hn : n <= 4611686018427387) :
  Calls Tryz.prog 197 #[.agg #[.int .i64 f, .slice ao n cap]] w fun e w' => e = .returned (.int .i64 (f + n)) /\ Below w.heap.size w w' := by
 obtain ⟨h0, h1⟩ := hf
 go_enter Tryz.func197, Tryz.ntmps197
 go_wp2
 go_ret
 exact ⟨rfl, below_alloc w _⟩
theorem x_Covers1_any (f first behind : Int) (n cap p1 p2 : Nat) (ao : Option Addr) (w : World) (hf : -4611686018427387904 <= f /\ f <= 4611686018427387904) (hn : n <= 4611686018427387) (h1 : w.cell? ⟨p1, 0, none⟩ = some (.int .i64 first)) (h2 : w.cell? ⟨p2, 0, none⟩ = some (.int .i64 behind)) :
  Calls Tryz.prog 196 #[.agg #[.int .i64 f, .slice ao n cap], .pointer (some ⟨p1, 0, none⟩), .pointer (some ⟨p2, 0, none⟩)] w fun e w' => e = .returned (.bool (decide (f <= first) && decide (behind <= f + n))) /\ Below w.heap.size w w' := by
 have hl1 := cell_lt h1
 have hl2 := cell_lt h2
 have HB : Hid (∀ W, Calls Tryz.prog 197 #[.agg #[.int .i64 f, .slice ao n cap]] W fun e w' => e = .returned (.int .i64 (f + n)) /\ Below W.heap.size W w') := fun W => x_behind_any f n cap ao W hf hn
 have HA : Hid (∀ W w' : World, Below W.heap.size W w' -> (W.cell? ⟨p1, 0, none⟩ = some (.int .i64 first) /\ W.cell? ⟨p2, 0, none⟩ = some (.int .i64 behind) /\ W.cell? ⟨w.heap.size, 0, none⟩ = some (.int .i64 f) /\ W.cell? ⟨w.heap.size, 1, none⟩ = some (.slice ao n cap)) ->
   (w'.cell? ⟨p1, 0, none⟩ = some (.int .i64 first) /\ w'.cell? ⟨p2, 0, none⟩ = some (.int .i64 behind) /\ w'.cell? ⟨w.heap.size, 0, none⟩ = some (.int .i64 f) /\ w'.cell? ⟨w.heap.size, 1, none⟩ = some (.slice ao n cap))) :=
  fun W w' hb h => ⟨cell_below h.1 hb, cell_below h.2.1 hb, cell_below h.2.2.1 hb, cell_below h.2.2.2 hb⟩
 by_cases hle : f <= first
 ·have hd : decide (f <= first) = true := by simpa using hle
  go_enter Tryz.func196, Tryz.ntmps196
  go_wp2_with fail
  go_region_held3 (fun w' => w'.cell? ⟨p1, 0, none⟩ = some (.int .i64 first) /\ w'.cell? ⟨p2, 0, none⟩ = some (.int .i64 behind) /\ w'.cell? ⟨w.heap.size, 0, none⟩ = some (.int .i64 f) /\ w'.cell? ⟨w.heap.size, 1, none⟩ = some (.slice ao n cap)) (first | assumption | go_keep) (first
   | (go_at_call 197; refine (HB.out _).mono ?_; rintro e wq ⟨rfl, hbq⟩; have hSq := HA.out _ _ hbq (by assumption)))
  go_wp2_with fail
  go_ret
  exact ⟨by rw [hd]; rfl, below_join (below_alloc w _) (below_undrew hbq)⟩
 ·have hd : decide (f <= first) = false := by simpa using hle
  go_enter Tryz.func196, Tryz.ntmps196
  go_wp2_with fail
  go_quiet (fail)
  go_wp2_with fail
  go_ret
  refine ⟨by rw [hd]; rfl, ?_⟩
  exact below_drewN (below_alloc w _) _
theorem x_IndexFunc_any (vs : List RunV) (rl : List RunL) (lv : Value) (first behind : Int) (p1 p2 : Nat) (w : World) (hown : w.ownsRow 0 259 2 lv vs.length (cells2 vs)) (hsh : Shape vs rl) (hb : ∀ r ∈ rl, -4611686018427387904 <= r.1 /\ r.1 <= 4611686018427387904 /\ r.2.length <= 4611686018427387) (hn : vs.length <= 1000)
  (h1 : w.cell? ⟨p1, 0, none⟩ = some (.int .i64 first)) (h2 : w.cell? ⟨p2, 0, none⟩ = some (.int .i64 behind)) :
  Calls Tryz.prog 209 #[lv, .func (.func 196) #[] #[.pointer (some ⟨p1, 0, none⟩), .pointer (some ⟨p2, 0, none⟩)]] w fun e w' =>
   (∃ k : Int, e = .returned (.int .i64 k) /\ (0 <= k ↔ (rl.any fun r => decide (r.1 <= first) && decide (behind <= behindR r)) = true)) /\ Below w.heap.size w w' := by
 obtain ⟨ao, cap, rfl⟩ := own_formN hown
 have HO := hideIt hown
 have HS := hideIt hsh
 have HB := hideIt hb
 clear hown hsh hb
 go_enter Tryz.func209, Tryz.ntmps209
 go_wp2_with fail
 go_loopw [8] (fun i wr => ∃ k : Nat, k <= vs.length /\ i = .int .i64 k /\ Below w.heap.size w wr /\ Hid (∀ (j : Nat) r, j < k -> rl[j]? = some r -> (decide (r.1 <= first) && decide (behind <= behindR r)) = false)) (fun i _ => vs.length - (intOf i).toNat)
 case atStart => exact ⟨0, Nat.zero_le _, rfl, Below.refl _ _, fun j r hj => by omega⟩
 case round =>
  obtain ⟨k, hk, rfl, hbr, hno⟩ := hrel
  by_cases hlt : k < vs.length
  ·obtain ⟨v, hv⟩ : ∃ v, vs[k]? = some v := ⟨_, List.getElem?_eq_getElem hlt⟩
   obtain ⟨r, hr⟩ : ∃ r, rl[k]? = some r := ⟨_, List.getElem?_eq_getElem (by rw [<- HS.out.1]; exact hlt)⟩
   obtain ⟨e1, ao2, cap2, e2, hcap2⟩ := HS.out.2 k v r hv hr
   obtain ⟨v1, v2⟩ := v
   simp only at e1 e2
   subst e1 e2
   have hown := own_below HO.out hbr
   rcases hown.2 with ⟨_, h0⟩ | ⟨g, cap', cur, e3, _, hg, hnc, hcm, hcs, htk⟩
   ·omega
   simp only [Value.slice.injEq] at e3
   obtain ⟨rfl, _, rfl⟩ := e3
   obtain ⟨q1, q2⟩ := cells2_at hv
   have c1 : wr.cell? ⟨g, k * 2, none⟩ = some (.int .i64 r.1) := by rw [hown.cellAt (k * 2) (by omega)]; exact q1
   have c2 : wr.cell? ⟨g, k * 2 + 1, none⟩ = some (.slice ao2 r.2.length cap2) := by rw [hown.cellAt (k * 2 + 1) (by omega)]; exact q2
   have hbd := HB.out r (List.mem_of_getElem? hr)
   have HC := hideIt (x_Covers1_any r.1 first behind r.2.length cap2 p1 p2 ao2 wr ⟨hbd.1, hbd.2.1⟩ hbd.2.2 (cell_below h1 hbr) (cell_below h2 hbr))
   have HR := hideIt hr
   have HBR := hideIt hbr
   have HN := hideIt hno
   clear hown hg htk hcs hcm q1 q2 hbd hr hv hno
   go_wp2_with fail
   refine HC.out.mono ?_
   rintro e w1 ⟨rfl, hb1⟩
   have hbb := hideIt (below_join HBR.out hb1)
   clear hb1 HC HBR hbr c1 c2
   cases hc : (decide (r.1 <= first) && decide (behind <= r.1 + (r.2.length : Int)))
   ·go_wp2_with fail
    go_roundw
    case rel =>
     refine ⟨k + 1, by omega, by go_num, hbb.out, fun j r' hj hr' => ?_⟩
     rcases Nat.lt_or_ge j k with h3 | h3
     ·exact HN.out j r' h3 hr'
     ·obtain rfl : j = k := by omega
      obtain rfl := Option.some.inj (HR.out.symm.trans hr')
      exact hc
    case measure => simp [intOf]; omega
   ·go_wp2_with fail
    go_ret
    refine ⟨⟨k, rfl, ?_⟩, hbb.out⟩
    refine ⟨fun _ => ?_, fun _ => by omega⟩
    rw [List.any_eq_true]
    exact ⟨r, List.mem_of_getElem? HR.out, hc⟩
  ·obtain rfl : k = vs.length := by omega
   have HN := hideIt hno
   have HBR := hideIt hbr
   clear hno hbr
   go_wp2_with fail
   go_ret
   refine ⟨⟨-1, rfl, ?_⟩, HBR.out⟩
   refine ⟨fun h => by omega, fun h => ?_⟩
   rw [List.any_eq_true] at h
   obtain ⟨r, hr, h3⟩ := h
   obtain ⟨j, hj, rfl⟩ := List.getElem_of_mem hr
   have := HN.out j rl[j] (by rw [HS.out.1]; exact hj) (List.getElem?_eq_getElem hj)
   rw [this] at h3
   cases h3
theorem x_Contains_any (vs : List RunV) (rl : List RunL) (lv : Value) (first behind : Int) (p1 p2 : Nat) (w : World) (hown : w.ownsRow 0 259 2 lv vs.length (cells2 vs)) (hsh : Shape vs rl) (hb : ∀ r ∈ rl, -4611686018427387904 <= r.1 /\ r.1 <= 4611686018427387904 /\ r.2.length <= 4611686018427387) (hn : vs.length <= 1000)
  (h1 : w.cell? ⟨p1, 0, none⟩ = some (.int .i64 first)) (h2 : w.cell? ⟨p2, 0, none⟩ = some (.int .i64 behind)) :
  Calls Tryz.prog 195 #[lv, .func (.func 196) #[] #[.pointer (some ⟨p1, 0, none⟩), .pointer (some ⟨p2, 0, none⟩)]] w fun e w' =>
   e = .returned (.bool (rl.any fun r => decide (r.1 <= first) && decide (behind <= behindR r))) /\ Below w.heap.size w w' := by
 have HI := hideIt (x_IndexFunc_any vs rl lv first behind p1 p2 w hown hsh hb hn h1 h2)
 clear hown hsh hb hn h1 h2
 go_enter Tryz.func195, Tryz.ntmps195
 go_wp2_with fail
 refine HI.out.mono ?_
 rintro e w1 ⟨⟨k, rfl, hk⟩, hb1⟩
 have HK := hideIt hk
 clear hk HI
 have hkb : decide (0 <= k) = (rl.any fun r => decide (r.1 <= first) && decide (behind <= behindR r)) := by
  rw [Bool.eq_iff_iff, decide_eq_true_iff]
  exact HK.out
 replace hkb := hideIt hkb
 go_wp2_with fail
 go_ret
 refine ⟨?_, hb1⟩
 rw [<- hkb.out]
 rfl
theorem x_Covers_any (vs : List RunV) (rl : List RunL) (lv : Value) (first behind : Int) (rb off : Nat) (w : World) (hc : w.cell? ⟨rb, off, none⟩ = some lv) (hown : w.ownsRow 0 259 2 lv vs.length (cells2 vs)) (hsh : Shape vs rl) (hb : ∀ r ∈ rl, -4611686018427387904 <= r.1 /\ r.1 <= 4611686018427387904 /\ r.2.length <= 4611686018427387) (hn : vs.length <= 1000) :
  Calls Tryz.prog 166 #[.pointer (some ⟨rb, off, none⟩), .int .i64 first, .int .i64 behind] w fun e w' => e = .returned (.bool (coversR rl first behind)) /\ Below w.heap.size w w' := by
 have hlt := cell_lt hc
 obtain ⟨ao, cap, rfl⟩ := own_formN hown
 have hbb : Below w.heap.size w ((w.alloc (.cells #[.int .i64 first] 3)).alloc (.cells #[.int .i64 behind] 3)) := (below_alloc w _).alloc (by simp) _
 have HI := hideIt (x_Contains_any vs rl _ first behind w.heap.size (w.heap.size + 1) _ (own_below hown hbb) hsh hb hn (by simp) (by simp))
 have HB := hideIt hbb
 clear hown hsh hb hn hbb
 by_cases hle : behind <= first
 ·have hd : decide (behind <= first) = true := by simpa using hle
  go_enter Tryz.func166, Tryz.ntmps166
  go_wp2_with fail
  go_ret
  exact ⟨by unfold coversR; rw [hd]; rfl, HB.out⟩
 ·have hd : decide (behind <= first) = false := by simpa using hle
  go_enter Tryz.func166, Tryz.ntmps166
  go_wp2_with fail
  refine HI.out.mono ?_
  rintro e w1 ⟨rfl, hb1⟩
  have hbb := hideIt (below_join HB.out hb1)
  clear hb1 HI HB
  go_wp2_with fail
  go_ret
  exact ⟨by unfold coversR; rw [hd, Bool.false_or]; rfl, hbb.out⟩
abbrev x_TouchS (rb off g b0 k : Nat) (lv : Value) (f : Int) (iv : Value) (a : Int) (av : Value) (w : World) : Prop :=
 w.cell? ⟨rb, off, none⟩ = some lv /\ w.cell? ⟨g, k * 2, none⟩ = some (.int .i64 f) /\ w.cell? ⟨g, k * 2 + 1, none⟩ = some iv /\ w.cell? ⟨b0, 0, none⟩ = some (.int .i64 a) /\ w.cell? ⟨b0, 1, none⟩ = some av
theorem x_TouchS.below {rb off g b0 k : Nat} {lv : Value} {f : Int} {iv : Value} {a : Int} {av : Value} {w w' : World} (h : x_TouchS rb off g b0 k lv f iv a av w) (hb : Below w.heap.size w w') : x_TouchS rb off g b0 k lv f iv a av w' :=
 ⟨cell_below h.1 hb, cell_below h.2.1 hb, cell_below h.2.2.1 hb, cell_below h.2.2.2.1 hb, cell_below h.2.2.2.2 hb⟩
theorem x_touching_any (vs : List RunV) (rl : List RunL) (lv : Value) (a : RunL) (aa : Option Addr) (ac : Nat) (rb off : Nat) (w : World) (hc : w.cell? ⟨rb, off, none⟩ = some lv) (hown : w.ownsRow 0 259 2 lv vs.length (cells2 vs)) (hsh : Shape vs rl) (hb : ∀ r ∈ rl, -4611686018427387904 <= r.1 /\ r.1 <= 4611686018427387904 /\ r.2.length <= 4611686018427387) (hn : vs.length <= 1000)
  (ha : -4611686018427387904 <= a.1 /\ a.1 <= 4611686018427387904 /\ a.2.length <= 4611686018427387) :
  Calls Tryz.prog 238 #[.pointer (some ⟨rb, off, none⟩), .agg #[.int .i64 a.1, .slice aa a.2.length ac]] w fun e w' => e = .returned (.tuple #[.int .i64 (fromR rl a), .int .i64 (toR rl a)]) /\ Below w.heap.size w w' := by
 obtain ⟨ao, cap, rfl⟩ := own_formN hown
 have hlt := cell_lt hc
 have hbb : Below w.heap.size w (w.alloc (.cells #[.int .i64 a.1, .slice aa a.2.length ac] 259)) := below_alloc w _
 have hlen := hsh.1
 have HK : Hid (∀ (k : Nat) (wr : World), k < vs.length -> Below (w.heap.size + 1) (w.alloc (.cells #[.int .i64 a.1, .slice aa a.2.length ac] 259)) wr -> ∃ g r ri rc, ao = some ⟨g, 0, none⟩ /\ rl[k]? = some r /\ x_TouchS rb off g w.heap.size k (.slice ao vs.length cap) r.1 (.slice ri r.2.length rc) a.1 (.slice aa a.2.length ac) wr /\ -4611686018427387904 <= r.1 /\ r.1 <= 4611686018427387904 /\ r.2.length <= 4611686018427387) := by
  intro k wr hk hbr
  have hbw : Below w.heap.size w wr := below_join hbb (by simpa using hbr)
  obtain ⟨v, hv⟩ : ∃ v, vs[k]? = some v := ⟨_, List.getElem?_eq_getElem hk⟩
  obtain ⟨r, hr⟩ : ∃ r, rl[k]? = some r := ⟨_, List.getElem?_eq_getElem (by rw [<- hlen]; exact hk)⟩
  obtain ⟨e1, ao2, cap2, e2, _⟩ := hsh.2 k v r hv hr
  obtain ⟨v1, v2⟩ := v
  simp only at e1 e2
  subst e1 e2
  have hown2 := own_below hown hbw
  rcases hown2.2 with ⟨_, h0⟩ | ⟨g, cap', cur, e3, _, hg, hnc, hcm, hcs, htk⟩
  ·omega
  simp only [Value.slice.injEq] at e3
  obtain ⟨rfl, _, rfl⟩ := e3
  obtain ⟨q1, q2⟩ := cells2_at hv
  have hbd := hb r (List.mem_of_getElem? hr)
  refine ⟨g, r, ao2, cap2, rfl, hr, ⟨cell_below hc hbw, ?_, ?_, ?_, ?_⟩, hbd⟩
  ·rw [hown2.cellAt (k * 2) (by omega)]; exact q1
  ·rw [hown2.cellAt (k * 2 + 1) (by omega)]; exact q2
  ·rw [hbr.cell (by simp)]; simp
  ·rw [hbr.cell (by simp)]; simp
 have HL : Hid (∀ wr, Below (w.heap.size + 1) (w.alloc (.cells #[.int .i64 a.1, .slice aa a.2.length ac] 259)) wr -> wr.cell? ⟨rb, off, none⟩ = some (.slice ao vs.length cap)) := by
  intro wr hbr
  exact cell_below hc (below_join hbb (by simpa using hbr))
 have HBd := hideIt ha
 have HLen := hideIt hlen
 have HBB := hideIt hbb
 clear hown hsh hb hc hlen hbb ha
 go_enter Tryz.func238, Tryz.ntmps238
 go_wp2_with fail
 go_loopw [6] (fun i wr => ∃ k : Nat, k <= vs.length /\ i = .int .i64 k /\ Below (w.heap.size + 1) (w.alloc (.cells #[.int .i64 a.1, .slice aa a.2.length ac] 259)) wr /\ Hid (∀ (j : Nat) r, j < k -> rl[j]? = some r -> decide (behindR r < a.1) = true)) (fun i _ => vs.length - (intOf i).toNat)
 case atStart => exact ⟨0, Nat.zero_le _, rfl, Below.refl _ _, fun j r hj => by omega⟩
 case round =>
  obtain ⟨k, hk, rfl, hbr, hno⟩ := hrel
  by_cases hkl : k < vs.length
  ·obtain ⟨g, r, ri, rc, rfl, hr, hT, hr0, hr1, hr2⟩ := HK.out k wr hkl hbr
   have hd : decide ((k : Int) < (vs.length : Int)) = true := by simp; omega
   have HX : Hid (∀ W, Calls Tryz.prog 197 #[.agg #[.int .i64 r.1, .slice ri r.2.length rc]] W fun e w' => e = .returned (.int .i64 (r.1 + r.2.length)) /\ Below W.heap.size W w') := fun W => x_behind_any r.1 r.2.length rc ri W ⟨hr0, hr1⟩ hr2
   obtain ⟨t1, t2, t3, t4, t5⟩ := id hT
   have HBR := hideIt hbr
   have HN := hideIt hno
   have HR := hideIt hr
   clear hbr hno hr
   go_wp2_with fail
   go_region_held3 (fun w' => w'.cell? ⟨rb, off, none⟩ = some (.slice (some ⟨g, 0, none⟩) vs.length cap) /\ w'.cell? ⟨g, k * 2, none⟩ = some (.int .i64 r.1) /\ w'.cell? ⟨g, k * 2 + 1, none⟩ = some (.slice ri r.2.length rc) /\ w'.cell? ⟨w.heap.size, 0, none⟩ = some (.int .i64 a.1) /\ w'.cell? ⟨w.heap.size, 1, none⟩ = some (.slice aa a.2.length ac)) (first | assumption | go_keep) (first
    | (go_at_call 197; refine (HX.out _).mono ?_; rintro e wq ⟨rfl, hbq⟩; have hSq := x_TouchS.below (by assumption) hbq))
   have HBx := hideIt (below_more HBR.out hbq)
   clear hbq hSq hT t1 t2 t3 t4 t5 HX HBR
   by_cases hc1 : r.1 + (r.2.length : Int) < a.1
   ·go_wp2_with fail
    go_roundw
    case rel =>
     refine ⟨k + 1, by omega, by go_num, HBx.out, fun j r' hj hr' => ?_⟩
     rcases Nat.lt_or_ge j k with h3 | h3
     ·exact HN.out j r' h3 hr'
     ·obtain rfl : j = k := by omega
      obtain rfl := Option.some.inj (HR.out.symm.trans hr')
      exact decide_eq_true hc1
    case measure => simp [intOf]; omega
   ·have HF : Hid (fromR rl a = k) := tw_length (by rw [<- HLen.out]; exact hk) HN.out (fun r' hr' => by
     obtain rfl := Option.some.inj (HR.out.symm.trans hr')
     exact decide_eq_false (by unfold behindR; exact hc1))
    clear HN HR
    go_wp2_with fail
    go_loopw [7] (fun i wr => ∃ m : Nat, k <= m /\ m <= vs.length /\ i = .int .i64 m /\ Below (w.heap.size + 1) (w.alloc (.cells #[.int .i64 a.1, .slice aa a.2.length ac] 259)) wr /\ Hid (∀ (j : Nat) r, k <= j -> j < m -> rl[j]? = some r -> decide (r.1 <= behindR a) = true)) (fun i _ => vs.length - (intOf i).toNat)
    case atStart => exact ⟨k, Nat.le_refl _, hk, rfl, HBx.out, fun j r h1 h2 => by omega⟩
    case round =>
     obtain ⟨m, hkm, hm, rfl, hbr2, hno2⟩ := hrel
     by_cases hml : m < vs.length
     ·obtain ⟨g2, r2, ri2, rc2, e2, hr2', hT2, hs0, hs1, hs2⟩ := HK.out m wr hml hbr2
      first | subst e2 | (obtain rfl := Addr.mk.inj (Option.some.inj e2) |>.1)
      have hd2 : decide ((m : Int) < (vs.length : Int)) = true := (by simp; omega)
      have HX2 : Hid (∀ W, Calls Tryz.prog 197 #[.agg #[.int .i64 a.1, .slice aa a.2.length ac]] W fun e w' => e = .returned (.int .i64 (a.1 + a.2.length)) /\ Below W.heap.size W w') := fun W => x_behind_any a.1 a.2.length ac aa W ⟨HBd.out.1, HBd.out.2.1⟩ HBd.out.2.2
      obtain ⟨u1, u2, u3, u4, u5⟩ := id hT2
      have HBR2 := hideIt hbr2
      have HN2 := hideIt hno2
      have HR2 := hideIt hr2'
      clear hbr2 hno2 hr2'
      go_wp2_with fail
      go_region_held3 (fun w' => w'.cell? ⟨rb, off, none⟩ = some (.slice (some ⟨g, 0, none⟩) vs.length cap) /\ w'.cell? ⟨g, m * 2, none⟩ = some (.int .i64 r2.1) /\ w'.cell? ⟨g, m * 2 + 1, none⟩ = some (.slice ri2 r2.2.length rc2) /\ w'.cell? ⟨w.heap.size, 0, none⟩ = some (.int .i64 a.1) /\ w'.cell? ⟨w.heap.size, 1, none⟩ = some (.slice aa a.2.length ac)) (first | assumption | go_keep) (first
       | (go_at_call 197; refine (HX2.out _).mono ?_; rintro e wq2 ⟨rfl, hbq2⟩; have hSq2 := x_TouchS.below (by assumption) hbq2))
      have HBQ2 := hideIt (below_more HBR2.out hbq2)
      clear hbq2 hSq2 hT2 u1 u2 u3 u4 u5 HX2
      by_cases hc2 : r2.1 <= a.1 + (a.2.length : Int)
      ·go_wp2_with fail
       go_roundw
       case rel =>
        refine ⟨m + 1, by omega, by omega, by go_num, HBQ2.out, fun j r' h1 h2 hr' => ?_⟩
        rcases Nat.lt_or_ge j m with h3 | h3
        ·exact HN2.out j r' h1 h3 hr'
        ·obtain rfl : j = m := by omega
         obtain rfl := Option.some.inj (HR2.out.symm.trans hr')
         exact decide_eq_true hc2
       case measure => simp [intOf]; omega
      ·have HT : Hid (toR rl a = m) := to_is HF.out hkm (by rw [<- HLen.out]; exact hm) HN2.out (fun r' hr' => by
        obtain rfl := Option.some.inj (HR2.out.symm.trans hr')
        exact decide_eq_false (by unfold behindR; exact hc2))
       go_wp2_with fail
       go_ret2
       exact ⟨by rw [HF.out, HT.out]; rfl, below_join HBB.out (by simpa using HBQ2.out)⟩
     ·obtain rfl : m = vs.length := by omega
      have hd2 : decide (((vs.length : Nat) : Int) < (vs.length : Int)) = false := by simp
      have hl2 := HL.out wr hbr2
      have HBR2 := hideIt hbr2
      have HT : Hid (toR rl a = vs.length) := to_is HF.out hkm (by rw [<- HLen.out]; exact hm) hno2 (fun r' hr' => by
       have := (List.getElem?_eq_some_iff.1 hr').1
       have := HLen.out
       omega)
      clear hbr2 hno2
      go_wp2_with fail
      go_quiet (fail)
      go_wp2_with fail
      go_ret2
      exact ⟨by rw [HF.out, HT.out]; rfl, below_join HBB.out (by simpa using below_drewN HBR2.out _)⟩
  ·obtain rfl : k = vs.length := by omega
   have hd : decide (((vs.length : Nat) : Int) < (vs.length : Int)) = false := by simp
   have hl1 := HL.out wr hbr
   have HF : Hid (fromR rl a = vs.length) := tw_length (by rw [<- HLen.out]; exact hk) hno (fun r' hr' => by
    have := (List.getElem?_eq_some_iff.1 hr').1
    have := HLen.out
    omega)
   have HBr := hideIt hbr
   clear hbr hno
   go_wp2_with fail
   go_quiet (fail)
   have HBx := hideIt (below_drewN HBr.out nq)
   clear HBr
   go_wp2_with fail
   go_loopw [7] (fun i wr => ∃ m : Nat, vs.length <= m /\ m <= vs.length /\ i = .int .i64 m /\ Below (w.heap.size + 1) (w.alloc (.cells #[.int .i64 a.1, .slice aa a.2.length ac] 259)) wr /\ Hid (∀ (j : Nat) r, vs.length <= j -> j < m -> rl[j]? = some r -> decide (r.1 <= behindR a) = true)) (fun i _ => vs.length - (intOf i).toNat)
   case atStart => exact ⟨vs.length, Nat.le_refl _, hk, rfl, HBx.out, fun j r h1 h2 => by omega⟩
   case round =>
    obtain ⟨m, hkm, hm, rfl, hbr2, hno2⟩ := hrel
    obtain rfl : m = vs.length := by omega
    have hd2 : decide (((vs.length : Nat) : Int) < (vs.length : Int)) = false := by simp
    have hl2 := HL.out wr hbr2
    have HBR2 := hideIt hbr2
    have HT : Hid (toR rl a = vs.length) := to_is HF.out hkm (by rw [<- HLen.out]; exact hm) hno2 (fun r' hr' => by
     have := (List.getElem?_eq_some_iff.1 hr').1
     have := HLen.out
     omega)
    clear hbr2 hno2
    go_wp2_with fail
    go_quiet (fail)
    go_wp2_with fail
    go_ret2
    exact ⟨by rw [HF.out, HT.out]; rfl, below_join HBB.out (by simpa using below_drewN HBR2.out _)⟩
def Part (w : World) (tv : Value) (vs : List RunV) : Prop :=
 ∃ ao cap, tv = .slice ao vs.length cap /\ ∀ (k : Nat) v, vs[k]? = some v -> ∃ g o, ao = some ⟨g, o, none⟩ /\ w.cell? ⟨g, o + k * 2, none⟩ = some (.int .i64 v.1) /\ w.cell? ⟨g, o + k * 2 + 1, none⟩ = some v.2
theorem take_snocN {α : Type} {l : List α} {k : Nat} {c : α} (h : l[k]? = some c) : l.take (k + 1) = l.take k ++ [c] := by rw [List.take_add_one, h]; rfl
theorem loR_snoc (a : RunL) (M : List RunL) (r : RunL) : loR a (M ++ [r]) = min (loR a M) r.1 := by simp [loR, List.foldl_append]
theorem hiR_snoc (a : RunL) (M : List RunL) (r : RunL) : hiR a (M ++ [r]) = max (hiR a M) (behindR r) := by simp [hiR, List.foldl_append]
theorem layR_snoc (lo : Int) (L : List Int) (M : List RunL) (r : RunL) : layR lo L (M ++ [r]) = overlay (layR lo L M) (r.1 - lo).toNat r.2 := by simp [layR, List.foldl_append]
end Go.Proofs.YthmdjhlhodpbhaaGreatDoor
