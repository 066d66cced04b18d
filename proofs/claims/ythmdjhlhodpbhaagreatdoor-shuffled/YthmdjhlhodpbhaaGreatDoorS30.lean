/- Shuffled, 30 -/
import Derived.BigRegion
import Derived.Deep.RegionHeld3
import Derived.BigQuiet
import Derived.Test.YthmdjhlhodpbhaaGreatDoorS16
import Derived.Test.YthmdjhlhodpbhaaGreatDoorS17
import Derived.Test.YthmdjhlhodpbhaaGreatDoorS29
set_option maxHeartbeats 16000000
set_option maxRecDepth 8000
namespace Go.Proofs.YthmdjhlhodpbhaaGreatDoor
open Go.RowKit
theorem x_RunsAt.chg {F : Nat -> Prop} {w w' : World} {lv : Value} {vs : List RunV} {rl : List RunL} (h : x_RunsAt w lv vs rl) (hc : Chg F w w') (h2 : ∀ g, lv.ownBlock = some g -> ¬ F g) (h3 : ∀ k cur fr, w.heap[k]? = some (.cells cur 5 fr) -> ¬ F k) : x_RunsAt w' lv vs rl := ⟨own_chg h.own hc h2, h.sh, fun i v r hv hw => (h.ro i v r hv hw).chg hc h3⟩
theorem chg_then {F G : Nat -> Prop} {a b c : World} (h : Chg F a b) (k : Chg G b c) (hg : ∀ q, q < a.heap.size -> G q -> F q) : Chg F a c :=
 ⟨k.os.trans h.os, k.tape.trans h.tape, k.output.trans h.output, Nat.le_trans h.size k.size, fun i hi hn => (k.block i (Nat.lt_of_lt_of_le hi h.size) (fun e => hn (hg i hi e))).trans (h.block i hi hn)⟩
theorem xTake_at (U : Nat -> Prop) (b : Nat) (lv : Value) (piece : Int) (x : StrS) (most gaps : Int) (w : World) (h : StrAt U w b lv piece x) (hI : StrInv gaps x) (hg : gaps <= 8) (hm : 0 <= most /\ most <= 9223372036854775807) :
  Calls Tryz.prog 131 #[.pointer (some ⟨b, 0, none⟩), .int .i64 x.read, .int .i64 most] w fun e w' => ∃ tv, e = .returned tv /\ w'.ownsRow w.heap.size 5 1 tv (takeK x most) (U8 (x.bytes.take (takeK x most))) /\
   ∃ lv' vs', x_RunsAt w' lv' vs' (runsOf (x.read + takeK x most) (x.bytes.drop (takeK x most))) /\ (∀ v ∈ vs', CapOk v.2 /\ ∀ g, v.2.ownBlock = some g -> (U g \/ w.heap.size <= g) /\ tv.ownBlock ≠ some g) /\ (lv'.ownBlock = lv.ownBlock \/ ∀ g, lv'.ownBlock = some g -> w.heap.size <= g) /\ Chg (fun q => q = b \/ lv.ownBlock = some q) w w' /\
    w'.heap[b]? = some (.cells #[lv', .int .i64 x.read, .int .i64 x.highest, .int .i64 x.credit, .int .i64 piece, .int .i64 (max x.final 0), .bool (decide (0 <= x.final)), .bool x.reset] 204 (0, 0)) := by
 obtain ⟨vs, hr, hcap⟩ := h.runs
 have h1 := hI.len
 have h2 := hI.cred
 have h3 := hI.read
 have hgp := hI.gaps
 have hrl := runsOf_length x.bytes x.read
 have hfit : RunsFit (runsOf x.read x.bytes) := fit_runsOf h3 (by omega) (by omega)
 have hitems : ∀ {vs' : List RunV} {tv : Value}, (∀ v ∈ vs', v ∈ vs \/ (CapOk v.2 /\ ∀ g, v.2.ownBlock = some g -> w.heap.size <= g)) -> (∀ v ∈ vs', v.2.ownBlock = none \/ v.2.ownBlock ≠ tv.ownBlock) -> ∀ v ∈ vs', CapOk v.2 /\ ∀ g, v.2.ownBlock = some g -> (U g \/ w.heap.size <= g) /\ tv.ownBlock ≠ some g := by
  intro vs' tv ha hb v hv
  have hx : ∀ g, v.2.ownBlock = some g -> tv.ownBlock ≠ some g := fun g hg e => by
   rcases hb v hv with q | q
   ·rw [q] at hg; cases hg
   ·exact q (by rw [hg, e])
  rcases ha v hv with q | q
  ·exact ⟨(hcap v q).1, fun g hg => ⟨Or.inl ((hcap v q).2 g hg), hx g hg⟩⟩
  ·exact ⟨q.1, fun g hg => ⟨Or.inr (q.2 g hg), hx g hg⟩⟩
 by_cases hno : most = 0 \/ leadS x.bytes = 0
 ·have hk : takeK x most = 0 := by unfold takeK; rcases hno with e | e <;> omega
  have hcov : most = 0 \/ coversR (runsOf x.read x.bytes) x.read (x.read + 1) = false := hno.imp id fun e => by
   rw [covers_lead, e]
   exact decide_eq_false (by omega)
  refine (x_Take_none x.read most lv vs _ b 0 _ 204 w h.blk rfl hr hfit (by omega) hcov).mono ?_
  rintro e w' ⟨rfl, ho⟩
  refine ⟨_, rfl, ?_, lv, vs, ?_, hitems ho.items (fun v hv => ?_), ho.at_, ho.chg, ho.blk⟩
  ·rw [hk]
   exact World.ownsRow_nil _ _ _ _
  ·rw [hk]
   simpa using ho.runs
  ·cases hq : v.2.ownBlock with
   | none => exact Or.inl rfl
   | some q => exact Or.inr (by simp [Value.ownBlock])
 ·have hl0 : 0 < leadS x.bytes := by omega
  have hm0 : 0 < most := by omega
  have hrl2 := runsOf_lead x.bytes x.read hl0
  have hr2 := hr
  have hfit2 := hfit
  rw [hrl2] at hr2 hfit2
  refine (x_Take_some x.read most _ _ lv vs b 0 _ 204 w h.blk rfl (by decide) (by decide) hr2 hfit2 hm0 hm.2).mono ?_
  rintro e w' ⟨tv, lv', vs', rfl, how, ho, hne⟩
  have hrt := runs_take x.read x.bytes most.toNat
  have hmn : ((most.toNat : Nat) : Int) = most := by omega
  rw [hmn] at hrt
  have hru := ho.runs
  rw [hrt] at hru
  rw [takeK_taken] at how
  have hkl : (x.bytes.take (takeK x most)).length = takeK x most := by
   have := leadS_le x.bytes
   rw [List.length_take]
   unfold takeK
   omega
  rw [hkl] at how
  exact ⟨tv, rfl, how, lv', vs', hru, hitems ho.items hne, ho.at_, ho.chg, ho.blk⟩
structure TReadOut (U : Nat -> Prop) (w : World) (b : Nat) (lv : Value) (piece : Int) (x : StrS) (most : Int) (e : Ending) (w' : World) : Prop where
 ex : ∃ tv lv', e = .returned (.agg #[tv, .bool (readX x most).1.fin, .bool (readX x most).1.rst]) /\ w'.ownsRow w.heap.size 5 1 tv (readX x most).1.bytes.length (U8 (readX x most).1.bytes) /\
  StrAt (fun g => (U g \/ w.heap.size <= g) /\ tv.ownBlock ≠ some g) w' b lv' piece (readX x most).2 /\ (lv'.ownBlock = lv.ownBlock \/ ∀ g, lv'.ownBlock = some g -> w.heap.size <= g)
 chg : Chg (fun q => q = b \/ lv.ownBlock = some q) w w'
theorem tRead_at (U : Nat -> Prop) (b : Nat) (lv : Value) (piece : Int) (x : StrS) (most gaps : Int) (w : World) (h : StrAt U w b lv piece x) (hI : StrInv gaps x) (hg : gaps <= 8) (hm : 0 <= most /\ most <= 9223372036854775807) :
  Calls Tryz.prog 74 #[.pointer (some ⟨b, 0, none⟩), .int .i64 most] w fun e w' => TReadOut U w b lv piece x most e w' := by
 have hb0 := below_alloc w (.cells #[.slice none 0 0, .bool false, .bool false] 46)
 have h0 := h.below hb0
 have hxg : (w.alloc (.cells #[.slice none 0 0, .bool false, .bool false] 46)).heap[w.heap.size]? = some (.cells #[.slice none 0 0, .bool false, .bool false] 46 (0, 0)) := heap_alloc_new w _
 have hbl : b < w.heap.size := h.lt
 cases hrs : x.reset with
 | true =>
  have c7 : (w.alloc (.cells #[.slice none 0 0, .bool false, .bool false] 46)).cell? ⟨b, 7, none⟩ = some (.bool true) := by rw [<- hrs]; exact h0.cell 7
  have hbn := (hI.rst hrs).1
  have hk : takeK x most = 0 := by unfold takeK; rw [hbn]; simp [leadS]
  have hX : readX x most = (⟨[], false, true⟩, { x with done := true }) := by
   unfold readX
   rw [hk, hbn, hrs]
   simp
  have HE : Hid (∀ W : World, Below w.heap.size w W -> TReadOut U w b lv piece x most (.returned (.agg #[.slice none 0 0, .bool false, .bool true])) W) := fun W hW => by
   refine ⟨⟨.slice none 0 0, lv, by rw [hX], by rw [hX]; exact World.ownsRow_nil _ _ _ _, ?_, Or.inl rfl⟩, Chg.of_below hW⟩
   rw [hX]
   have h1 := h.below hW
   obtain ⟨vs, hr, hc⟩ := h1.runs
   refine ⟨h1.blk, vs, hr, fun v hv => ⟨(hc v hv).1, fun g hg => ⟨Or.inl ((hc v hv).2 g hg), by simp [Value.ownBlock]⟩⟩⟩
  have HX := hideIt hxg
  have HB := hideIt hb0
  clear h h0 hI hxg hb0 hX hbn
  go_enter Tryz.func74, Tryz.ntmps74
  go_wp2_with fail
  refine bodyPost_ret (results_cell_row (P := Tryz.prog) Tryz.results74 _ _ w.heap.size 46 #[.slice none 0 0, .bool false, .bool true] (0, 0) _ rfl (heap_alloc_new w _) Tryz.underlying46 rfl (by kernel_rfl)) rfl ?_
  exact HE.out _ (below_alloc w _)
 | false =>
  have hkle : takeK x most <= x.bytes.length := by
   have := leadS_le x.bytes
   unfold takeK
   omega
  have hlen := hI.len
  have hcr := hI.cred
  have hrd := hI.read
  have hf0 := hI.fin0
  obtain ⟨k, hk⟩ : ∃ k, takeK x most = k := ⟨_, rfl⟩
  have HT : Hid (∀ W : World, Below w.heap.size w W -> Calls Tryz.prog 131 #[.pointer (some ⟨b, 0, none⟩), .int .i64 x.read, .int .i64 most] W fun e w1 => ∃ ta tc lv', e = .returned (.slice ta k tc) /\ w1.ownsRow w.heap.size 5 1 (.slice ta k tc) k (U8 (x.bytes.take k)) /\
    (∃ vs', x_RunsAt w1 lv' vs' (runsOf (x.read + k) (x.bytes.drop k)) /\ (∀ v ∈ vs', CapOk v.2 /\ ∀ g, v.2.ownBlock = some g -> (U g \/ w.heap.size <= g) /\ (Value.slice ta k tc).ownBlock ≠ some g)) /\ (lv'.ownBlock = lv.ownBlock \/ ∀ g, lv'.ownBlock = some g -> w.heap.size <= g) /\ Chg (fun q => q = b \/ lv.ownBlock = some q) w w1 /\
    w1.heap[b]? = some (.cells #[lv', .int .i64 x.read, .int .i64 x.highest, .int .i64 x.credit, .int .i64 piece, .int .i64 (max x.final 0), .bool (decide (0 <= x.final)), .bool x.reset] 204 (0, 0)) /\ ∀ q, w.heap.size <= q -> q < W.heap.size -> w1.heap[q]? = W.heap[q]?) := by
   intro W hW
   refine (xTake_at U b lv piece x most gaps W (h.below hW) hI hg hm).mono ?_
   rintro e w1 ⟨tv, rfl, how, lv', vs', hr, hc, hat, hch, hbk⟩
   rw [hk] at how hr
   obtain ⟨ta, tc, rfl⟩ := own_form how
   have hs := hW.size
   refine ⟨ta, tc, lv', rfl, own_mono how hs, ⟨vs', hr, fun v hv => ⟨(hc v hv).1, fun g hg => ⟨((hc v hv).2 g hg).1.imp id fun e => by omega, ((hc v hv).2 g hg).2⟩⟩⟩, hat.imp id fun e g hg => Nat.le_trans hs (e g hg), (Chg.of_below hW).trans hch, hbk, fun q h1 h2 => hch.block q h2 fun e => ?_⟩
   rcases e with e | e
   ·omega
   ·obtain ⟨vs0, h5⟩ := h.own
    have := (h5.lt q e).2
    omega
  have c7 : (w.alloc (.cells #[.slice none 0 0, .bool false, .bool false] 46)).cell? ⟨b, 7, none⟩ = some (.bool x.reset) := h0.cell 7
  rw [hrs] at c7
  have c1 : ∀ W : World, Below w.heap.size w W -> W.cell? ⟨b, 1, none⟩ = some (.int .i64 x.read) := fun W hW => (h.below hW).cell 1
  have c1a := c1 _ hb0
  have HX := hideIt hxg
  have HB := hideIt hb0
  clear h h0 hI hxg c1
  go_enter Tryz.func74, Tryz.ntmps74
  go_wp2_with fail
  go_region_with (first
   | (go_at_call 131; refine (HT.out _ (below_drewN HB.out 1)).mono ?_; rintro e w1 ⟨ta, tc, lv', rfl, how, hru, hat, hch, hbk, hkp⟩))
  have d1 : w1.cell? ⟨b, 1, none⟩ = some (.int .i64 x.read) := by simp [World.cell?, hbk]
  have z1 : w1.frozen? ⟨b, 1, none⟩ = false := frozen_of_row _ _ _ _ _ hbk
  have hgb : w1.heap[w.heap.size]? = some (.cells #[.slice none 0 0, .bool false, .bool false] 46 (0, 0)) := (hkp w.heap.size (Nat.le_refl _) (by show w.heap.size < (w.alloc _).heap.size; simp)).trans HX.out
  have hwk : IntKind.i64.wrap (x.read + (k : Int)) = x.read + k := by rw [IntKind.wrap_i64]; omega
  have hb2 := block_set hbk 1 (.int .i64 (x.read + (k : Int)))
  have hg2 : (w1.setCell ⟨b, 1, none⟩ (.int .i64 (x.read + (k : Int)))).heap[w.heap.size]? = some (.cells #[.slice none 0 0, .bool false, .bool false] 46 (0, 0)) := by
   rw [heap_setCell_other _ _ _ _ (show w.heap.size ≠ b by omega)]
   exact hgb
  have e1 : (w1.setCell ⟨b, 1, none⟩ (.int .i64 (x.read + (k : Int)))).cell? ⟨b, 1, none⟩ = some (.int .i64 (x.read + k)) := by simp only [World.cell?, hb2]; rfl
  have e5 : (w1.setCell ⟨b, 1, none⟩ (.int .i64 (x.read + (k : Int)))).cell? ⟨b, 5, none⟩ = some (.int .i64 (max x.final 0)) := by simp only [World.cell?, hb2]; rfl
  have e6 : (w1.setCell ⟨b, 1, none⟩ (.int .i64 (x.read + (k : Int)))).cell? ⟨b, 6, none⟩ = some (.bool (decide (0 <= x.final))) := by simp only [World.cell?, hb2]; rfl
  have q0 : (w1.setCell ⟨b, 1, none⟩ (.int .i64 (x.read + (k : Int)))).cell? ⟨w.heap.size, 0, none⟩ = some (.slice none 0 0) := by simp only [World.cell?, hg2]; rfl
  have q1 : (w1.setCell ⟨b, 1, none⟩ (.int .i64 (x.read + (k : Int)))).cell? ⟨w.heap.size, 1, none⟩ = some (.bool false) := by simp only [World.cell?, hg2]; rfl
  have q2 : (w1.setCell ⟨b, 1, none⟩ (.int .i64 (x.read + (k : Int)))).cell? ⟨w.heap.size, 2, none⟩ = some (.bool false) := by simp only [World.cell?, hg2]; rfl
  have y0 : ∀ j, (w1.setCell ⟨b, 1, none⟩ (.int .i64 (x.read + (k : Int)))).frozen? ⟨w.heap.size, j, none⟩ = false := fun j => frozen_of_row _ _ j _ _ hg2
  have y00 := y0 0
  have y01 := y0 1
  have y02 := y0 2
  have HOw := hideIt how
  have HRu := hideIt hru
  have HAt := hideIt hat
  have HCh := hideIt hch
  have HBk := hideIt hbk
  clear how hru hat hch hbk hkp hgb c7 c1a HT
  have hX1 : (readX x most).1 = ⟨x.bytes.take k, decide (x.read + k = x.final), false⟩ := by
   unfold readX
   rw [hk, hrs]
   simp
  have hX2 : (readX x most).2 = { x with bytes := x.bytes.drop k, read := x.read + k, done := (readX x most).2.done } := by
   unfold readX
   rw [hk]
  have hlk : (x.bytes.take k).length = k := by rw [List.length_take]; omega
  have HEnd : Hid (∀ fin : Bool, fin = decide (x.read + k = x.final) -> ((((w1.setCell ⟨b, 1, none⟩ (.int .i64 (x.read + (k : Int)))).setCell ⟨w.heap.size, 0, none⟩ (.slice ta k tc)).setCell ⟨w.heap.size, 1, none⟩ (.bool fin)).setCell ⟨w.heap.size, 2, none⟩ (.bool false)).drew.heap[w.heap.size]? = some (.cells #[.slice ta k tc, .bool fin, .bool false] 46 (0, 0)) /\
    TReadOut U w b lv piece x most (.returned (.agg #[.slice ta k tc, .bool fin, .bool false])) ((((w1.setCell ⟨b, 1, none⟩ (.int .i64 (x.read + (k : Int)))).setCell ⟨w.heap.size, 0, none⟩ (.slice ta k tc)).setCell ⟨w.heap.size, 1, none⟩ (.bool fin)).setCell ⟨w.heap.size, 2, none⟩ (.bool false)).drew) := by
   intro fin hfin
   have b1 := block_set hg2 0 (.slice ta k tc)
   have b2 := block_set b1 1 (.bool fin)
   have b3 := block_set b2 2 (.bool false)
   have hw1 : w.heap.size < w1.heap.size := (Array.getElem?_eq_some_iff.1 hg2).1 |> fun h => by simpa using h
   have hC : Chg (fun q => q = b \/ w.heap.size = q) w1 ((((w1.setCell ⟨b, 1, none⟩ (.int .i64 (x.read + (k : Int)))).setCell ⟨w.heap.size, 0, none⟩ (.slice ta k tc)).setCell ⟨w.heap.size, 1, none⟩ (.bool fin)).setCell ⟨w.heap.size, 2, none⟩ (.bool false)).drew := by
    refine ⟨rfl, rfl, rfl, by show w1.heap.size <= _; simp, fun q hq hn => ?_⟩
    have n1 : q ≠ b := fun e => hn (Or.inl e)
    have n2 : q ≠ w.heap.size := fun e => hn (Or.inr e.symm)
    show (((w1.setCell _ _).setCell _ _).setCell _ _ |>.setCell _ _).heap[q]? = _
    rw [heap_setCell_other _ _ _ _ n2, heap_setCell_other _ _ _ _ n2, heap_setCell_other _ _ _ _ n2, heap_setCell_other _ _ _ _ n1]
   refine ⟨b3, ⟨.slice ta k tc, lv', by rw [hX1, hfin], ?_, ?_, HAt.out⟩, ?_⟩
   ·rw [hX1]
    simp only [hlk]
    refine own_chg HOw.out hC (fun g hg e => ?_)
    obtain ⟨cc, hcc⟩ := own_blockN HOw.out hg
    rcases e with e | e
    ·rw [e, HBk.out] at hcc
     simp only [Option.some.injEq, Obj.cells.injEq] at hcc
     exact absurd hcc.2.1 (by decide)
    ·rw [<- e] at hcc
     have h9 : w1.heap[w.heap.size]? = some (.cells #[.slice none 0 0, .bool false, .bool false] 46 (0, 0)) := by
      rw [heap_setCell_other _ _ _ _ (show w.heap.size ≠ b by omega)] at hg2
      exact hg2
     rw [h9] at hcc
     simp only [Option.some.injEq, Obj.cells.injEq] at hcc
     exact absurd hcc.2.1 (by decide)
   ·rw [hX2]
    obtain ⟨vs', hru, hcv⟩ := HRu.out
    refine ⟨?_, vs', ?_, hcv⟩
    ·show (((w1.setCell _ _).setCell _ _).setCell _ _ |>.setCell _ _).heap[b]? = _
     have n3 : b ≠ w.heap.size := by omega
     rw [heap_setCell_other _ _ _ _ n3, heap_setCell_other _ _ _ _ n3, heap_setCell_other _ _ _ _ n3]
     exact hb2
    ·refine hru.chg hC (fun g hg e => ?_) (fun q cur fr hq e => ?_)
     ·obtain ⟨cc, hcc⟩ := own_blockN hru.own hg
      rcases e with e | e
      ·rw [e, HBk.out] at hcc
       simp only [Option.some.injEq, Obj.cells.injEq] at hcc
       exact absurd hcc.2.1 (by decide)
      ·rw [<- e] at hcc
       have h9 : w1.heap[w.heap.size]? = some (.cells #[.slice none 0 0, .bool false, .bool false] 46 (0, 0)) := by
        rw [heap_setCell_other _ _ _ _ (show w.heap.size ≠ b by omega)] at hg2
        exact hg2
       rw [h9] at hcc
       simp only [Option.some.injEq, Obj.cells.injEq] at hcc
       exact absurd hcc.2.1 (by decide)
     ·rcases e with e | e
      ·rw [e, HBk.out] at hq
       simp only [Option.some.injEq, Obj.cells.injEq] at hq
       exact absurd hq.2.1 (by decide)
      ·have h9 : w1.heap[w.heap.size]? = some (.cells #[.slice none 0 0, .bool false, .bool false] 46 (0, 0)) := by
        rw [heap_setCell_other _ _ _ _ (show w.heap.size ≠ b by omega)] at hg2
        exact hg2
       rw [<- e, h9] at hq
       simp only [Option.some.injEq, Obj.cells.injEq] at hq
       exact absurd hq.2.1 (by decide)
   ·refine chg_then HCh.out hC (fun q hq e => ?_)
    rcases e with e | e
    ·exact Or.inl e
    ·omega
  clear hb2 hg2 HOw HRu HAt HCh HBk hX1 hX2
  by_cases hkn : 0 <= x.final
  ·rw [show decide (0 <= x.final) = true from decide_eq_true hkn] at e6
   have hmx : max x.final 0 = x.final := by omega
   rw [hmx] at e5
   obtain ⟨hg3, hfin⟩ := HEnd.out (x.read + (k : Int) == x.final) rfl
   have HG3 := hideIt hg3
   have HFn := hideIt hfin
   clear HEnd hg3 hfin
   go_wp2_with fail
   go_region
   go_wp2_with fail
   refine bodyPost_ret (results_cell_row (P := Tryz.prog) Tryz.results74 _ _ w.heap.size 46 #[.slice ta k tc, .bool (x.read + (k : Int) == x.final), .bool false] (0, 0) _ rfl HG3.out Tryz.underlying46 rfl (by kernel_rfl)) rfl ?_
   exact HFn.out
  ·rw [show decide (0 <= x.final) = false from decide_eq_false hkn] at e6
   obtain ⟨hg3, hfin⟩ := HEnd.out false (decide_eq_false (by omega)).symm
   have HG3 := hideIt hg3
   have HFn := hideIt hfin
   clear HEnd hg3 hfin
   go_wp2_with fail
   go_region
   go_wp2_with fail
   refine bodyPost_ret (results_cell_row (P := Tryz.prog) Tryz.results74 _ _ w.heap.size 46 #[.slice ta k tc, .bool false, .bool false] (0, 0) _ rfl HG3.out Tryz.underlying46 rfl (by kernel_rfl)) rfl ?_
   exact HFn.out
theorem read_split {α : Type} {gaps piece : Int} {l : List StrS} {sl : List (Int × α)} (hi : ∀ x ∈ l, StrInv gaps x) (h : MapS piece l sl) : readAll l = pastS l + sumK (atS (·.read) l) sl := by
 have h1 := sum_split (fun x => if x.done then 0 else x.read) (fun x _ hd => by simp [hd]) (by simp [strNew]) h
 have h2 : sumK (atS (fun x => if x.done then 0 else x.read) l) sl = sumK (atS (·.read) l) sl := by
  unfold sumK
  congr 1
  refine List.map_congr_left fun p hp => ?_
  obtain ⟨_, x, hx, hd⟩ := h.str p hp
  simp [atS, hx, hd]
 rw [<- h2, <- h1]
 unfold readAll pastS
 rw [sum_filter, <- sum_add]
 congr 1
 refine List.map_congr_left fun x hx => ?_
 have hx1 := hi x hx
 unfold readOf
 cases hd : x.done with
 | false => simp
 | true =>
  cases hr : x.reset with
  | true => simp
  | false =>
   have := (hx1.dn hd).2.2 hr
   simp [this]
theorem csumR_any (cb sm n : Nat) (sl : List (Int × Nat)) (hi : Int -> Int) (w : World) (hc : w.cell? ⟨cb, 21, none⟩ = some (.map (some sm))) (hm : MapIs ptrC Tryz.prog 3 w sm n sl) (hs : ∀ p ∈ sl, w.cell? ⟨p.2, 1, none⟩ = some (.int .i64 (hi p.1))) (hr : ∀ p ∈ sl, 0 <= hi p.1 /\ hi p.1 <= 1073741823) (hl : sl.length <= 1073741823) :
  Calls Tryz.prog 70 #[.pointer (some ⟨cb, 0, none⟩), .func (.func 134) #[] #[]] w fun e w' => e = .returned (.int .i64 (sumK hi sl)) /\ Below w.heap.size w w' := by
 have hS : sumK hi sl <= 1152921504606846976 := by
  have := sumK_le (B := 1073741823) fun p hp => (hr p hp).2
  omega
 have HM := hideIt hm
 have HS := hideIt hs
 have HR := hideIt hr
 clear hm hs hr
 go_enter Tryz.func70, Tryz.ntmps70
 go_wp2_with (first
  | (at_range; refine wpList_mrange _ rfl _ 134 rfl 140 Tryz.underlying3 Tryz.underlying134 sm n sl rfl HM.out ?_; intro w0 hrg0 hg0 hs0))
 have hb0 : Below w.heap.size w w0 := grown_below hg0
 have H0 := hideIt (And.intro hrg0 hb0)
 clear hrg0 hg0 hs0 hb0 hc
 go_frame
 go_loopw [5] (fun s wr => ∃ (rest : List (Int × Nat)) (cnt : Nat), RangeIs ptrC Tryz.prog 3 wr sm w.heap.size n sl rest cnt /\ s = .int .i64 (sumK hi sl - sumK hi rest) /\ Hid (∀ p ∈ rest, p ∈ sl) /\ Hid (sumK hi rest <= sumK hi sl) /\ Below w.heap.size w wr) (fun _ wr => wr.rangeLeft sm w.heap.size)
 case atStart => exact ⟨sl, _, H0.out.1, by rw [Int.sub_self], fun p hp => hp, hideIt (Int.le_refl _), H0.out.2⟩
 case round =>
  obtain ⟨rest, cnt, hrg, rfl, hsub, hsm, hbw⟩ := hrel
  have HBw := hideIt hbw
  have HRg := hideIt hrg
  clear hbw
  go_wp2_with (first
   | (at_next; refine wpList_mnext _ rfl _ rfl Tryz.underlying3 sm w.heap.size n sl rest cnt rfl hrg ?_ ?_))
  ·intro hnil
   subst hnil
   go_wp2_with fail
   go_ret
   exact ⟨by simp [sumK], HBw.out⟩
  ·intro k y r1 r2 w1 cnt1 hre hwk hat hrg1 hlt hg1 hs1 hen
   have hky : (k, y) ∈ sl := hsub.out _ (by rw [hre]; simp)
   have hb1 : Below w.heap.size w w1 := HBw.out.grown hg1 HBw.out.size (fun g hg => by cases hg; exact Nat.le_refl _)
   have hcell : w1.cell? ⟨y, 1, none⟩ = some (.int .i64 (hi k)) := cell_below (HS.out (k, y) hky) hb1
   have hmid := sumK_mid (f := hi) r1 r2 k y
   rw [<- hre] at hmid
   have hn1 : 0 <= sumK hi (r1 ++ r2) := sumK_nonneg fun p hp => (HR.out p (hsub.out p (by rw [hre]; simp at hp ⊢; rcases hp with h | h <;> simp [h]))).1
   have hsb : Hid (∀ p ∈ r1 ++ r2, p ∈ sl) := fun p hp => hsub.out p (by rw [hre]; simp at hp ⊢; rcases hp with h | h <;> simp [h])
   have hk : 0 <= hi k /\ hi k <= 1073741823 := HR.out (k, y) hky
   obtain ⟨hk0, hk1⟩ := hk
   have hn2 := hsm.out
   have hw : IntKind.i64.wrap (sumK hi sl - sumK hi rest + hi k) = sumK hi sl - sumK hi (r1 ++ r2) := by
    rw [IntKind.wrap_i64]
    omega
   have HM2 := hideIt hmid
   have HE := hideIt (tBytesRead_any y (hi k) w1 hcell)
   have H1 := hideIt (And.intro hrg1 (And.intro hb1 (And.intro hlt hsb)))
   have HN := hideIt (show sumK hi (r1 ++ r2) <= sumK hi sl from by omega)
   generalize sumK hi rest = Sr at hw HM2 ⊢
   clear hmid hn1 hb1 hcell hky hrg1 hlt hsb hn2 hg1 hs1 hat
   go_wp2_with fail
   refine HE.out.mono ?_
   rintro e w2 ⟨rfl, rfl⟩
   clear HE
   go_wp2_with fail
   go_roundw
   case rel => exact ⟨r1 ++ r2, cnt1, H1.out.1, rfl, H1.out.2.2.2, HN, H1.out.2.1⟩
   case measure =>
    have h1 := H1.out.1.left_eq
    have h2 := HRg.out.left_eq
    have h3 := H1.out.2.2.1
    rw [h1, h2]
    exact h3
theorem cbytesRead_any (cb sm n : Nat) (sl : List (Int × Nat)) (hi : Int -> Int) (past : Int) (w : World) (hc : w.cell? ⟨cb, 21, none⟩ = some (.map (some sm))) (hp : w.cell? ⟨cb, 23, none⟩ = some (.int .i64 past)) (hm : MapIs ptrC Tryz.prog 3 w sm n sl) (hs : ∀ p ∈ sl, w.cell? ⟨p.2, 1, none⟩ = some (.int .i64 (hi p.1))) (hr : ∀ p ∈ sl, 0 <= hi p.1 /\ hi p.1 <= 1073741823) (hl : sl.length <= 1073741823) (hpr : 0 <= past /\ past <= 1152921504606846976) :
  Calls Tryz.prog 81 #[.pointer (some ⟨cb, 0, none⟩)] w fun e w' => e = .returned (.int .i64 (past + sumK hi sl)) /\ Below w.heap.size w w' := by
 have h1 : 0 <= sumK hi sl := sumK_nonneg fun p hp => (hr p hp).1
 have h2 : sumK hi sl <= 1152921504606846976 := by
  have := sumK_le (B := 1073741823) fun p hp => (hr p hp).2
  omega
 have HS := hideIt (fun W (hW : Below w.heap.size w W) => csumR_any cb sm n sl hi W (cell_below hc hW) (hm.same (hW.block sm hm.lt)) (fun p hp => cell_below (hs p hp) hW) hr hl)
 have hw : IntKind.i64.wrap (past + sumK hi sl) = past + sumK hi sl := by rw [IntKind.wrap_i64]; omega
 generalize sumK hi sl = S at HS hw ⊢
 clear hc hm hs hr hl hpr h1 h2
 go_enter Tryz.func81, Tryz.ntmps81
 go_wp2_with fail
 go_region_held3 (fun w' => w'.cell? ⟨cb, 23, none⟩ = some (.int .i64 past)) (first | assumption | go_keep) (first
  | (go_at_call 70; refine (HS.out _ (below_drewN (Below.refl _ w) 1)).mono ?_; rintro e w1 ⟨rfl, hb1⟩; have k23 := cell_below hp (below_undrew hb1)))
 have HB := hideIt (below_undrew hb1)
 clear hb1 HS k23
 go_wp2_with fail
 go_ret
 exact ⟨rfl, HB.out⟩
theorem follow_more (bytes ahead read : Int) (ha : 0 <= ahead) : decide (bytes < followN bytes ahead read) = (decide (bytes < read + ahead / 2) && decide (bytes < 1073741823)) := by
 unfold followN
 by_cases h : bytes < read + ahead / 2
 ·rw [if_pos h]
  simp only [h, decide_true, Bool.true_and]
  congr 1
  apply propext
  omega
 ·rw [if_neg h]
  simp [h]
theorem follow_is (bytes ahead read : Int) (hb : bytes <= 1073741823) (ha : 0 <= ahead) : followN bytes ahead read = if decide (bytes < read + ahead / 2) && decide (bytes < 1073741823) then raisedN read ahead else bytes := by
 unfold followN raisedN
 by_cases h : bytes < read + ahead / 2
 ·rw [if_pos h]
  by_cases h2 : bytes < 1073741823
  ·rw [if_pos (by simp [h, h2])]
   split <;> omega
  ·rw [if_neg (by simp [h, h2])]
   omega
 ·rw [if_neg h, if_neg (by simp [h])]
theorem tRaise_at (U : Nat -> Prop) (b : Nat) (lv : Value) (g : Cfg) (x : StrS) (gaps : Int) (w : World) (h : StrAt U w b lv g.c2 x) (hI : StrInv gaps x) (hp : 0 <= g.c2 /\ g.c2 <= 4096) :
  Calls Tryz.prog 77 #[.pointer (some ⟨b, 0, none⟩)] w fun e w' => e = .returned (.bool (moreX g x)) /\ StrAt U w' b lv g.c2 (if moreX g x then { x with credit := raisedN x.read g.c2 } else x) /\ Chg (· = b) w w' /\ (0 <= x.final -> Below w.heap.size w w') := by
 have h1 := hI.len
 have h2 := hI.cred
 have h3 := hI.read
 have c6 : w.cell? ⟨b, 6, none⟩ = some (.bool (decide (0 <= x.final))) := h.cell 6
 have c1 : w.cell? ⟨b, 1, none⟩ = some (.int .i64 x.read) := h.cell 1
 by_cases hk : 0 <= x.final
 ·have hm : moreX g x = false := by
   unfold moreX
   rw [decide_eq_false (by omega : ¬ x.final < 0)]
   rfl
  rw [hm]
  simp only [Bool.false_eq_true, if_false]
  rw [show decide (0 <= x.final) = true from decide_eq_true hk] at c6
  have HE : Hid (∀ n, StrAt U (w.drewN n) b lv g.c2 x /\ Chg (· = b) w (w.drewN n)) := fun n => ⟨h.below (below_drewN (Below.refl _ w) n), Chg.of_below (below_drewN (Below.refl _ w) n)⟩
  clear h hI
  go_enter Tryz.func77, Tryz.ntmps77
  go_wp2_with fail
  go_quiet (fail)
  go_wp2_with fail
  go_ret
  exact ⟨rfl, (HE.out _).1, (HE.out _).2, fun _ => below_drewN (Below.refl _ w) _⟩
 ·have hm : moreX g x = decide (x.credit < followN x.credit g.c2 x.read) := by
   rw [follow_more _ _ _ hp.1]
   unfold moreX
   rw [decide_eq_true (by omega : x.final < 0)]
   rfl
  have hcr : (if moreX g x then { x with credit := raisedN x.read g.c2 } else x) = { x with credit := followN x.credit g.c2 x.read } := by
   rw [hm, follow_more _ _ _ hp.1, follow_is _ _ _ h2.2 hp.1]
   split <;> rfl
  rw [hcr, hm]
  rw [show decide (0 <= x.final) = false from decide_eq_false hk] at c6
  have HF : Hid (∀ W : World, Below w.heap.size w W -> Calls Tryz.prog 80 #[.pointer (some ⟨b, 3, none⟩), .int .i64 x.read] W fun e w' => e = .returned (.bool (decide (x.credit < followN x.credit g.c2 x.read))) /\ StrAt U w' b lv g.c2 { x with credit := followN x.credit g.c2 x.read } /\ Chg (· = b) w w') := by
   intro W hW
   have hw := h.below hW
   refine (kFollow_any x.credit g.c2 x.read b 3 _ 204 W hw.blk rfl rfl (by omega) (by omega)).mono ?_
   rintro e w' ⟨rfl, hw'⟩
   refine ⟨rfl, ?_⟩
   by_cases hl : x.credit < x.read + g.c2 / 2
   ·rw [if_pos hl] at hw'
    subst hw'
    obtain ⟨vs, hr, hc⟩ := hw.runs
    refine ⟨⟨(block_set hw.blk 3 _).trans (by simp), vs, hr.setB hw.blk 3 _, hc⟩, (Chg.of_below hW).trans (chg_set (Below.refl _ _) 3 _)⟩
   ·rw [if_neg hl] at hw'
    subst hw'
    have e : followN x.credit g.c2 x.read = x.credit := by unfold followN; rw [if_neg hl]
    rw [e]
    exact ⟨hw, Chg.of_below hW⟩
  generalize decide (x.credit < followN x.credit g.c2 x.read) = more at HF ⊢
  clear h hI hcr hm
  go_enter Tryz.func77, Tryz.ntmps77
  go_wp2_with fail
  go_region_with (first
   | (go_at_call 80; refine (HF.out _ (below_drewN (Below.refl _ w) 1)).mono ?_; rintro e w1 ⟨rfl, hS, hC⟩))
  have HS := hideIt (And.intro hS hC)
  clear HF hS hC
  go_wp2_with fail
  go_ret
  exact ⟨rfl, HS.out.1, HS.out.2, fun h => by omega⟩
theorem dRead_any (fi : Int) (rs : Bool) (w : World) :
  Calls Tryz.prog 72 #[.agg #[.int .i64 fi, .bool rs]] w fun e w' => e = .returned (.agg #[.slice none 0 0, .bool (!rs), .bool rs]) /\ Below w.heap.size w w' := by
 have hb := below_join (below_alloc w (.cells #[.int .i64 fi, .bool rs] 142)) (below_alloc (w.alloc (.cells #[.int .i64 fi, .bool rs] 142)) (.cells #[.slice none 0 0, .bool (!rs), .bool rs] 46))
 have HX := hideIt (heap_alloc_new (w.alloc (.cells #[.int .i64 fi, .bool rs] 142)) (.cells #[.slice none 0 0, .bool (!rs), .bool rs] 46))
 go_enter Tryz.func72, Tryz.ntmps72
 go_wp2_with fail
 refine bodyPost_ret (results_cell_row (P := Tryz.prog) Tryz.results72 _ _ (w.alloc (.cells #[.int .i64 fi, .bool rs] 142)).heap.size 46 #[.slice none 0 0, .bool (!rs), .bool rs] (0, 0) _ (by simp) (by simpa using HX.out) Tryz.underlying46 rfl (by kernel_rfl)) rfl ?_
 exact ⟨rfl, hb⟩
theorem tDone_any {U : Nat -> Prop} (b : Nat) (lv : Value) (piece : Int) (x : StrS) (w : World) (h : StrAt U w b lv piece x) :
  Calls Tryz.prog 76 #[.pointer (some ⟨b, 0, none⟩)] w fun e w' => e = .returned (.agg #[.int .i64 (max x.final 0), .bool x.reset]) /\ Below w.heap.size w w' := by
 have hb0 := below_alloc w (.cells #[.int .i64 0, .bool false] 142)
 have hbl := h.lt
 have h0 := h.below hb0
 have c5 : (w.alloc (.cells #[.int .i64 0, .bool false] 142)).cell? ⟨b, 5, none⟩ = some (.int .i64 (max x.final 0)) := h0.cell 5
 have c7 : (w.alloc (.cells #[.int .i64 0, .bool false] 142)).cell? ⟨b, 7, none⟩ = some (.bool x.reset) := h0.cell 7
 have x0 : (w.alloc (.cells #[.int .i64 0, .bool false] 142)).heap[w.heap.size]? = some (.cells #[.int .i64 0, .bool false] 142 (0, 0)) := heap_alloc_new w _
 have q0 : (w.alloc (.cells #[.int .i64 0, .bool false] 142)).cell? ⟨w.heap.size, 0, none⟩ = some (.int .i64 0) := by simp
 have q1 : (w.alloc (.cells #[.int .i64 0, .bool false] 142)).cell? ⟨w.heap.size, 1, none⟩ = some (.bool false) := by simp
 have z0 : (w.alloc (.cells #[.int .i64 0, .bool false] 142)).frozen? ⟨w.heap.size, 0, none⟩ = false := frozen_of_row _ _ 0 _ _ x0
 have z1 : (w.alloc (.cells #[.int .i64 0, .bool false] 142)).frozen? ⟨w.heap.size, 1, none⟩ = false := frozen_of_row _ _ 1 _ _ x0
 clear h h0 x0 hb0
 go_enter Tryz.func76, Tryz.ntmps76
 go_wp2_with fail
 go_region
 go_wp2_with fail
 refine bodyPost_ret (results_cell_row (P := Tryz.prog) Tryz.results76 _ _ w.heap.size 142 #[.int .i64 (max x.final 0), .bool x.reset] (0, 0) _ rfl (heap_alloc_new w _) Tryz.underlying142 rfl (by kernel_rfl)) rfl ?_
 exact ⟨rfl, below_drewN (below_alloc w _) 1⟩
theorem craise_any (cb : Nat) (g : Cfg) (c : ConS) (plv : Value) (sm dm : Nat) (past : Int) (w : World) (h : ConBlk w cb g c plv sm dm past) (hl : c.streams.length <= 1073741823) :
  Calls Tryz.prog 82 #[.pointer (some ⟨cb, 0, none⟩)] w fun e w' => e = .returned (.bool (decide (c.streams.length < 1073741823))) /\ w' = (if c.streams.length < 1073741823 then w.setCell ⟨cb, 20, none⟩ (.int .i64 ((c.streams.length + 1 : Nat) : Int)) else w) := by
 have c20 : w.cell? ⟨cb, 20, none⟩ = some (.int .i64 c.streams.length) := h.cell 20
 have z20 := h.free 20
 clear h
 by_cases hm : c.streams.length < 1073741823
 ·rw [decide_eq_true hm, if_pos hm]
  have hb : ((c.streams.length : Int) == 1073741823) = false := beq_eq_false_iff_ne.2 (by omega)
  have hw : IntKind.i64.wrap ((c.streams.length : Int) + 1) = ((c.streams.length + 1 : Nat) : Int) := by rw [IntKind.wrap_i64]; omega
  generalize c.streams.length = n at *
  go_enter Tryz.func82, Tryz.ntmps82
  go_wp2_with fail
  go_ret
  exact ⟨rfl, by simp⟩
 ·rw [decide_eq_false hm, if_neg hm]
  have hb : ((c.streams.length : Int) == 1073741823) = true := beq_iff_eq.2 (by omega)
  generalize c.streams.length = n at *
  go_enter Tryz.func82, Tryz.ntmps82
  go_wp2_with fail
  go_ret
  exact ⟨rfl, rfl⟩
theorem cread_any (N cb : Nat) (g : Cfg) (c : ConS) (a : ConX) (w : World) (h : ConAt N w cb g c a) (hi : ∀ x ∈ c.streams, StrInv g.c4 x) {M : Int} (hok : ConOk M c) (hpr : 0 <= pastS c.streams /\ pastS c.streams <= 1152921504606846976) :
  Calls Tryz.prog 81 #[.pointer (some ⟨cb, 0, none⟩)] w fun e w' => e = .returned (.int .i64 (readAll c.streams)) /\ Below w.heap.size w w' := by
 obtain ⟨n, hn, hm⟩ := h.smap
 rw [read_split hi h.mp]
 refine cbytesRead_any cb a.sm n a.sl _ (pastS c.streams) w (h.blk.cell 21) (h.blk.cell 23) hm (fun p hp => ?_) (fun p hp => ?_) ?_ hpr
 ·obtain ⟨_, x, hx, _⟩ := h.mp.str p hp
  have e : atS (·.read) c.streams p.1 = x.read := by simp [atS, hx]
  rw [e]
  exact (h.str p hp x hx).cell 1
 ·obtain ⟨_, x, hx, _⟩ := h.mp.str p hp
  have e : atS (·.read) c.streams p.1 = x.read := by simp [atS, hx]
  rw [e]
  have h1 := hi x (List.mem_of_getElem? hx)
  have h3 := h1.len
  have h4 := h1.cred
  have h5 := h1.read
  omega
 ·have h2 := hok.slen
  have h3 := h.mp.len
  omega
theorem dFinal_any (fi : Int) (rs : Bool) (w : World) :
  Calls Tryz.prog 132 #[.agg #[.int .i64 fi, .bool rs]] w fun e w' => e = .returned (.int .i64 fi) /\ Below w.heap.size w w' := by
 have hb := below_alloc w (.cells #[.int .i64 fi, .bool rs] 142)
 go_enter Tryz.func132, Tryz.ntmps132
 go_wp2_with fail
 go_ret
 exact ⟨rfl, hb⟩
structure FinishOut (w : World) (cb : Nat) (g : Cfg) (c : ConS) (plv : Value) (sm dm : Nat) (past : Int) (n1 n2 : Nat) (sl : List (Int × Nat)) (dl : List (Int × (Int × Bool))) (e : Ending) (w' : World) : Prop where
 ret : e = .returned (.tuple #[])
 blk : ConBlk w' cb g c plv sm dm past
 smap : MapIs ptrC Tryz.prog 3 w' sm n1 sl
 dmap : MapIs doneC Tryz.prog 3 w' dm n2 dl
 chg : Chg (fun k => k = cb \/ k = sm \/ k = dm) w w'
theorem cfinish_any (cb : Nat) (g : Cfg) (c : ConS) (plv : Value) (sm dm : Nat) (past id fi : Int) (rs : Bool) (n1 n2 b : Nat) (sl : List (Int × Nat)) (dl : List (Int × (Int × Bool))) (w : World) (h : ConBlk w cb g c plv sm dm past) (hm : MapIs ptrC Tryz.prog 3 w sm n1 sl) (hd : MapIs doneC Tryz.prog 3 w dm n2 dl) (hne : sm ≠ dm) (hid : 0 <= id /\ id <= 1073741823) (hy : atK sl id = some b) (hno : atK dl id = none) (hp : 0 <= past /\ past <= 1152921504606846976) (hf : 0 <= fi /\ fi <= 1073741823) (hn2 : n2 <= 1125899906842624) :
  Calls Tryz.prog 75 #[.pointer (some ⟨cb, 0, none⟩), .int .i64 id, .agg #[.int .i64 fi, .bool rs]] w fun e w' => FinishOut w cb g c plv sm dm (past + fi) n1 (n2 + 1) (delK sl id) (dl ++ [(id, (fi, rs))]) e w' := by
 have hb0 := below_alloc w (.cells #[.int .i64 fi, .bool rs] 142)
 have hx0 : (w.alloc (.cells #[.int .i64 fi, .bool rs] 142)).heap[w.heap.size]? = some (.cells #[.int .i64 fi, .bool rs] 142 (0, 0)) := heap_alloc_new w _
 have h0 := h.below hb0
 have hsl : sm < w.heap.size := hm.lt
 have hdl : dm < w.heap.size := hd.lt
 have hcl : cb < w.heap.size := h.lt
 have hm0 := hm.same (hb0.block sm hsl)
 have hd0 := hd.same (hb0.block dm hdl)
 have c21 : (w.alloc (.cells #[.int .i64 fi, .bool rs] 142)).cell? ⟨cb, 21, none⟩ = some (.map (some sm)) := h0.cell 21
 have hwf : (Lit.int .i64 id).wf = true := wf_key (k := id) (by omega)
 have hcs : cb ≠ sm := fun e => by
  obtain ⟨es, ck, q⟩ := hm.is_map
  rw [<- e, h] at q
  cases q
 have hcd : cb ≠ dm := fun e => by
  obtain ⟨es, ck, q⟩ := hd.is_map
  rw [<- e, h] at q
  cases q
 have HM := hideIt hm0
 have HD := hideIt hd0
 have H0 := hideIt h0
 have HB := hideIt hb0
 have HX := hideIt hx0
 have HWf := hideIt hwf
 have HNo := hideIt hno
 clear h hm hd h0 hm0 hd0 hb0 hx0
 go_enter Tryz.func75, Tryz.ntmps75
 go_wp2_with (first
  | (at_delete; refine wpList_mdel (C := ptrC) (K := 3) _ rfl (.tmp 9) (.tmp 10) 134 rfl 140 Tryz.underlying3 Tryz.underlying134 sm n1 sl (by kernel_rfl) HM.out id b (by kernel_rfl) HWf.out hy ?_; intro w1 hm1 hg1 hs1))
 have k1 : w1.heap[w.heap.size]? = some (.cells #[.int .i64 fi, .bool rs] 142 (0, 0)) := (hg1.block w.heap.size (by simp) (fun e => by injection e with e; omega)).trans HX.out
 have hc1 : ConBlk w1 cb g c plv sm dm past := (hg1.block cb (by simp; omega) (fun e => by injection e with e; exact hcs e)).trans H0.out
 have hd1 : MapIs doneC Tryz.prog 3 w1 dm n2 dl := HD.out.same (hg1.block dm (by simp; omega) (fun e => by injection e with e; exact hne e.symm))
 have hC1 : Chg (· = sm) (w.alloc (.cells #[.int .i64 fi, .bool rs] 142)) w1 := ⟨hg1.os, hg1.tape, hg1.output, hg1.size, fun q hq hn => hg1.block q hq (fun e => by injection e with e; exact hn e)⟩
 have c22 : w1.cell? ⟨cb, 22, none⟩ = some (.map (some dm)) := hc1.cell 22
 have b0 : w1.cell? ⟨w.heap.size, 0, none⟩ = some (.int .i64 fi) := by simp only [World.cell?, k1]; rfl
 have b1 : w1.cell? ⟨w.heap.size, 1, none⟩ = some (.bool rs) := by simp only [World.cell?, k1]; rfl
 have hdd : MapIs doneC Tryz.prog 3 w1.drew dm n2 dl := hd1
 obtain ⟨w2, hput, hm2, hg2⟩ := run_mput (C := doneC) (e := 142) Tryz.underlying3 Tryz.underlying135 hdd (by unfold maxLen; omega) HWf.out (y := (fi, rs)) HNo.out
 replace hput : (Instr.mapUpdate 135 (.map (some dm)) (.int .i64 id) (.agg #[.int .i64 fi, .bool rs])).run Tryz.prog w1.drew = .ok () w2 := hput
 have k2 : w2.heap[w.heap.size]? = some (.cells #[.int .i64 fi, .bool rs] 142 (0, 0)) := (hg2.block w.heap.size ((Array.getElem?_eq_some_iff.1 k1).1) (fun e => by injection e with e; omega)).trans k1
 have hc2 : ConBlk w2 cb g c plv sm dm past := (hg2.block cb hc1.lt (fun e => by injection e with e; exact hcd e)).trans hc1
 have hm2' : MapIs ptrC Tryz.prog 3 w2 sm n1 (delK sl id) := hm1.same (hg2.block sm hm1.lt (fun e => by injection e with e; exact hne e))
 have hC2 : Chg (· = dm) w1 w2 := ⟨hg2.os, hg2.tape, hg2.output, hg2.size, fun q hq hn => hg2.block q hq (fun e => by injection e with e; exact hn e)⟩
 have c23 : w2.cell? ⟨cb, 23, none⟩ = some (.int .i64 past) := hc2.cell 23
 have d0 : w2.cell? ⟨w.heap.size, 0, none⟩ = some (.int .i64 fi) := by simp only [World.cell?, k2]; rfl
 have d1 : w2.cell? ⟨w.heap.size, 1, none⟩ = some (.bool rs) := by simp only [World.cell?, k2]; rfl
 have hwp : IntKind.i64.wrap (past + fi) = past + fi := by rw [IntKind.wrap_i64]; omega
 have HEnd : Hid (∀ W, Below w2.heap.size w2 W -> W.cell? ⟨cb, 23, none⟩ = some (.int .i64 past) /\ W.frozen? ⟨cb, 23, none⟩ = false /\ FinishOut w cb g c plv sm dm (past + fi) n1 (n2 + 1) (delK sl id) (dl ++ [(id, (fi, rs))]) (.returned (.tuple #[])) (W.setCell ⟨cb, 23, none⟩ (.int .i64 (past + fi)))) := by
  intro W hW
  have hcW := hc2.below hW
  refine ⟨hcW.cell 23, hcW.free 23, rfl, (block_set hcW 23 _).trans (by simp [conC]), ?_, ?_, ?_⟩
  ·exact (hm2'.same (hW.block sm hm2'.lt)).same (heap_setCell_other _ _ _ _ (Ne.symm hcs))
  ·exact (hm2.same (hW.block dm hm2.lt)).same (heap_setCell_other _ _ _ _ (Ne.symm hcd))
  ·refine (((Chg.of_below HB.out).trans (hC1.mono fun q _ e => Or.inr (Or.inl e))).trans (hC2.mono fun q _ e => Or.inr (Or.inr e))).trans ((Chg.of_below hW).trans ((chg_set (Below.refl _ _) 23 _).mono fun q _ e => Or.inl e))
 have HPut := hideIt hput
 have HDf : Hid (∀ W, Calls Tryz.prog 132 #[.agg #[.int .i64 fi, .bool rs]] W fun e w' => e = .returned (.int .i64 fi) /\ Below W.heap.size W w') := fun W => dFinal_any fi rs W
 clear hm1 hg1 hs1 k1 hc1 hd1 hC1 hdd hm2 hg2 k2 hc2 hm2' hC2 HM HD H0 HB HX HPut
 go_wp2_with fail
 go_region
 all_goals (
  go_wp2_with fail
  go_region_with (first
   | (go_at_call 132; refine (HDf.out _).mono ?_; rintro e w3 ⟨rfl, hb3⟩; obtain ⟨y1, y2, hfo⟩ := HEnd.out w3 (below_join (below_drewN (Below.refl _ w2) 1) hb3)))
  all_goals (
   have HFo := hideIt hfo
   clear hfo y1 y2 hb3
   go_wp2_with fail
   go_end0
   exact HFo.out))
end Go.Proofs.YthmdjhlhodpbhaaGreatDoor
