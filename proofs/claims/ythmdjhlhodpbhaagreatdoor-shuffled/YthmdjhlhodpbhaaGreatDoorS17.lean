/- Shuffled, 17 -/
import Derived.Lib.Overlaps
import Derived.Lib.AppendZeros
import Derived.Lib.AppendZerosOnto
import Derived.Laws.Externs
import Derived.Deep.DeepFit
import Derived.Test.YthmdjhlhodpbhaaGreatDoorS02
import Derived.Test.YthmdjhlhodpbhaaGreatDoorS08
import Derived.Test.YthmdjhlhodpbhaaGreatDoorS10
import Derived.Test.YthmdjhlhodpbhaaGreatDoorS11
import Derived.Test.YthmdjhlhodpbhaaGreatDoorS16
set_option maxHeartbeats 16000000
set_option maxRecDepth 8000
namespace Go.Proofs.YthmdjhlhodpbhaaGreatDoor
open Go.RowKit
def TakeOut (U : Nat -> Prop) (w : World) (b : Nat) (lv : Value) (fc : Array Value) (rd hi cr ah fi : Int) (kn rs : Bool) (ty en c1 c2 : Int) (r : Int × List RunL) (e : Ending) (w' : World) : Prop :=
 e = .returned (.int .i64 (if c1 ≠ 0 then c1 else if c2 ≠ 0 then c2 else r.1)) /\ Chg (fun k => k = b \/ lv.ownBlock = some k) w w' /\
   (c1 = 0 -> c2 = 0 -> r.1 = 0 -> ∃ lv' vs', TkS U w b lv w.heap.size fc #[lv', .int .i64 rd, .int .i64 (max hi en), .int .i64 cr, .int .i64 ah, .int .i64 (if tellsN ty = true then en else fi), .bool (if tellsN ty = true then true else kn), .bool (if ty = 5 /\ coversR r.2 rd en = false then true else rs)] lv' vs' (if ty = 5 /\ coversR r.2 rd en = false then [] else r.2) w')
theorem tTake_any {U : Nat -> Prop} (b : Nat) (lv : Value) (vs : List RunV) (rl : List RunL) (rd hi cr ah fi : Int) (kn rs : Bool) (ty sid ofs : Int) (bv : Value) (en pf room gaps : Int) (items : List Int) (c1 c2 : Int) (r : Int × List RunL) (w : World)
  (hblk : w.heap[b]? = some (.cells #[lv, .int .i64 rd, .int .i64 hi, .int .i64 cr, .int .i64 ah, .int .i64 fi, .bool kn, .bool rs] 204 (0, 0))) (h : x_RunsAt w lv vs rl) (hf : RunsFit rl) (hcap : ∀ v ∈ vs, CapOk v.2 /\ ∀ g, v.2.ownBlock = some g -> U g)
  (hbv : Ro w 5 bv items.length (U8 items)) (hbc : ∀ ao cap, bv = .slice ao items.length cap -> items.length <= cap /\ cap <= 9223372036854775807) (hrd : 0 <= rd /\ rd <= 1073741823) (ho : 0 <= ofs /\ ofs <= 1073741823) (hl : items.length <= 1073741823) (hh : 0 <= hi /\ hi <= 1073741823) (hen : 0 <= en /\ en <= 1099511627776)
  (hc1 : c1 = endN kn ty en hi fi) (hc2 : c2 = creditN hi cr en room) (hr : r = recN rs rl (ofs + skipN rd ofs items) (items.drop (skipN rd ofs items)) gaps) (hfr : r.1 = 0 -> RunsFit r.2) :
  Calls Tryz.prog 217 #[.pointer (some ⟨b, 0, none⟩), pfrmV ty sid ofs bv en pf, .int .i64 room, .int .i64 gaps] w fun e w' => TakeOut U w b lv #[.int .i64 ty, .int .i64 sid, .int .i64 ofs, bv, .int .i64 en, .int .i64 pf] rd hi cr ah fi kn rs ty en c1 c2 r e w' := by
 have hblt : b < w.heap.size := (Array.getElem?_eq_some_iff.1 hblk).1
 have cc : ∀ (W : World), Below w.heap.size w W -> ∀ i v, (#[lv, .int .i64 rd, .int .i64 hi, .int .i64 cr, .int .i64 ah, .int .i64 fi, .bool kn, .bool rs] : Array Value)[i]? = some v -> W.cell? ⟨b, i, none⟩ = some v := by
  intro W hW i v hv
  refine cell_below ?_ hW
  simp only [World.cell?, hblk]
  exact hv
 have HCE : Hid (∀ W : World, (Below w.heap.size w W /\ W.cell? ⟨w.heap.size, 0, none⟩ = some (.int .i64 ty) /\ W.cell? ⟨w.heap.size, 1, none⟩ = some (.int .i64 sid) /\ W.cell? ⟨w.heap.size, 2, none⟩ = some (.int .i64 ofs) /\ W.cell? ⟨w.heap.size, 3, none⟩ = some (bv) /\ W.cell? ⟨w.heap.size, 4, none⟩ = some (.int .i64 en) /\ W.cell? ⟨w.heap.size, 5, none⟩ = some (.int .i64 pf)) -> Calls Tryz.prog 227 #[.pointer (some ⟨b, 0, none⟩), .agg #[.int .i64 ty, .int .i64 sid, .int .i64 ofs, bv, .int .i64 en, .int .i64 pf]] W fun e w' => e = .returned (.int .i64 c1) /\ Below W.heap.size W w') := by
  intro W hW'
  have hW := hW'.1
  rw [hc1]
  exact tcheckEnd_any b hi fi kn ty sid ofs bv en pf W (cc W hW 2 _ rfl) (cc W hW 5 _ rfl) (cc W hW 6 _ rfl)
 have HCC : Hid (∀ W : World, (Below w.heap.size w W /\ W.cell? ⟨w.heap.size, 0, none⟩ = some (.int .i64 ty) /\ W.cell? ⟨w.heap.size, 1, none⟩ = some (.int .i64 sid) /\ W.cell? ⟨w.heap.size, 2, none⟩ = some (.int .i64 ofs) /\ W.cell? ⟨w.heap.size, 3, none⟩ = some (bv) /\ W.cell? ⟨w.heap.size, 4, none⟩ = some (.int .i64 en) /\ W.cell? ⟨w.heap.size, 5, none⟩ = some (.int .i64 pf)) -> Calls Tryz.prog 228 #[.pointer (some ⟨b, 0, none⟩), .int .i64 en, .int .i64 room] W fun e w' => e = .returned (.int .i64 c2) /\ Below W.heap.size W w') := by
  intro W hW'
  have hW := hW'.1
  rw [hc2]
  exact tcheckCredit_any b hi cr ah en room W (cc W hW 2 _ rfl) (cc W hW 3 _ rfl) (cc W hW 4 _ rfl) hh hen
 have HRc : Hid (∀ W : World, Below w.heap.size w W -> W.heap[w.heap.size]? = some (.cells #[.int .i64 ty, .int .i64 sid, .int .i64 ofs, bv, .int .i64 en, .int .i64 pf] 286 (0, 0)) -> Calls Tryz.prog 229 #[.pointer (some ⟨b, 0, none⟩), .agg #[.int .i64 ty, .int .i64 sid, .int .i64 ofs, bv, .int .i64 en, .int .i64 pf], .int .i64 gaps] W fun e w' => e = .returned (.int .i64 r.1) /\ ∃ lv' vs', TkS U w b lv w.heap.size #[.int .i64 ty, .int .i64 sid, .int .i64 ofs, bv, .int .i64 en, .int .i64 pf] #[lv', .int .i64 rd, .int .i64 hi, .int .i64 cr, .int .i64 ah, .int .i64 fi, .bool kn, .bool rs] lv' vs' r.2 w') := by
  intro W hW hbx
  refine (treceive_any b _ lv vs rl rd rs ty sid ofs bv en pf gaps items W (by rw [hW.block b hblt]; exact hblk) rfl rfl rfl (h.below hW) hf (fun v hv => (hcap v hv).1) (hbv.below hW) hbc hrd ho hl).mono ?_
  rintro e w' ⟨r', hr', rfl, lv', vs', hfo⟩
  rw [<- hr] at hr'
  subst hr'
  have hp := hfo.pre hW
  refine ⟨rfl, lv', vs', hp.blk, ?_, hp.runs, fun v hv => ?_, hp.chg, hp.at_⟩
  ·rw [hfo.chg.block _ (Array.getElem?_eq_some_iff.1 hbx).1 (fun hF => ?_)]
   ·exact hbx
   ·rcases hF with e | e
    ·omega
    ·have := (h.own.lt _ e).2
     omega
  ·rcases hp.items v hv with e | e
   ·exact ⟨(hcap v e).1, fun g hg => Or.inl ((hcap v e).2 g hg)⟩
   ·exact ⟨e.1, fun g hg => Or.inr (e.2 g hg)⟩
 have HGu : Hid (∀ (W : World) (lv' : Value) (vs' : List RunV) (fi' : Int) (kn' : Bool), r.1 = 0 -> TkS U w b lv w.heap.size #[.int .i64 ty, .int .i64 sid, .int .i64 ofs, bv, .int .i64 en, .int .i64 pf] #[lv', .int .i64 rd, .int .i64 (max hi en), .int .i64 cr, .int .i64 ah, .int .i64 fi', .bool kn', .bool rs] lv' vs' r.2 W -> Calls Tryz.prog 231 #[.pointer (some ⟨b, 0, none⟩)] W fun e w' => e = .returned (.tuple #[]) /\ ∃ lv' vs', TkS U w b lv w.heap.size #[.int .i64 ty, .int .i64 sid, .int .i64 ofs, bv, .int .i64 en, .int .i64 pf] #[lv', .int .i64 rd, .int .i64 (max hi en), .int .i64 cr, .int .i64 ah, .int .i64 fi', .bool kn', .bool (if coversR r.2 rd fi' then rs else true)] lv' vs' (if coversR r.2 rd fi' then r.2 else []) w') :=
  fun W lv' vs' fi' kn' h0 hT => tgiveUp_any b lv _ _ rd (max hi en) cr ah fi' kn' rs lv' vs' r.2 w W hT (hfr h0)
 have HX : Hid (∀ W, Calls Tryz.prog 230 #[.agg #[.int .i64 ty, .int .i64 sid, .int .i64 ofs, bv, .int .i64 en, .int .i64 pf]] W fun e w' => e = .returned (.bool (tellsN ty)) /\ Below W.heap.size W w') := fun W => wTellsFinal_any ty sid ofs bv en pf W
 have HK : Hid (∀ W W' : World, Below W.heap.size W W' -> (Below w.heap.size w W /\ W.cell? ⟨w.heap.size, 0, none⟩ = some (.int .i64 ty) /\ W.cell? ⟨w.heap.size, 1, none⟩ = some (.int .i64 sid) /\ W.cell? ⟨w.heap.size, 2, none⟩ = some (.int .i64 ofs) /\ W.cell? ⟨w.heap.size, 3, none⟩ = some (bv) /\ W.cell? ⟨w.heap.size, 4, none⟩ = some (.int .i64 en) /\ W.cell? ⟨w.heap.size, 5, none⟩ = some (.int .i64 pf)) -> (Below w.heap.size w W' /\ W'.cell? ⟨w.heap.size, 0, none⟩ = some (.int .i64 ty) /\ W'.cell? ⟨w.heap.size, 1, none⟩ = some (.int .i64 sid) /\ W'.cell? ⟨w.heap.size, 2, none⟩ = some (.int .i64 ofs) /\ W'.cell? ⟨w.heap.size, 3, none⟩ = some (bv) /\ W'.cell? ⟨w.heap.size, 4, none⟩ = some (.int .i64 en) /\ W'.cell? ⟨w.heap.size, 5, none⟩ = some (.int .i64 pf))) :=
  fun W W' hb h => ⟨below_join h.1 hb, cell_below h.2.1 hb, cell_below h.2.2.1 hb, cell_below h.2.2.2.1 hb, cell_below h.2.2.2.2.1 hb, cell_below h.2.2.2.2.2.1 hb, cell_below h.2.2.2.2.2.2 hb⟩
 have hba : Below w.heap.size w (w.alloc (.cells #[.int .i64 ty, .int .i64 sid, .int .i64 ofs, bv, .int .i64 en, .int .i64 pf] 286)) := below_alloc w _
 have HBX : Hid ((w.alloc (.cells #[.int .i64 ty, .int .i64 sid, .int .i64 ofs, bv, .int .i64 en, .int .i64 pf] 286)).heap[w.heap.size]? = some (.cells #[.int .i64 ty, .int .i64 sid, .int .i64 ofs, bv, .int .i64 en, .int .i64 pf] 286 (0, 0))) := heap_alloc_new w _
 have HSB : Hid (∀ W : World, Below (w.alloc (.cells #[.int .i64 ty, .int .i64 sid, .int .i64 ofs, bv, .int .i64 en, .int .i64 pf] 286)).heap.size (w.alloc (.cells #[.int .i64 ty, .int .i64 sid, .int .i64 ofs, bv, .int .i64 en, .int .i64 pf] 286)) W -> Below w.heap.size w W /\ W.heap[w.heap.size]? = some (.cells #[.int .i64 ty, .int .i64 sid, .int .i64 ofs, bv, .int .i64 en, .int .i64 pf] 286 (0, 0))) := fun W hW => ⟨below_join hba hW, by rw [hW.block _ (by simp)]; exact HBX.out⟩
 have S0 : Below w.heap.size w (w.alloc (.cells #[.int .i64 ty, .int .i64 sid, .int .i64 ofs, bv, .int .i64 en, .int .i64 pf] 286)).drew /\ (w.alloc (.cells #[.int .i64 ty, .int .i64 sid, .int .i64 ofs, bv, .int .i64 en, .int .i64 pf] 286)).drew.cell? ⟨w.heap.size, 0, none⟩ = some (.int .i64 ty) /\ (w.alloc (.cells #[.int .i64 ty, .int .i64 sid, .int .i64 ofs, bv, .int .i64 en, .int .i64 pf] 286)).drew.cell? ⟨w.heap.size, 1, none⟩ = some (.int .i64 sid) /\ (w.alloc (.cells #[.int .i64 ty, .int .i64 sid, .int .i64 ofs, bv, .int .i64 en, .int .i64 pf] 286)).drew.cell? ⟨w.heap.size, 2, none⟩ = some (.int .i64 ofs) /\ (w.alloc (.cells #[.int .i64 ty, .int .i64 sid, .int .i64 ofs, bv, .int .i64 en, .int .i64 pf] 286)).drew.cell? ⟨w.heap.size, 3, none⟩ = some (bv) /\ (w.alloc (.cells #[.int .i64 ty, .int .i64 sid, .int .i64 ofs, bv, .int .i64 en, .int .i64 pf] 286)).drew.cell? ⟨w.heap.size, 4, none⟩ = some (.int .i64 en) /\ (w.alloc (.cells #[.int .i64 ty, .int .i64 sid, .int .i64 ofs, bv, .int .i64 en, .int .i64 pf] 286)).drew.cell? ⟨w.heap.size, 5, none⟩ = some (.int .i64 pf) := ⟨below_drewN hba 1, by simp, by simp, by simp, by simp, by simp, by simp⟩
 obtain ⟨ba, bc, rfl, _, _⟩ := id hbv
 clear hblk h hf hcap hbv hbc cc hc1 hc2 hr hfr
 unfold pfrmV
 have HS0 := hideIt S0
 clear S0
 go_enter Tryz.func217, Tryz.ntmps217
 go_upto_region 1 with fail
 go_cut [9] from 11 to 20 (fun s9 wx => s9 = .int .i64 (orI c1 c2) /\ Below w.heap.size w wx /\ wx.heap[w.heap.size]? = some (.cells #[.int .i64 ty, .int .i64 sid, .int .i64 ofs, .slice ba items.length bc, .int .i64 en, .int .i64 pf] 286 (0, 0)))
 case first =>
  have S1 := HS0.out
  go_region_held3 (fun w' => Below w.heap.size w w' /\ w'.cell? ⟨w.heap.size, 0, none⟩ = some (.int .i64 ty) /\ w'.cell? ⟨w.heap.size, 1, none⟩ = some (.int .i64 sid) /\ w'.cell? ⟨w.heap.size, 2, none⟩ = some (.int .i64 ofs) /\ w'.cell? ⟨w.heap.size, 3, none⟩ = some (.slice ba items.length bc) /\ w'.cell? ⟨w.heap.size, 4, none⟩ = some (.int .i64 en) /\ w'.cell? ⟨w.heap.size, 5, none⟩ = some (.int .i64 pf)) (first | assumption | exact HK.out _ _ (below_alloc _ _) (by assumption) | go_keep) (first
   | (go_at_call 227; refine (HCE.out _ (by assumption)).mono ?_; rintro e w1 ⟨rfl, hb1⟩; have hS1 := HK.out _ _ hb1 (by assumption))
   | (go_at_call 228; refine (HCC.out _ (by assumption)).mono ?_; rintro e w2 ⟨rfl, hb2⟩; have hS2 := HK.out _ _ hb2 (by assumption))
   | (go_at_call 226; refine (cmpOrI_any c1 c2 _ _ (by simp) (by simp)).mono ?_; rintro e w3 ⟨rfl, rfl⟩))
  all_goals
   go_wp2_with fail
   go_meet
   refine ⟨rfl, HSB.out _ ?_⟩
   first
    | exact below_join (below_join (below_undrew hb1) hb2) (below_alloc _ _)
    | exact below_join (below_join (below_undrew hb2) hb1) (below_alloc _ _)
 case rest =>
  obtain ⟨rfl, hbw, hbx⟩ := hcut
  by_cases hor : orI c1 c2 = 0
  ·have h12 : c1 = 0 /\ c2 = 0 := by
    unfold orI at hor
    split at hor
    ·contradiction
    ·next h => exact ⟨Classical.byContradiction h, hor⟩
   obtain ⟨rfl, rfl⟩ := h12
   have hor2 : orI 0 0 = 0 := rfl
   rw [hor2]
   clear hor hor2 HCE HCC HK HSB HS0 HBX hba
   have HR1 := hideIt (HRc.out wc hbw hbx)
   have e0 : wc.cell? ⟨w.heap.size, 0, none⟩ = some (.int .i64 ty) := by simp only [World.cell?, hbx]; rfl
   have e1 : wc.cell? ⟨w.heap.size, 1, none⟩ = some (.int .i64 sid) := by simp only [World.cell?, hbx]; rfl
   have e2 : wc.cell? ⟨w.heap.size, 2, none⟩ = some (.int .i64 ofs) := by simp only [World.cell?, hbx]; rfl
   have e3 : wc.cell? ⟨w.heap.size, 3, none⟩ = some (.slice ba items.length bc) := by simp only [World.cell?, hbx]; rfl
   have e4 : wc.cell? ⟨w.heap.size, 4, none⟩ = some (.int .i64 en) := by simp only [World.cell?, hbx]; rfl
   have e5 : wc.cell? ⟨w.heap.size, 5, none⟩ = some (.int .i64 pf) := by simp only [World.cell?, hbx]; rfl
   clear HRc hbw hbx
   go_wp2_with fail
   refine HR1.out.mono ?_
   rintro e w2 ⟨rfl, lv', vs', hT⟩
   have HT := hideIt hT
   clear HR1 e0 e1 e2 e3 e4 e5 hT
   by_cases hr0 : r.1 = 0
   ·have hi2 : w2.cell? ⟨b, 2, none⟩ = some (.int .i64 hi) := HT.out.cell 2
    have z2 := HT.out.free 2
    have f4 : w2.cell? ⟨w.heap.size, 4, none⟩ = some (.int .i64 en) := HT.out.bcell 4
    go_upto_region 7 with fail
    go_cut [10] from 31 to 40 (fun s10 wx => s10 = .int .i64 0 /\ TkS U w b lv w.heap.size #[.int .i64 ty, .int .i64 sid, .int .i64 ofs, .slice ba items.length bc, .int .i64 en, .int .i64 pf] #[lv', .int .i64 rd, .int .i64 (max hi en), .int .i64 cr, .int .i64 ah, .int .i64 fi, .bool kn, .bool rs] lv' vs' r.2 wx)
    case first =>
     have HM := hideIt (HT.out.setB 2 (.int .i64 (max hi en)))
     rcases Int.lt_or_le hi en with hlt | hle
     ·have hmx : max hi en = en := by omega
      rw [hmx] at HM
      go_region
      go_wp2_with fail
      go_meet
      rw [hmx]
      exact ⟨rfl, HM.out.below (below_drewN (Below.refl _ _) 1)⟩
     ·have hmx : max hi en = hi := by omega
      rw [hmx] at HM
      go_region
      go_wp2_with fail
      go_meet
      rw [hmx]
      exact ⟨rfl, HM.out.below (below_drewN (Below.refl _ _) 1)⟩
    case rest =>
     obtain ⟨rfl, hT1⟩ := hcut
     have HT1 := hideIt hT1
     clear hi2 z2 f4 HT
     have g0 : wc.cell? ⟨w.heap.size, 0, none⟩ = some (.int .i64 ty) := hT1.bcell 0
     have g1 : wc.cell? ⟨w.heap.size, 1, none⟩ = some (.int .i64 sid) := hT1.bcell 1
     have g2 : wc.cell? ⟨w.heap.size, 2, none⟩ = some (.int .i64 ofs) := hT1.bcell 2
     have g3 : wc.cell? ⟨w.heap.size, 3, none⟩ = some (.slice ba items.length bc) := hT1.bcell 3
     have g4 : wc.cell? ⟨w.heap.size, 4, none⟩ = some (.int .i64 en) := hT1.bcell 4
     have g5 : wc.cell? ⟨w.heap.size, 5, none⟩ = some (.int .i64 pf) := hT1.bcell 5
     clear hT1
     go_wp2_with fail
     refine (HX.out _).mono ?_
     rintro e w3 ⟨rfl, hb3⟩
     have H3 := hideIt (HT1.out.below hb3)
     have HR0 := hideIt hr0
     clear g0 g1 g2 g3 g4 g5 hb3 HT1 HX hr0
     cases ht : tellsN ty with
     | false =>
      have hn5 : ty ≠ 5 := fun e => by rw [e] at ht; exact absurd ht (by decide)
      have hb5 : (ty == 5) = false := beq_eq_false_iff_ne.2 hn5
      have k0 : w3.cell? ⟨w.heap.size, 0, none⟩ = some (.int .i64 ty) := H3.out.bcell 0
      go_wp2_with fail
      go_ret
      refine ⟨by rw [HR0.out]; rfl, H3.out.chg, fun _ _ _ => ⟨lv', vs', ?_⟩⟩
      rw [if_neg (by rw [ht]; decide), if_neg (by rw [ht]; decide), if_neg (fun h => hn5 h.1), if_neg (fun h => hn5 h.1)]
      exact H3.out
     | true =>
      have d4 : w3.cell? ⟨w.heap.size, 4, none⟩ = some (.int .i64 en) := H3.out.bcell 4
      have d5 : w3.cell? ⟨b, 5, none⟩ = some (.int .i64 fi) := H3.out.cell 5
      have z5 := H3.out.free 5
      have H4 := hideIt (H3.out.setB 5 (.int .i64 en))
      have d6 : (w3.setCell ⟨b, 5, none⟩ (.int .i64 en)).cell? ⟨b, 6, none⟩ = some (.bool kn) := H4.out.cell 6
      have z6 := H4.out.free 6
      have H5 := hideIt (H4.out.setB 6 (.bool true))
      have k0 : ((w3.setCell ⟨b, 5, none⟩ (.int .i64 en)).setCell ⟨b, 6, none⟩ (.bool true)).cell? ⟨w.heap.size, 0, none⟩ = some (.int .i64 ty) := H5.out.bcell 0
      by_cases h5 : ty = 5
      ·have HG := hideIt (HGu.out _ lv' vs' en true HR0.out H5.out)
       have HT5 := hideIt ht
       clear H3 H4 H5 HGu ht
       have hb5 : (ty == 5) = true := by rw [h5]; rfl
       replace h5 := hideIt h5
       go_wp2_with fail
       refine HG.out.mono ?_
       rintro e w6 ⟨rfl, lv2, vs2, hT6⟩
       have H6 := hideIt hT6
       clear hT6 HG d4 d5 z5 d6 z6 k0
       go_wp2_with fail
       go_ret
       refine ⟨by rw [HR0.out]; rfl, H6.out.chg, fun _ _ _ => ⟨lv2, vs2, ?_⟩⟩
       have h6 := H6.out
       rw [if_pos HT5.out, if_pos HT5.out]
       cases hcv : coversR r.2 rd en with
       | true =>
        rw [hcv] at h6
        rw [if_neg (fun h => by simp at h), if_neg (fun h => by simp at h)]
        exact h6
       | false =>
        rw [hcv] at h6
        rw [if_pos ⟨h5.out, rfl⟩, if_pos ⟨h5.out, rfl⟩]
        exact h6
      ·have hb5 : (ty == 5) = false := beq_eq_false_iff_ne.2 h5
       go_wp2_with fail
       go_ret
       refine ⟨by rw [HR0.out]; rfl, H5.out.chg, fun _ _ _ => ⟨lv', vs', ?_⟩⟩
       rw [if_pos ht, if_pos ht, if_neg (fun h => h5 h.1), if_neg (fun h => h5 h.1)]
       exact H5.out
   ·have hrb : (r.1 == 0) = false := beq_eq_false_iff_ne.2 hr0
    go_wp2_with fail
    go_ret
    exact ⟨by rfl, HT.out.chg, fun _ _ h => absurd h hr0⟩
  ·have hob : (orI c1 c2 == 0) = false := beq_eq_false_iff_ne.2 hor
   go_wp2_with fail
   go_ret
   refine ⟨?_, Chg.of_below hbw, fun h1 h2 => absurd (by rw [h1, h2]; rfl) hor⟩
   have hcd : orI c1 c2 = if c1 ≠ 0 then c1 else if c2 ≠ 0 then c2 else r.1 := by
    unfold orI at hor ⊢
    by_cases h1 : c1 ≠ 0
    ·rw [if_pos h1, if_pos h1]
    ·rw [if_neg h1] at hor
     rw [if_neg h1, if_neg h1, if_pos hor]
   rw [<- hcd]
   rfl
structure StrAt (U : Nat -> Prop) (w : World) (b : Nat) (lv : Value) (piece : Int) (x : StrS) : Prop where
 blk : w.heap[b]? = some (.cells #[lv, .int .i64 x.read, .int .i64 x.highest, .int .i64 x.credit, .int .i64 piece, .int .i64 (max x.final 0), .bool (decide (0 <= x.final)), .bool x.reset] 204 (0, 0))
 runs : ∃ vs, x_RunsAt w lv vs (runsOf x.read x.bytes) /\ ∀ v ∈ vs, CapOk v.2 /\ ∀ g, v.2.ownBlock = some g -> U g
theorem StrAt.lt {U : Nat -> Prop} {w : World} {b : Nat} {lv : Value} {piece : Int} {x : StrS} (h : StrAt U w b lv piece x) : b < w.heap.size := (Array.getElem?_eq_some_iff.1 h.blk).1
theorem StrAt.own {U : Nat -> Prop} {w : World} {b : Nat} {lv : Value} {piece : Int} {x : StrS} (h : StrAt U w b lv piece x) : ∃ vs, w.ownsRow 0 259 2 lv vs.length (cells2 vs) := by
 obtain ⟨vs, h1, _⟩ := h.runs
 exact ⟨vs, h1.own⟩
theorem StrAt.cell {U : Nat -> Prop} {w : World} {b : Nat} {lv : Value} {piece : Int} {x : StrS} (h : StrAt U w b lv piece x) (i : Nat) : w.cell? ⟨b, i, none⟩ = (#[lv, .int .i64 x.read, .int .i64 x.highest, .int .i64 x.credit, .int .i64 piece, .int .i64 (max x.final 0), .bool (decide (0 <= x.final)), .bool x.reset] : Array Value)[i]? := by
 simp only [World.cell?, h.blk]
 rfl
theorem StrAt.chg {U F : Nat -> Prop} {w w' : World} {b : Nat} {lv : Value} {piece : Int} {x : StrS} (h : StrAt U w b lv piece x) (hc : Chg F w w') (h1 : ¬ F b) (h2 : ∀ g, lv.ownBlock = some g -> ¬ F g) (h3 : ∀ k cur fr, w.heap[k]? = some (.cells cur 5 fr) -> ¬ F k) : StrAt U w' b lv piece x := by
 obtain ⟨vs, hr, hk⟩ := h.runs
 refine ⟨by rw [hc.block b h.lt h1]; exact h.blk, vs, ⟨own_chg hr.own hc h2, hr.sh, fun i v r hv hw => (hr.ro i v r hv hw).chg hc h3⟩, hk⟩
theorem StrAt.below {U : Nat -> Prop} {w w' : World} {b : Nat} {lv : Value} {piece : Int} {x : StrS} (h : StrAt U w b lv piece x) (hb : Below w.heap.size w w') : StrAt U w' b lv piece x := h.chg (F := fun _ => False) (Chg.of_below hb) (fun h => h) (fun _ _ h => h) (fun _ _ _ _ h => h)
theorem StrAt.mono {U U' : Nat -> Prop} {w : World} {b : Nat} {lv : Value} {piece : Int} {x : StrS} (h : StrAt U w b lv piece x) (hU : ∀ k, U k -> U' k) : StrAt U' w b lv piece x := by
 obtain ⟨vs, hr, hk⟩ := h.runs
 exact ⟨h.blk, vs, hr, fun v hv => ⟨(hk v hv).1, fun g hg => hU g ((hk v hv).2 g hg)⟩⟩
theorem fit_runsOf {base : Int} {l : List Int} (h0 : 0 <= base) (hl : base + l.length <= 1099511627776) (hc : (runsOf base l).length <= 100) : RunsFit (runsOf base l) where
 wf := runsOf_wf l base
 few := hc
 far := fun r hr => by
  have h1 := runsOf_from l base r hr
  have h2 := runsOf_to l base r hr
  omega
theorem StrInv.fit {gaps : Int} {x : StrS} (h : StrInv gaps x) (hg : gaps <= 8) : RunsFit (runsOf x.read x.bytes) := by
 refine fit_runsOf h.read ?_ ?_
 ·have := h.len; have := h.cred; omega
 ·have h1 := runsOf_length x.bytes x.read
  have := h.gaps
  omega
theorem RdB.cap {w : World} {v : Value} {l : List Int} (h : RdB w v l) : ∀ ao cap, v = .slice ao l.length cap -> l.length <= cap /\ cap <= 9223372036854775807 := by
 obtain ⟨_, _, ao, cap, rfl, h3, h4, _⟩ := h
 intro ao' cap' e
 simp only [Value.slice.injEq] at e
 omega
structure DealOut (U F : Nat -> Prop) (w : World) (b : Nat) (lv : Value) (piece : Int) (r : Int × StrS) (e : Ending) (w' : World) : Prop where
 ret : e = .returned (.int .i64 r.1)
 chg : Chg F w w'
 str : r.1 = 0 -> ∃ lv', StrAt (fun k => U k \/ (w.heap.size <= k /\ k < w'.heap.size)) w' b lv' piece r.2 /\ (lv'.ownBlock = lv.ownBlock \/ ∀ g, lv'.ownBlock = some g -> w.heap.size <= g)
theorem tTake_at {U : Nat -> Prop} (b : Nat) (lv : Value) (piece gaps credit high : Int) (f : FrmS) (x : StrS) (bv : Value) (pf : Int) (w : World) (h : StrAt U w b lv piece x) (hx : StrInv gaps x) (hd : x.done = false) (hch : high <= credit) (hg : 0 <= gaps /\ gaps <= 8) (hty : f.type = 3 \/ f.type = 4 \/ f.type = 5) (h5 : f.type = 5 -> f.bytes = []) (ho : 0 <= f.ofs /\ f.ofs <= 1073741823) (hl : f.bytes.length <= 1073741823) (hbv : RdB w bv f.bytes) :
  Calls Tryz.prog 217 #[.pointer (some ⟨b, 0, none⟩), pfrmV f.type f.id (if f.type = 5 then 0 else f.ofs) bv (f.ofs + f.bytes.length) pf, .int .i64 (credit - high), .int .i64 gaps] w fun e w' => DealOut U (fun k => k = b \/ lv.ownBlock = some k) w b lv piece (strDeal gaps credit high f x) e w' := by
 obtain ⟨vs, hr, hk⟩ := h.runs
 have hP := strDeal_prog (gaps := gaps) (credit := credit) (high := high) (f := f) hbv.1 hx hd hch hty h5 ho.1
 have hR := recN_is hx (f := f) hbv.1 h5
 simp only at hP hR
 have hpo : 0 <= (if f.type = 5 then 0 else f.ofs) /\ (if f.type = 5 then 0 else f.ofs) <= 1073741823 := by split <;> omega
 obtain ⟨po, hpo'⟩ : ∃ po, (if f.type = 5 then 0 else f.ofs) = po := ⟨_, rfl⟩
 rw [hpo'] at hP hR hpo ⊢
 have hlen := hx.len
 have hcr := hx.cred
 have hrd := hx.read
 have hcnt := runsOf_length x.bytes x.read
 have hgp := hx.gaps
 obtain ⟨r, hr'⟩ : ∃ r, recN x.reset (runsOf x.read x.bytes) (po + skipN x.read po f.bytes) (f.bytes.drop (skipN x.read po f.bytes)) gaps = r := ⟨_, rfl⟩
 rw [hr'] at hP hR
 have hfit : r.1 = 0 -> RunsFit r.2 := by
  intro h0
  have hlen2 : (r.2.length : Int) <= gaps := by
   rw [<- hr'] at h0 ⊢
   unfold recN at h0 ⊢
   split
   ·simp only; omega
   ·next h1 =>
    rw [if_neg h1] at h0
    split
    ·next h2 => rw [if_pos h2] at h0; exact absurd (show (9 : Int) = 0 from h0) (by decide)
    ·next h2 =>
     rw [if_neg h2] at h0
     simp only at h0 ⊢
     split at h0
     ·exact absurd h0 (by decide)
     ·omega
  by_cases hc : f.type ≠ 5 /\ x.reset = false
  ·obtain ⟨e1, e2⟩ := hR.1 hc
   have e3 := e2 h0
   rw [e3] at hlen2 ⊢
   refine fit_runsOf hrd ?_ (by omega)
   have hb2 : ((recvS gaps x f.ofs f.bytes).2.bytes.length : Int) <= 2147483647 := by
    unfold recvS
    split
    ·simp only; omega
    ·next m hm =>
     have := recvTo_len hm
     split <;> simp only <;> omega
   omega
  ·rw [hR.2 hc]
   exact hx.fit hg.2
 refine (tTake_any b lv vs (runsOf x.read x.bytes) x.read x.highest x.credit piece (max x.final 0) (decide (0 <= x.final)) x.reset f.type f.id po bv (f.ofs + f.bytes.length) pf (credit - high) gaps f.bytes _ _ r w h.blk hr (hx.fit hg.2) hk hbv.ro hbv.cap (by omega) hpo hl (by omega) (by omega) rfl rfl hr'.symm hfit).mono ?_
 rintro e w' ⟨rfl, hch', hst⟩
 refine ⟨by rw [hP.1], hch', fun h0 => ?_⟩
 rw [hP.1] at h0
 have hc1 : endN (decide (0 <= x.final)) f.type (f.ofs + f.bytes.length) x.highest (max x.final 0) = 0 := by
  refine Classical.byContradiction fun hne => ?_
  rw [if_pos hne] at h0
  exact hne h0
 rw [if_neg (by rw [hc1]; decide)] at h0
 have hc2 : creditN x.highest x.credit (f.ofs + f.bytes.length) (credit - high) = 0 := by
  refine Classical.byContradiction fun hne => ?_
  rw [if_pos hne] at h0
  exact hne h0
 rw [if_neg (by rw [hc2]; decide)] at h0
 obtain ⟨lv', vs', hT⟩ := hst hc1 hc2 h0
 obtain ⟨q1, q2, q3, q4, q5, q6, q7⟩ := hP.2 hc1 hc2 h0 _ rfl
 generalize (strDeal gaps credit high f x).2 = x' at *
 have hblk := hT.blk
 have hruns := hT.runs
 have hwf2 : RunsWf (if f.type = 5 /\ coversR r.2 x.read (f.ofs + f.bytes.length) = false then [] else r.2) := by
  split
  ·exact trivial
  ·exact (hfit h0).wf
 have hcaps : ∀ v ∈ vs', CapOk v.2 /\ ∀ g, v.2.ownBlock = some g -> U g \/ (w.heap.size <= g /\ g < w'.heap.size) := by
  intro v hv
  have h1 := hT.caps v hv
  have h2 := hruns.old hwf2 v hv
  exact ⟨h1.1, fun g hg => (h1.2 g hg).imp id fun h3 => ⟨h3, h2 g hg⟩⟩
 have htell : tellsN f.type = true -> (if tellsN f.type = true then f.ofs + (f.bytes.length : Int) else x.final) = f.ofs + f.bytes.length := fun h => if_pos h
 have hfin : (if tellsN f.type = true then f.ofs + (f.bytes.length : Int) else max x.final 0) = max x'.final 0 := by
  rw [q4]
  split <;> omega
 have hkn : (if tellsN f.type = true then true else decide (0 <= x.final)) = decide (0 <= x'.final) := by
  rw [q4]
  split
  ·simp; omega
  ·rfl
 rw [hfin, hkn, <- q2] at hblk
 by_cases hcv : f.type = 5 /\ coversR r.2 x.read (f.ofs + f.bytes.length) = false
 ·obtain ⟨e1, e2⟩ := q6 hcv.1 hcv.2
  rw [if_pos hcv] at hblk hruns
  refine ⟨lv', ⟨?_, vs', ?_, hcaps⟩, hT.at_⟩
  ·rw [q1, q3, e1]; exact hblk
  ·rw [e2]; exact hruns
 ·obtain ⟨e1, e2⟩ := q7 hcv
  rw [if_neg hcv] at hblk hruns
  refine ⟨lv', ⟨?_, vs', ?_, hcaps⟩, hT.at_⟩
  ·rw [q1, q3, e1]; exact hblk
  ·rw [q1, e2]; exact hruns
end Go.Proofs.YthmdjhlhodpbhaaGreatDoor
namespace Go.Proofs.YthmdjhlhodpbhaaGreatDoor
def pastS (l : List StrS) : Int := ((l.filter fun x => x.done).map fun x => x.final).sum
def sumK {α : Type} (f : Int -> Int) (l : List (Int × α)) : Int := (l.map fun p => f p.1).sum
def atS (h : StrS -> Int) (l : List StrS) (id : Int) : Int := ((l[id.toNat]?).map h).getD 0
theorem sum_filter {α : Type} (p : α -> Bool) (f : α -> Int) (l : List α) : ((l.filter p).map f).sum = (l.map fun i => if p i then f i else 0).sum := by
 induction l with
 | nil => rfl
 | cons a t ih =>
  by_cases h : p a = true
  ·simp [h, ih]
  ·simp [h, ih]
theorem sum_add {α : Type} (f g : α -> Int) (l : List α) : (l.map fun i => f i + g i).sum = (l.map f).sum + (l.map g).sum := by
 induction l with
 | nil => rfl
 | cons a t ih => simp [ih]; omega
theorem map_range {α : Type} (h : α -> Int) (l : List α) : l.map h = (List.range l.length).map fun i => ((l[i]?).map h).getD 0 := by
 apply List.ext_getElem
 ·simp
 ·intro i h1 h2
  simp at h1
  simp [List.getElem?_eq_getElem h1]
theorem perm_sum {a b : List Int} (h : a.Perm b) : a.sum = b.sum := by
 induction h with
 | nil => rfl
 | cons x _ ih => simp [ih]
 | swap x y l => simp; omega
 | trans _ _ h1 h2 => exact h1.trans h2
theorem sum_keys {ks : List Nat} {n : Nat} (f : Nat -> Int) (hn : ks.Nodup) (hk : ∀ k ∈ ks, k < n) : (ks.map f).sum = ((List.range n).map fun i => if i ∈ ks then f i else 0).sum := by
 have hp : ((List.range n).filter fun i => decide (i ∈ ks)).Perm ks := by
  rw [List.perm_ext_iff_of_nodup (List.nodup_range.filter _) hn]
  intro a
  simp only [List.mem_filter, List.mem_range, decide_eq_true_eq]
  exact ⟨fun h => h.2, fun h => ⟨hk a h, h⟩⟩
 have h1 := perm_sum (hp.map f)
 rw [<- h1, sum_filter]
 congr 1
 refine List.map_congr_left fun i _ => ?_
 by_cases h : i ∈ ks <;> simp [h]
structure MapS {α : Type} (piece : Int) (l : List StrS) (sl : List (Int × α)) : Prop where
 nd : (sl.map (·.1)).Nodup
 str : ∀ p ∈ sl, 0 <= p.1 /\ ∃ x, l[p.1.toNat]? = some x /\ x.done = false
 non : ∀ (i : Nat) x, l[i]? = some x -> x.done = false -> (i : Int) ∉ sl.map (·.1) -> x = strNew piece
theorem high_split {α : Type} {gaps piece : Int} {l : List StrS} {sl : List (Int × α)} (hi : ∀ x ∈ l, StrInv gaps x) (h : MapS piece l sl) : highS l = pastS l + sumK (atS (·.highest) l) sl := by
 have hks : (sl.map fun p => p.1.toNat).Nodup := by
  have : (sl.map fun p => p.1.toNat) = (sl.map (·.1)).map Int.toNat := by rw [List.map_map]; rfl
  rw [this]
  have hn := h.nd
  have hpos : ∀ x ∈ sl.map (·.1), 0 <= x := by
   intro x hx
   obtain ⟨p, hp, rfl⟩ := List.mem_map.1 hx
   exact (h.str p hp).1
  generalize sl.map (·.1) = ids at hn hpos
  induction ids with
  | nil => simp
  | cons a t ih =>
   rw [List.nodup_cons] at hn
   simp only [List.map_cons, List.nodup_cons]
   refine ⟨fun hm => ?_, ih hn.2 (fun x hx => hpos x (by simp [hx]))⟩
   obtain ⟨b, hb, e⟩ := List.mem_map.1 hm
   have h1 := hpos a (by simp)
   have h2 := hpos b (by simp [hb])
   have : a = b := by omega
   subst this
   exact hn.1 hb
 have hlt : ∀ k ∈ (sl.map fun p => p.1.toNat), k < l.length := by
  intro k hk
  obtain ⟨p, hp, rfl⟩ := List.mem_map.1 hk
  obtain ⟨_, x, hx, _⟩ := h.str p hp
  exact (List.getElem?_eq_some_iff.1 hx).1
 have e1 : sumK (atS (·.highest) l) sl = ((sl.map fun p => p.1.toNat).map fun i => ((l[i]?).map (·.highest)).getD 0).sum := by
  unfold sumK atS
  rw [List.map_map]
  rfl
 have e2 : pastS l = ((List.range l.length).map fun i => ((l[i]?).map fun x => if x.done then x.final else 0).getD 0).sum := by
  unfold pastS
  rw [sum_filter, map_range]
 have e3 : highS l = ((List.range l.length).map fun i => ((l[i]?).map (·.highest)).getD 0).sum := by
  unfold highS
  rw [map_range]
 rw [e1, e2, e3, sum_keys _ hks hlt, <- sum_add]
 congr 1
 refine List.map_congr_left fun i hir => ?_
 have hil : i < l.length := List.mem_range.1 hir
 have hx : l[i]? = some l[i] := List.getElem?_eq_getElem hil
 have hin := hi _ (List.getElem_mem hil)
 generalize l[i] = x at hx hin
 rw [hx]
 simp only [Option.map_some, Option.getD_some]
 have hmem : i ∈ (sl.map fun p => p.1.toNat) ↔ (i : Int) ∈ sl.map (·.1) := by
  constructor
  ·intro hm
   obtain ⟨p, hp, e⟩ := List.mem_map.1 hm
   have := (h.str p hp).1
   exact List.mem_map.2 ⟨p, hp, by omega⟩
  ·intro hm
   obtain ⟨p, hp, e⟩ := List.mem_map.1 hm
   exact List.mem_map.2 ⟨p, hp, by omega⟩
 cases hd : x.done with
 | true =>
  have hd2 := hin.dn hd
  have hfin := hin.fin hd2.2.1
  have hnk : i ∉ (sl.map fun p => p.1.toNat) := by
   intro hm
   obtain ⟨p, hp, e⟩ := List.mem_map.1 hm
   obtain ⟨_, y, hy, hyd⟩ := h.str p hp
   rw [e, hx] at hy
   simp only [Option.some.injEq] at hy
   subst hy
   rw [hd] at hyd
   cases hyd
  simp [hnk, hfin]
 | false =>
  by_cases hk : i ∈ (sl.map fun p => p.1.toNat)
  ·simp [hk]
  ·have := h.non i x hx hd (fun hm => hk (hmem.2 hm))
   subst this
   simp [hk, strNew]
end Go.Proofs.YthmdjhlhodpbhaaGreatDoor
namespace Go.Proofs.YthmdjhlhodpbhaaGreatDoor
open Go.RowKit
theorem sumK_nonneg {α : Type} {f : Int -> Int} {l : List (Int × α)} (h : ∀ p ∈ l, 0 <= f p.1) : 0 <= sumK f l := by
 induction l with
 | nil => simp [sumK]
 | cons a t ih =>
  have h1 := h a (by simp)
  have h2 := ih fun p hp => h p (by simp [hp])
  simp only [sumK, List.map_cons, List.sum_cons] at h2 ⊢
  omega
theorem sumK_le {α : Type} {f : Int -> Int} {l : List (Int × α)} {B : Int} (h : ∀ p ∈ l, f p.1 <= B) : sumK f l <= l.length * B := by
 induction l with
 | nil => simp [sumK]
 | cons a t ih =>
  have h1 := h a (by simp)
  have h2 := ih fun p hp => h p (by simp [hp])
  simp only [sumK, List.map_cons, List.sum_cons, List.length_cons] at h2 ⊢
  have : ((t.length + 1 : Nat) : Int) * B = t.length * B + B := by rw [Int.natCast_add, Int.add_mul]; simp
  omega
theorem sumK_mid {α : Type} {f : Int -> Int} (r1 r2 : List (Int × α)) (k : Int) (y : α) : sumK f (r1 ++ (k, y) :: r2) = sumK f (r1 ++ r2) + f k := by
 simp only [sumK, List.map_append, List.map_cons, List.sum_append, List.sum_cons]
 omega
theorem csumH_any (cb sm n : Nat) (sl : List (Int × Nat)) (hi : Int -> Int) (w : World) (hc : w.cell? ⟨cb, 21, none⟩ = some (.map (some sm))) (hm : MapIs ptrC Tryz.prog 3 w sm n sl) (hs : ∀ p ∈ sl, w.cell? ⟨p.2, 2, none⟩ = some (.int .i64 (hi p.1))) (hr : ∀ p ∈ sl, 0 <= hi p.1 /\ hi p.1 <= 1073741823) (hl : sl.length <= 1073741823) :
  Calls Tryz.prog 70 #[.pointer (some ⟨cb, 0, none⟩), .func (.func 225) #[] #[]] w fun e w' => e = .returned (.int .i64 (sumK hi sl)) /\ Below w.heap.size w w' := by
 have hS : sumK hi sl <= 1152921504606846976 := by
  have := sumK_le (B := 1073741823) fun p hp => (hr p hp).2
  omega
 have HM := hideIt hm
 have HS := hideIt hs
 have HR := hideIt hr
 clear hm hs hr
 go_enter Tryz.func70, Tryz.ntmps70
 go_wp2_with (first
  | (at_range; refine wpList_mrange _ rfl _ 134 rfl 140 Tryz.underlying3 Tryz.underlying134 sm n sl rfl HM.out ?_; intro w0 hrg0 hg0 hs0))
 have hb0 : Below w.heap.size w w0 := grown_below hg0
 have H0 := hideIt (And.intro hrg0 hb0)
 clear hrg0 hg0 hs0 hb0 hc
 go_frame
 go_loopw [5] (fun s wr => ∃ (rest : List (Int × Nat)) (cnt : Nat), RangeIs ptrC Tryz.prog 3 wr sm w.heap.size n sl rest cnt /\ s = .int .i64 (sumK hi sl - sumK hi rest) /\ Hid (∀ p ∈ rest, p ∈ sl) /\ Hid (sumK hi rest <= sumK hi sl) /\ Below w.heap.size w wr) (fun _ wr => wr.rangeLeft sm w.heap.size)
 case atStart => exact ⟨sl, _, H0.out.1, by rw [Int.sub_self], fun p hp => hp, hideIt (Int.le_refl _), H0.out.2⟩
 case round =>
  obtain ⟨rest, cnt, hrg, rfl, hsub, hsm, hbw⟩ := hrel
  have HBw := hideIt hbw
  have HRg := hideIt hrg
  clear hbw
  go_wp2_with (first
   | (at_next; refine wpList_mnext _ rfl _ rfl Tryz.underlying3 sm w.heap.size n sl rest cnt rfl hrg ?_ ?_))
  ·intro hnil
   subst hnil
   go_wp2_with fail
   go_ret
   exact ⟨by simp [sumK], HBw.out⟩
  ·intro k y r1 r2 w1 cnt1 hre hwk hat hrg1 hlt hg1 hs1 hen
   have hky : (k, y) ∈ sl := hsub.out _ (by rw [hre]; simp)
   have hb1 : Below w.heap.size w w1 := HBw.out.grown hg1 HBw.out.size (fun g hg => by cases hg; exact Nat.le_refl _)
   have hcell : w1.cell? ⟨y, 2, none⟩ = some (.int .i64 (hi k)) := cell_below (HS.out (k, y) hky) hb1
   have hmid := sumK_mid (f := hi) r1 r2 k y
   rw [<- hre] at hmid
   have hn1 : 0 <= sumK hi (r1 ++ r2) := sumK_nonneg fun p hp => (HR.out p (hsub.out p (by rw [hre]; simp at hp ⊢; rcases hp with h | h <;> simp [h]))).1
   have hsb : Hid (∀ p ∈ r1 ++ r2, p ∈ sl) := fun p hp => hsub.out p (by rw [hre]; simp at hp ⊢; rcases hp with h | h <;> simp [h])
   have hk : 0 <= hi k /\ hi k <= 1073741823 := HR.out (k, y) hky
   obtain ⟨hk0, hk1⟩ := hk
   have hn2 := hsm.out
   have hw : IntKind.i64.wrap (sumK hi sl - sumK hi rest + hi k) = sumK hi sl - sumK hi (r1 ++ r2) := by
    rw [IntKind.wrap_i64]
    omega
   have HM2 := hideIt hmid
   have HE := hideIt (tHighest_any y (hi k) w1 hcell)
   have H1 := hideIt (And.intro hrg1 (And.intro hb1 (And.intro hlt hsb)))
   have HN := hideIt (show sumK hi (r1 ++ r2) <= sumK hi sl from by omega)
   generalize sumK hi rest = Sr at hw HM2 ⊢
   clear hmid hn1 hb1 hcell hky hrg1 hlt hsb hn2 hg1 hs1 hat
   go_wp2_with fail
   refine HE.out.mono ?_
   rintro e w2 ⟨rfl, rfl⟩
   clear HE
   go_wp2_with fail
   go_roundw
   case rel => exact ⟨r1 ++ r2, cnt1, H1.out.1, rfl, H1.out.2.2.2, HN, H1.out.2.1⟩
   case measure =>
    have h1 := H1.out.1.left_eq
    have h2 := HRg.out.left_eq
    have h3 := H1.out.2.2.1
    rw [h1, h2]
    exact h3
theorem chighest_any (cb sm n : Nat) (sl : List (Int × Nat)) (hi : Int -> Int) (past : Int) (w : World) (hc : w.cell? ⟨cb, 21, none⟩ = some (.map (some sm))) (hp : w.cell? ⟨cb, 23, none⟩ = some (.int .i64 past)) (hm : MapIs ptrC Tryz.prog 3 w sm n sl) (hs : ∀ p ∈ sl, w.cell? ⟨p.2, 2, none⟩ = some (.int .i64 (hi p.1))) (hr : ∀ p ∈ sl, 0 <= hi p.1 /\ hi p.1 <= 1073741823) (hl : sl.length <= 1073741823) (hpr : 0 <= past /\ past <= 1152921504606846976) :
  Calls Tryz.prog 216 #[.pointer (some ⟨cb, 0, none⟩)] w fun e w' => e = .returned (.int .i64 (past + sumK hi sl)) /\ Below w.heap.size w w' := by
 have h1 : 0 <= sumK hi sl := sumK_nonneg fun p hp => (hr p hp).1
 have h2 : sumK hi sl <= 1152921504606846976 := by
  have := sumK_le (B := 1073741823) fun p hp => (hr p hp).2
  omega
 have HS := hideIt (fun W (hW : Below w.heap.size w W) => csumH_any cb sm n sl hi W (cell_below hc hW) (hm.same (hW.block sm hm.lt)) (fun p hp => cell_below (hs p hp) hW) hr hl)
 have hw : IntKind.i64.wrap (past + sumK hi sl) = past + sumK hi sl := by rw [IntKind.wrap_i64]; omega
 generalize sumK hi sl = S at HS hw ⊢
 clear hc hm hs hr hl hpr h1 h2
 go_enter Tryz.func216, Tryz.ntmps216
 go_wp2_with fail
 go_region_held3 (fun w' => w'.cell? ⟨cb, 23, none⟩ = some (.int .i64 past)) (first | assumption | go_keep) (first
  | (go_at_call 70; refine (HS.out _ (below_drewN (Below.refl _ w) 1)).mono ?_; rintro e w1 ⟨rfl, hb1⟩; have k23 := cell_below hp (below_undrew hb1)))
 have HB := hideIt (below_undrew hb1)
 clear hb1 HS k23
 go_wp2_with fail
 go_ret
 exact ⟨rfl, HB.out⟩
theorem tNew_any (ahead : Int) (w : World) :
  Calls Tryz.prog 130 #[.int .i64 ahead] w fun e w' => ∃ b, w.heap.size <= b /\ e = .returned (.pointer (some ⟨b, 0, none⟩)) /\ (∀ U, StrAt U w' b (.slice none 0 0) ahead (strNew ahead)) /\ Below w.heap.size w w' := by
 have HK := hideIt (kNew_any ahead w)
 go_enter Tryz.func130, Tryz.ntmps130
 go_wp2_with fail
 refine HK.out.mono ?_
 rintro e w1 ⟨rfl, hb1⟩
 have HB := hideIt hb1
 clear hb1 HK
 go_wp2_with fail
 go_ret
 refine ⟨w1.heap.size, HB.out.size, rfl, fun U => ⟨?_, [], ?_, fun v hv => (by cases hv)⟩, below_join HB.out (below_alloc _ _)⟩
 ·exact heap_alloc_new w1 _
 ·exact ⟨⟨rfl, Or.inl ⟨rfl, rfl⟩⟩, ⟨rfl, fun i v r hv => (by simp at hv)⟩, fun i v r hv => (by simp at hv)⟩
theorem dTake_any (fi : Int) (rs : Bool) (ty sid ofs : Int) (bv : Value) (en pf : Int) (w : World) :
  Calls Tryz.prog 215 #[.agg #[.int .i64 fi, .bool rs], pfrmV ty sid ofs bv en pf] w fun e w' => e = .returned (.int .i64 (finalN ty en fi)) /\ Below w.heap.size w w' := by
 have HF : Hid (∀ W, Calls Tryz.prog 224 #[.agg #[.int .i64 ty, .int .i64 sid, .int .i64 ofs, bv, .int .i64 en, .int .i64 pf], .int .i64 fi] W fun e w' => e = .returned (.int .i64 (finalN ty en fi)) /\ Below W.heap.size W w') := fun W => tcheckFinal_any ty sid ofs bv en pf fi W
 unfold pfrmV
 go_enter Tryz.func215, Tryz.ntmps215
 go_wp2_with fail
 refine (HF.out _).mono ?_
 rintro e w1 ⟨rfl, hb1⟩
 have HB := hideIt (below_join (below_join (below_alloc w _) (below_alloc _ _)) hb1)
 clear hb1 HF
 go_wp2_with fail
 go_ret
 exact ⟨rfl, HB.out⟩
theorem u_info : (Tryz.prog.info? 279).map (fun i => (i.zero, i.size, i.bytes)) = some (some (.agg #[.int .i64 0, .slice none 0 0]), 2, 32) := by kernel_rfl
theorem u_size : (Tryz.prog.info? 279).map (·.size) = some 2 := by kernel_rfl
theorem u_sizeOf (w : World) : (Go.sizeOf 279).run Tryz.prog w = .ok 2 w := by kernel_rfl
theorem u_overlaps (g vb o n1 c1 n2 c2 : Nat) (w : World) {a b : Array Value} {t1 t2 : TypeId} (hne : vb ≠ g) (hg : w.heap[g]? = some (.cells a t1 (0, 0))) (hv : w.heap[vb]? = some (.cells b t2 (0, 0))) (ha : a.size ≠ 0) :
  (callFunc 201 #[.slice (some ⟨vb, 0, none⟩) n1 c1, .slice (some ⟨g, o, none⟩) n2 c2]).run Tryz.prog w = .ok (.value (.bool false)) w := by
 rw [run_callFunc_extern Tryz.func201 (by kernel_rfl) (by kernel_rfl) (by kernel_rfl) (e := Extern.SlicesOverlaps.overlaps #[129, 129] #[4]) (by kernel_rfl),
  Lib.run_overlaps_apart w 129 4 279 Tryz.underlying129 2 u_sizeOf ⟨vb, 0, none⟩ ⟨g, o, none⟩ n1 c1 n2 c2 hne t2 t1 b.size a.size (by simp [World.shape?, hv]) (by simp [World.shape?, hg]) ha (frozen_of_row w vb _ _ _ hv) (frozen_of_row w vb _ _ _ hv)]
 rfl
theorem u_Insert_room (g n c i vb vc : Nat) (cur : Array Value) (xc cs : List Value) (w : World) (hg : w.heap[g]? = some (.cells cur 279 (0, 0))) (hv : w.heap[vb]? = some (.cells xc.toArray 279 (0, 0))) (hne : vb ≠ g)
  (hcl : cs.length = n * 2) (hxl : xc.length = 2) (htk : cur.toList.take (n * 2) = cs) (hi : i < n) (hroom : n + 1 <= c) (hcs : cur.size = c * 2) (hm : c <= maxLen) (h1 : ∀ v ∈ cs, v.oneCell' = true) (h1x : ∀ v ∈ xc, v.oneCell' = true) :
  Calls Tryz.prog 200 #[.slice (some ⟨g, 0, none⟩) n c, .int .i64 i, .slice (some ⟨vb, 0, none⟩) 1 vc] w fun e w' =>
   e = .returned (.slice (some ⟨g, 0, none⟩) (n + 1) c) /\ ∃ q, w' = (w.drewN q).setRow g (overV (overV cur.toList ((i + 1) * 2) (cs.drop (i * 2))) (i * 2) xc).toArray := by
 have hov := fun o n1 c1 n2 c2 => u_overlaps g vb o n1 c1 n2 c2 w hne hg hv (by omega)
 unfold maxLen at hm
 have hw1 : IntKind.i64.wrap ((i : Int) + 1) = (i : Int) + 1 := by rw [IntKind.wrap_i64]; omega
 have hb1 : (0 : Int) <= (i : Int) + 1 := by omega
 have hin : i <= n := by omega
 have htn : ((i : Int) + 1).toNat = i + 1 := by omega
 have hb2 : ¬ (c = i + 1) := by omega
 have hb3 : (i : Int) <= (n : Int) + 1 := by omega
 have hb4 : ¬ (c = i) := by omega
 have u1 := run_underlying Tryz.underlying129
 have z1 := u_sizeOf
 have hcur : n * 2 <= cur.toList.length := by simp; omega
 have hdl : (cs.drop (i * 2)).length = (n - i) * 2 := by rw [List.length_drop, hcl]; omega
 have hcp1 : ∀ (W : World) (ty : TypeId) (dc sc : Nat), W.heap = w.heap -> (Builtin.copy_ #[129, 129] ty #[.slice (some ⟨g, (i + 1) * 2, none⟩) (n - i) dc, .slice (some ⟨g, i * 2, none⟩) (n + 1 - i) sc]).run Tryz.prog W
   = .ok (goInt (Nat.min (n + 1 - i) (n - i))) (W.setRow g (overV cur.toList ((i + 1) * 2) (cs.drop (i * 2))).toArray) := by
  intro W ty dc sc hW
  refine run_copy_rowN W 129 129 ty 279 g ((i + 1) * 2) (n - i) dc ⟨g, i * 2, none⟩ (n + 1 - i) sc cur 279 (cs.drop (i * 2)) 2 Tryz.underlying129 u_size (by rw [hW]; exact hg) ?_ ?_ ?_ ?_
  ·rw [hdl]; simp only [Nat.min_def]; split <;> omega
  ·intro j v hj
   have hj' := (List.getElem?_eq_some_iff.1 hj).1
   rw [List.getElem?_drop, <- htk, List.getElem?_take_of_lt (by omega)] at hj
   rw [Addr.add_lit]
   simp only [World.cell?, hW, hg]
   simpa using hj
  ·rw [hdl, hcs]; omega
  ·exact fun v hv => h1 v (List.mem_of_mem_drop hv)
 have hcp2 : ∀ (W : World) (ty : TypeId) (dc : Nat), W.heap = (w.setRow g (overV cur.toList ((i + 1) * 2) (cs.drop (i * 2))).toArray).heap -> (Builtin.copy_ #[129, 129] ty #[.slice (some ⟨g, i * 2, none⟩) (n + 1 - i) dc, .slice (some ⟨vb, 0, none⟩) 1 vc]).run Tryz.prog W
   = .ok (goInt (Nat.min 1 (n + 1 - i))) (W.setRow g (overV (overV cur.toList ((i + 1) * 2) (cs.drop (i * 2))) (i * 2) xc).toArray) := by
  intro W ty dc hW
  have e1 := overV_length (l := cur.toList) (o := (i + 1) * 2) (cs := cs.drop (i * 2)) (by rw [hdl]; simp; omega)
  have hgW : W.heap[g]? = some (.cells (overV cur.toList ((i + 1) * 2) (cs.drop (i * 2))).toArray 279 (0, 0)) := by rw [hW]; exact setRow_heap w g cur _ _ _ hg
  have h2 := run_copy_rowN W 129 129 ty 279 g (i * 2) (n + 1 - i) dc ⟨vb, 0, none⟩ 1 vc _ 279 xc 2 Tryz.underlying129 u_size hgW (by rw [hxl]; simp only [Nat.min_def]; split <;> omega) ?_ ?_ h1x
  ·simpa using h2
  ·intro j v hj
   rw [Addr.add_lit]
   have : W.heap[vb]? = w.heap[vb]? := by rw [hW]; exact setRow_other w g vb _ hne
   simp only [World.cell?, this, hv]
   simpa using hj
  ·simp only [List.size_toArray]; rw [e1, hxl]; simp; omega
 have HC1 := hideIt hcp1
 have HC2 := hideIt hcp2
 clear hcp1 hcp2
 go_enter Tryz.func200, Tryz.ntmps200
 go_wp2_with (simp only [hov])
 go_region_law (refine step_copy_run rfl (.tmp 73) (.tmp 76) 129 129 rfl (.slice (some ⟨g, (i + 1) * 2, none⟩) (n - i) (c - (i + 1))) (.slice (some ⟨g, i * 2, none⟩) (n + 1 - i) (c - i)) (by kernel_rfl) (by kernel_rfl) (HC1.out _ _ _ _ rfl) ?_; generalize hW1 : World.setRow _ g _ = W1; replace hW1 := hideIt hW1; refine Hid.out ?_; refine hideIt ?_)
 have HQ : Hid (W1.heap = (w.setRow g (overV cur.toList ((i + 1) * 2) (cs.drop (i * 2))).toArray).heap) := by show _ = _; rw [<- hW1.out]; rfl
 go_wp2_with (refine wpList_copy_run rfl _ _ 129 129 rfl _ _ rfl rfl (HC2.out _ _ _ HQ.out) ?_; generalize hW2 : World.setRow _ g _ = W2; replace hW2 := hideIt hW2)
 go_ret
 refine ⟨rfl, 1, ?_⟩
 rw [<- hW2.out, <- hW1.out, setRow_setRow]
 rfl
end Go.Proofs.YthmdjhlhodpbhaaGreatDoor
