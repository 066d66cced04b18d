/- Tokens, 10 -/
import Derived.Lib.EndianBits
import Derived.BigRegion
import Derived.Deep.RegionHeld3
import Derived.Deep.CutRange
import Derived.LaidEql
import Derived.Deep.RegionLaw
import Derived.Test.YthmdjhlhodpbhaaGreatDoorT03
import Derived.Test.YthmdjhlhodpbhaaGreatDoorT09
set_option maxHeartbeats 16000000
set_option maxRecDepth 8000
namespace Go.Proofs.YthmdjhlhodpbhaaGreatDoor
open Go.RowKit
theorem wreadFour_any (t0 t1 t2 t3 : Int) (b off n cap : Nat) (w : World) (hn : 4 <= n) (h0 : w.cell? ⟨b, off, none⟩ = some (.int .u8 t0)) (h1 : w.cell? ⟨b, off + 1, none⟩ = some (.int .u8 t1)) (h2 : w.cell? ⟨b, off + 2, none⟩ = some (.int .u8 t2)) (h3 : w.cell? ⟨b, off + 3, none⟩ = some (.int .u8 t3))
    (r0 : 0 <= t0 /\ t0 < 256) (r1 : 0 <= t1 /\ t1 < 256) (r2 : 0 <= t2 /\ t2 < 256) (r3 : 0 <= t3 /\ t3 < 256) :
    Calls Tryz.prog 143 #[.slice (some ⟨b, off, none⟩) n cap] w fun e w' => e = .returned (.int .u32 (t0 + 256 * t1 + 65536 * t2 + 16777216 * t3)) /\ ∃ q, w' = w.drewN q := by
  have a0 : IntKind.u32.wrap t0 = t0 := u32_wrap_id t0 r0.1 (by omega)
  have a1 : IntKind.u32.wrap t1 = t1 := u32_wrap_id t1 r1.1 (by omega)
  have a2 : IntKind.u32.wrap t2 = t2 := u32_wrap_id t2 r2.1 (by omega)
  have a3 : IntKind.u32.wrap t3 = t3 := u32_wrap_id t3 r3.1 (by omega)
  have s1 : IntKind.u32.wrap (t1 * 256) = t1 * 256 := u32_wrap_id _ (by omega) (by omega)
  have s2 : IntKind.u32.wrap (t2 * 65536) = t2 * 65536 := u32_wrap_id _ (by omega) (by omega)
  have s3 : IntKind.u32.wrap (t3 * 16777216) = t3 * 16777216 := u32_wrap_id _ (by omega) (by omega)
  have o1 : bits .or .u32 t0 (t1 * 256) = t0 + t1 * 256 := u32_or8 t0 _ r0.1 r0.2 (by omega) (by omega) (by omega)
  have o2 : bits .or .u32 (t0 + t1 * 256) (t2 * 65536) = t0 + t1 * 256 + t2 * 65536 := u32_or16 _ _ (by omega) (by omega) (by omega) (by omega) (by omega)
  have o3 : bits .or .u32 (t0 + t1 * 256 + t2 * 65536) (t3 * 16777216) = t0 + t1 * 256 + t2 * 65536 + t3 * 16777216 := u32_or24 _ _ (by omega) (by omega) (by omega) (by omega) (by omega)
  have b1 : (1 : Int) < (n : Int) := by omega
  have b2 : (2 : Int) < (n : Int) := by omega
  have b3 : (3 : Int) < (n : Int) := by omega
  have b0 : (0 : Int) < (n : Int) := by omega
  have HF : Hid (t0 + 256 * t1 + 65536 * t2 + 16777216 * t3 = t0 + t1 * 256 + t2 * 65536 + t3 * 16777216) := by show _ = _; omega
  rw [HF.out]
  go_enter Tryz.func143, Tryz.ntmps143
  go_wp2_with fail
  go_quiet (fail)
  go_wp2_with fail
  go_ret
  exact ⟨rfl, _, rfl⟩
theorem bytesEq_any (l r : List Int) (lv rv : Value) (w : World) (hl : RdB w lv l) (hr : RdB w rv r) (hl0 : 0 < l.length) (hr0 : 0 < r.length) :
    Calls Tryz.prog 144 #[lv, rv] w fun e w' => e = .returned (.bool (decide (l = r))) /\ w = w' := by
  obtain ⟨hbl, _, la, lc, rfl, _, _, _, hlp⟩ := id hl
  obtain ⟨hbr, _, ra, rc, rfl, _, _, _, hrp⟩ := id hr
  obtain ⟨lb, lo, _, _, rfl, _, _⟩ := hlp hl0
  obtain ⟨rb, ro, _, _, rfl, _, _⟩ := hrp hr0
  have v1 := run_convert_bytes_arg w 44 5 Tryz.underlying44 Tryz.underlying5 lb lo l.length lc l rfl (fun i hi => hl.cell i hi) 9 Tryz.underlying9
  have v2 := run_convert_bytes_arg w 44 5 Tryz.underlying44 Tryz.underlying5 rb ro r.length rc r rfl (fun i hi => hr.cell i hi) 9 Tryz.underlying9
  have HGd : Hid (decide (l = r) = decide (strOfNums l = strOfNums r)) := by
    show _ = _
    exact decide_eq_decide.2 ⟨fun h => by rw [h], fun h => strOfNums_inj hbl hbr h⟩
  generalize strOfNums l = sa at v1 HGd
  generalize strOfNums r = sb at v2 HGd
  obtain ⟨ll, hll⟩ : ∃ ll, l.length = ll := ⟨_, rfl⟩
  obtain ⟨rl, hrl⟩ : ∃ rl, r.length = rl := ⟨_, rfl⟩
  rw [hll] at v1 ⊢
  rw [hrl] at v2 ⊢
  rw [HGd.out]
  clear hl hr hll hrl hl0 hr0 hlp hrp hbl hbr
  by_cases hse : sa = sb
  . have HD : decide (sa = sb) = true := by simpa using hse
    subst hse
    go_enter Tryz.func144, Tryz.ntmps144
    go_wp2_with fail
    go_ret
    exact ⟨by simp, rfl⟩
  . have HD : decide (sa = sb) = false := by simpa using hse
    have HE : ¬ sa.toList = sb.toList := fun h => hse (by
      rw [ByteArray.toList_eq, ByteArray.toList_eq] at h
      exact ByteArray.ext (Array.toList_inj.mp h))
    rw [HD]
    go_enter Tryz.func144, Tryz.ntmps144
    go_wp2_with fail
    go_ret
    exact ⟨by simp [HE], rfl⟩
theorem RdB.of_own {w : World} {base : Nat} {v : Value} {n : Nat} {l : List Int} (h : w.ownsRow base 5 1 v n (U8 l)) (hb : Bytes l) (hm : l.length <= 140737488355328) : RdB w v l := by
  have hn : n = l.length := by have := h.1; rw [U8_length] at this; omega
  subst hn
  obtain ⟨hl, ⟨rfl, h0⟩ | ⟨g, cap, cur, rfl, _, hg, hc1, hc2, _, ht⟩⟩ := h
  . have hn : l = [] := List.length_eq_zero_iff.1 h0
    subst hn
    exact RdB.nil w
  . refine ⟨hb, hm, _, cap, rfl, hc1, by unfold maxLen at hc2; omega, fun h => (by simp at h), fun hp => ⟨g, 0, cur, _, rfl, hg, fun j hj => ?_⟩⟩
    have h2 : cur[0 + j]? = (U8 l)[j]? := by
      rw [Nat.zero_add, <- ht, List.getElem?_take, if_pos (by simp only [Nat.mul_one] at *; omega)]
      simp
    rw [h2]
    simp [U8, List.getElem?_eq_getElem hj, List.getD]
theorem wTokenHolds_any (c : Cfg) (now addr : Int) (t : List Int) (tv : Value) (w : World) (ht : RdB w tv t) (ha : 0 <= addr /\ addr < 256) (hk : 0 <= c.c9 /\ c.c9 < 4294967296) :
    Calls Tryz.prog 90 #[.int .i64 c.c9, .int .i64 addr, .int .i64 now, tv] w fun e w' => e = .returned (.bool (goodS c now addr t)) /\ Below w.heap.size w w' := by
  obtain ⟨hbt, _, ba, bc, rfl, hbc, _, _, hp⟩ := id ht
  by_cases h9 : t.length = 9
  . obtain ⟨tv1, htv1, ⟨a1, c1, rfl⟩, hrun⟩ := ht.drop (k := 1) (by omega)
    have hl1 : (t.drop 1).length = 8 := by simp; omega
    obtain ⟨_, _, a2, c2, e2, _, _, _, hp2⟩ := id htv1
    obtain ⟨b2, o2, _, _, rfl, _, _⟩ := hp2 (by omega)
    simp only [Value.slice.injEq] at e2
    obtain ⟨rfl, _, rfl⟩ := e2
    have hcl : ∀ j, j < 8 -> w.cell? ⟨b2, o2 + j, none⟩ = some (.int .u8 (t.getD (j + 1) 0)) := by
      intro j hj
      have h1 : RdB w (.slice (some ⟨b2, o2, none⟩) (t.drop 1).length c1) (t.drop 1) := by rw [hl1]; rw [h9] at htv1; exact htv1
      have h2 := h1.cell j (by omega)
      rw [h2]
      congr 2
      simp [List.getD]
    have k0 := hcl 0 (by omega)
    have k1 := hcl 1 (by omega)
    have k2 := hcl 2 (by omega)
    have k3 := hcl 3 (by omega)
    rw [Nat.add_zero] at k0
    have r1 := getD_byte hbt 1
    have r2 := getD_byte hbt 2
    have r3 := getD_byte hbt 3
    have r4 := getD_byte hbt 4
    have HRf := hideIt (wreadFour_any (t.getD 1 0) (t.getD 2 0) (t.getD 3 0) (t.getD 4 0) b2 o2 8 c1 w (by omega) k0 k1 k2 k3 r1 r2 r3 r4)
    have HG : Hid (goodS c now addr t = (decide (tokenL c.c9 addr (timeL t) = t) && decide (now <= timeL t))) := by
      show _ = _
      simp [goodS, h9]
    have htm : 0 <= timeL t /\ timeL t < 4294967296 := by unfold timeL; omega
    have e3 : t.getD 1 0 + 256 * t.getD 2 0 + 65536 * t.getD 3 0 + 16777216 * t.getD 4 0 = timeL t := rfl
    rw [e3] at HRf
    obtain ⟨tm, htm2⟩ : ∃ tm, timeL t = tm := ⟨_, rfl⟩
    rw [htm2] at HRf HG htm
    obtain ⟨htm0, htm1⟩ := htm
    have hwt : IntKind.i64.wrap tm = tm := by rw [IntKind.wrap_i64]; omega
    have HTk := hideIt (fun W => wToken_any c.c9 addr tm W hk.1 hk.2 ha.1 ha.2 htm0 htm1)
    have HTb := hideIt (tokenL_bytes c.c9 addr tm ha.1 ha.2)
    have HTR := hideIt ht
    rw [h9] at hrun ⊢
    replace HTR : Hid (RdB w (.slice ba 9 bc) t) := by rw [h9] at HTR; exact HTR
    have H9 := hideIt h9
    have e8 : (9 - 1 : Nat) = 8 := rfl
    simp only [e8] at hrun
    rw [HG.out]
    clear ht htv1 hp hp2 hcl k0 k1 k2 k3 r1 r2 r3 r4 h9 hl1 htm2 e3 e8
    simp only [Int.natCast_one] at hrun
    by_cases hge : now <= tm
    . have hd : decide (now <= tm) = true := decide_eq_true hge
      rw [hd, Bool.and_true]
      obtain ⟨B, hB⟩ : ∃ B, decide (tokenL c.c9 addr tm = t) = B := ⟨_, rfl⟩
      have HBB := hideIt hB
      rw [hB]
      clear hB
      go_enter Tryz.func90, Tryz.ntmps90
      go_wp2_with fail
      refine HRf.out.mono ?_
      rintro e w1 ⟨rfl, q, rfl⟩
      clear HRf
      go_wp2_with fail
      refine (HTk.out _).mono ?_
      rintro e w2 ⟨v, rfl, hown, hb2⟩
      have hb3 : Below w.heap.size w w2 := ⟨hb2.os, hb2.tape, hb2.output, hb2.size, hb2.block⟩
      have hl9 : (tokenL c.c9 addr tm).length = 9 := by have := hown.1; rw [U8_length] at this; omega
      have HEq := hideIt (bytesEq_any t (tokenL c.c9 addr tm) (.slice ba 9 bc) v w2 (HTR.out.below hb3) (RdB.of_own hown HTb.out (by rw [hl9]; decide)) (by rw [H9.out]; decide) (by rw [hl9]; decide))
      obtain ⟨va, vc, rfl⟩ := own_form hown
      have HB3 := hideIt hb3
      have HDc : Hid (decide (t = tokenL c.c9 addr tm) = B) := by
        show _ = _
        rw [<- HBB.out]
        exact decide_eq_decide.2 eq_comm
      clear hown hb2 hb3 HTk hl9
      go_wp2_with fail
      refine HEq.out.mono ?_
      rintro e w3 ⟨rfl, rfl⟩
      rw [HDc.out]
      clear HEq HDc HBB HG
      go_wp2_with fail
      go_ret
      exact ⟨by simp, HB3.out⟩
    . have hd : decide (now <= tm) = false := decide_eq_false hge
      rw [hd, Bool.and_false]
      go_enter Tryz.func90, Tryz.ntmps90
      go_wp2_with fail
      refine HRf.out.mono ?_
      rintro e w1 ⟨rfl, q, rfl⟩
      clear HRf
      go_wp2_with fail
      go_ret
      exact ⟨rfl, below_drewN (Below.refl _ _) q⟩
  . have HG : Hid (goodS c now addr t = false) := by
      show _ = _
      simp [goodS, h9]
    rw [HG.out]
    have hb9 : ((t.length : Int) == 9) = false := beq_eq_false_iff_ne.2 (by omega)
    clear ht hp
    go_enter Tryz.func90, Tryz.ntmps90
    go_wp2_with fail
    go_ret
    exact ⟨rfl, Below.refl _ _⟩
def helloL (cid : Int) (tok fr : List Int) : List Int := [1] ++ putL cid ++ putL tok.length ++ tok ++ fr
def dataL (cid num : Int) (fr : List Int) : List Int := [2] ++ putL cid ++ putL num ++ fr
theorem helloL_bytes {cid : Int} {tok fr : List Int} (hc : 0 <= cid /\ cid <= 1073741823) (ht : Bytes tok) (hf : Bytes fr) (hl : tok.length <= 1000000) : Bytes (helloL cid tok fr) :=
  ((((Bytes.cons (by decide) Bytes.nil).append (putL_bytes _ hc.1 hc.2)).append (putL_bytes _ (by omega) (by omega))).append ht).append hf
theorem dataL_bytes {cid num : Int} {fr : List Int} (hc : 0 <= cid /\ cid <= 1073741823) (hn : 0 <= num /\ num <= 1073741823) (hf : Bytes fr) : Bytes (dataL cid num fr) :=
  (((Bytes.cons (by decide) Bytes.nil).append (putL_bytes _ hc.1 hc.2)).append (putL_bytes _ hn.1 hn.2)).append hf
theorem RdB.lit (w : World) (l : List Int) (hb : Bytes l) (h0 : 0 < l.length) (hl : l.length <= 1000) : RdB (w.alloc (.cells (U8 l).toArray 5)) (.slice (some ⟨w.heap.size, 0, none⟩) l.length l.length) l := by
  refine ⟨hb, by omega, _, _, rfl, Nat.le_refl _, by omega, fun h => (by cases h), fun _ => ⟨w.heap.size, 0, _, _, rfl, heap_alloc_new w _, fun j hj => ?_⟩⟩
  have hj' : j < (U8 l).length := by simpa [U8] using hj
  simp [U8, List.getD, List.getElem?_eq_getElem hj]
theorem khello_any (cid : Int) (tok fr : List Int) (tv fv : Value) (w : World) (hc : 0 <= cid /\ cid <= 1073741823) (ht : RdB w tv tok) (hf : RdB w fv fr) (h1 : tok.length <= 1000000) (h2 : fr.length <= 1000000) :
    Calls Tryz.prog 30 #[.int .i64 cid, tv, fv] w fun e w' => ∃ v, e = .returned v /\ w'.ownsRow w.heap.size 5 1 v (helloL cid tok fr).length (U8 (helloL cid tok fr)) /\ Below w.heap.size w w' := by
  have hb0 : Below w.heap.size w (w.alloc (.cells #[.int .u8 1] 5)) := below_alloc w _
  have HL := hideIt (RdB.lit w [1] (fun x hx => by rw [List.mem_singleton.1 hx]; decide) (by decide) (by decide))
  have HN1 := hideIt (knumber_any cid (w.alloc (.cells #[.int .u8 1] 5)) hc)
  have HN2 := hideIt (fun W => knumber_any (tok.length : Int) W (by omega))
  have HT := hideIt ht
  have HF := hideIt hf
  have HB0 := hideIt hb0
  obtain ⟨_, _, ta, tc, hte, _⟩ := id ht
  obtain ⟨_, _, fa, fc, hfe, _⟩ := id hf
  have HJ : Hid (∀ (W : World) (v1 v2 : Value) (base1 base2 : Nat), Below w.heap.size w W -> RdB W (.slice (some ⟨w.heap.size, 0, none⟩) 1 1) [1] -> W.ownsRow base1 5 1 v1 (putL cid).length (U8 (putL cid)) -> W.ownsRow base2 5 1 v2 (putL (tok.length : Int)).length (U8 (putL (tok.length : Int))) ->
      Calls Tryz.prog 32 #[.slice (some ⟨W.heap.size, 0, none⟩) 5 5] (W.alloc (.cells #[.slice (some ⟨w.heap.size, 0, none⟩) 1 1, v1, v2, tv, fv] 44)) fun e w' => ∃ v, e = .returned v /\ w'.ownsRow w.heap.size 5 1 v (helloL cid tok fr).length (U8 (helloL cid tok fr)) /\ Below w.heap.size w w') := by
    intro W v1 v2 base1 base2 hW hA hv1 hv2
    have hb := below_alloc W (.cells #[.slice (some ⟨w.heap.size, 0, none⟩) 1 1, v1, v2, tv, fv] 44)
    have e : joinL [(.slice (some ⟨w.heap.size, 0, none⟩) 1 1, [1]), (v1, putL cid), (v2, putL (tok.length : Int)), (tv, tok), (fv, fr)] = helloL cid tok fr := by simp [joinL, helloL]
    have k1 := putL_length cid
    have k2 := putL_length (tok.length : Int)
    have h9 := kjoined_any [(.slice (some ⟨w.heap.size, 0, none⟩) 1 1, [1]), (v1, putL cid), (v2, putL (tok.length : Int)), (tv, tok), (fv, fr)] W.heap.size 5 (W.alloc (.cells #[.slice (some ⟨w.heap.size, 0, none⟩) 1 1, v1, v2, tv, fv] 44)) (fun j p hj => ?_) (fun p hp => ?_) (by simp) (by rw [e]; simp only [helloL, List.length_append, List.length_cons, List.length_nil]; omega)
    . rw [e] at h9
      refine h9.mono ?_
      rintro e' w' ⟨v, rfl, ho, hbl⟩
      exact ⟨v, rfl, own_mono ho (Nat.le_trans hW.size hb.size), below_join (below_join hW hb) hbl⟩
    . match j with
      | 0 => simp only [List.getElem?_cons_zero, Option.some.injEq] at hj; subst hj; simp
      | 1 => simp only [List.getElem?_cons_succ, List.getElem?_cons_zero, Option.some.injEq] at hj; subst hj; simp
      | 2 => simp only [List.getElem?_cons_succ, List.getElem?_cons_zero, Option.some.injEq] at hj; subst hj; simp
      | 3 => simp only [List.getElem?_cons_succ, List.getElem?_cons_zero, Option.some.injEq] at hj; subst hj; simp
      | 4 => simp only [List.getElem?_cons_succ, List.getElem?_cons_zero, Option.some.injEq] at hj; subst hj; simp
      | j + 5 => simp at hj
    . simp only [List.mem_cons, List.not_mem_nil, or_false] at hp
      rcases hp with rfl | rfl | rfl | rfl | rfl
      . exact hA.below hb
      . exact (RdB.of_own hv1 (putL_bytes _ hc.1 hc.2) (by omega)).below hb
      . exact (RdB.of_own hv2 (putL_bytes _ (by omega) (by omega)) (by omega)).below hb
      . exact (HT.out.below hW).below hb
      . exact (HF.out.below hW).below hb
  subst hte hfe
  clear ht hf hb0
  go_enter Tryz.func30, Tryz.ntmps30
  go_wp2_with fail
  refine HN1.out.mono ?_
  rintro e w1 ⟨v1, rfl, ho1, hb1⟩
  obtain ⟨a1, c1, rfl⟩ := own_form ho1
  have HO1 := hideIt ho1
  have HB1 := hideIt hb1
  clear ho1 hb1 HN1
  go_wp2_with fail
  refine (HN2.out w1).mono ?_
  rintro e w2 ⟨v2, rfl, ho2, hb2⟩
  obtain ⟨a2, c2, rfl⟩ := own_form ho2
  have HJ2 := hideIt (HJ.out w2 _ _ _ _ (below_join (below_join HB0.out HB1.out) hb2) ((HL.out.below HB1.out).below hb2) (own_below HO1.out hb2) ho2)
  clear ho2 hb2 HN2 HJ
  go_wp2_with fail
  refine HJ2.out.mono ?_
  rintro e w3 ⟨v3, rfl, ho3, hb3⟩
  obtain ⟨a3, c3, rfl⟩ := own_form ho3
  have HO3 := hideIt (And.intro ho3 hb3)
  clear ho3 hb3 HJ2
  go_wp2_with fail
  go_ret
  exact ⟨_, rfl, HO3.out.1, HO3.out.2⟩
theorem kdata_any (cid num : Int) (fr : List Int) (fv : Value) (w : World) (hc : 0 <= cid /\ cid <= 1073741823) (hn : 0 <= num /\ num <= 1073741823) (hf : RdB w fv fr) (h2 : fr.length <= 1000000) :
    Calls Tryz.prog 22 #[.int .i64 cid, .int .i64 num, fv] w fun e w' => ∃ v, e = .returned v /\ w'.ownsRow w.heap.size 5 1 v (dataL cid num fr).length (U8 (dataL cid num fr)) /\ Below w.heap.size w w' := by
  have hb0 : Below w.heap.size w (w.alloc (.cells #[.int .u8 2] 5)) := below_alloc w _
  have HL := hideIt (RdB.lit w [2] (fun x hx => by rw [List.mem_singleton.1 hx]; decide) (by decide) (by decide))
  have HN1 := hideIt (knumber_any cid (w.alloc (.cells #[.int .u8 2] 5)) hc)
  have HN2 := hideIt (fun W => knumber_any num W hn)
  have HF := hideIt hf
  have HB0 := hideIt hb0
  obtain ⟨_, _, fa, fc, hfe, _⟩ := id hf
  have HJ : Hid (∀ (W : World) (v1 v2 : Value) (base1 base2 : Nat), Below w.heap.size w W -> RdB W (.slice (some ⟨w.heap.size, 0, none⟩) 1 1) [2] -> W.ownsRow base1 5 1 v1 (putL cid).length (U8 (putL cid)) -> W.ownsRow base2 5 1 v2 (putL num).length (U8 (putL num)) ->
      Calls Tryz.prog 32 #[.slice (some ⟨W.heap.size, 0, none⟩) 4 4] (W.alloc (.cells #[.slice (some ⟨w.heap.size, 0, none⟩) 1 1, v1, v2, fv] 44)) fun e w' => ∃ v, e = .returned v /\ w'.ownsRow w.heap.size 5 1 v (dataL cid num fr).length (U8 (dataL cid num fr)) /\ Below w.heap.size w w') := by
    intro W v1 v2 base1 base2 hW hA hv1 hv2
    have hb := below_alloc W (.cells #[.slice (some ⟨w.heap.size, 0, none⟩) 1 1, v1, v2, fv] 44)
    have e : joinL [(.slice (some ⟨w.heap.size, 0, none⟩) 1 1, [2]), (v1, putL cid), (v2, putL num), (fv, fr)] = dataL cid num fr := by simp [joinL, dataL]
    have k1 := putL_length cid
    have k2 := putL_length num
    have h9 := kjoined_any [(.slice (some ⟨w.heap.size, 0, none⟩) 1 1, [2]), (v1, putL cid), (v2, putL num), (fv, fr)] W.heap.size 4 (W.alloc (.cells #[.slice (some ⟨w.heap.size, 0, none⟩) 1 1, v1, v2, fv] 44)) (fun j p hj => ?_) (fun p hp => ?_) (by simp) (by rw [e]; simp only [dataL, List.length_append, List.length_cons, List.length_nil]; omega)
    . rw [e] at h9
      refine h9.mono ?_
      rintro e' w' ⟨v, rfl, ho, hbl⟩
      exact ⟨v, rfl, own_mono ho (Nat.le_trans hW.size hb.size), below_join (below_join hW hb) hbl⟩
    . match j with
      | 0 => simp only [List.getElem?_cons_zero, Option.some.injEq] at hj; subst hj; simp
      | 1 => simp only [List.getElem?_cons_succ, List.getElem?_cons_zero, Option.some.injEq] at hj; subst hj; simp
      | 2 => simp only [List.getElem?_cons_succ, List.getElem?_cons_zero, Option.some.injEq] at hj; subst hj; simp
      | 3 => simp only [List.getElem?_cons_succ, List.getElem?_cons_zero, Option.some.injEq] at hj; subst hj; simp
      | j + 4 => simp at hj
    . simp only [List.mem_cons, List.not_mem_nil, or_false] at hp
      rcases hp with rfl | rfl | rfl | rfl
      . exact hA.below hb
      . exact (RdB.of_own hv1 (putL_bytes _ hc.1 hc.2) (by omega)).below hb
      . exact (RdB.of_own hv2 (putL_bytes _ hn.1 hn.2) (by omega)).below hb
      . exact (HF.out.below hW).below hb
  subst hfe
  clear hf hb0
  go_enter Tryz.func22, Tryz.ntmps22
  go_wp2_with fail
  refine HN1.out.mono ?_
  rintro e w1 ⟨v1, rfl, ho1, hb1⟩
  obtain ⟨a1, c1, rfl⟩ := own_form ho1
  have HO1 := hideIt ho1
  have HB1 := hideIt hb1
  clear ho1 hb1 HN1
  go_wp2_with fail
  refine (HN2.out w1).mono ?_
  rintro e w2 ⟨v2, rfl, ho2, hb2⟩
  obtain ⟨a2, c2, rfl⟩ := own_form ho2
  have HJ2 := hideIt (HJ.out w2 _ _ _ _ (below_join (below_join HB0.out HB1.out) hb2) ((HL.out.below HB1.out).below hb2) (own_below HO1.out hb2) ho2)
  clear ho2 hb2 HN2 HJ
  go_wp2_with fail
  refine HJ2.out.mono ?_
  rintro e w3 ⟨v3, rfl, ho3, hb3⟩
  obtain ⟨a3, c3, rfl⟩ := own_form ho3
  have HO3 := hideIt (And.intro ho3 hb3)
  clear ho3 hb3 HJ2
  go_wp2_with fail
  go_ret
  exact ⟨_, rfl, HO3.out.1, HO3.out.2⟩
end Go.Proofs.YthmdjhlhodpbhaaGreatDoor
namespace Go.Proofs.YthmdjhlhodpbhaaGreatDoor
theorem put_get {n : Int} (h : 0 <= n /\ n <= 1073741823) (r : List Int) : gsz (putL n ++ r) = (putL n).length /\ gval (putL n ++ r) = n := by
  have hs : gsz (putL n ++ r) = (putL n).length := by
    unfold putL
    split
    . simp [gsz, sizeN]
      omega
    . split
      . simp [gsz, sizeN]
        omega
      . simp [gsz, sizeN]
        omega
  refine ⟨hs, ?_⟩
  have h0 := (putL_length n).2
  unfold gval
  rw [if_neg (by rw [hs]; omega), hs, Int.toNat_natCast]
  unfold putL
  split
  . simp [valTo]
    omega
  . split
    . simp [valTo]
      omega
    . simp [valTo]
      omega
theorem put_drop {n : Int} (h : 0 <= n /\ n <= 1073741823) (r : List Int) : (putL n ++ r).drop (gsz (putL n ++ r)).toNat = r := by
  rw [(put_get h r).1, Int.toNat_natCast]
  simp
theorem put_some {n : Int} (h : 0 <= n /\ n <= 1073741823) (r : List Int) : ¬ gsz (putL n ++ r) = 0 := by
  have h0 := (putL_length n).2
  rw [(put_get h r).1]
  omega
theorem dgram_hello {cid : Int} {tok fr : List Int} (hc : 0 <= cid /\ cid <= 1073741823) (ht : tok.length <= 1000000) : dgramS (helloL cid tok fr) = some ⟨1, cid, tok, 0, fr⟩ := by
  have e : helloL cid tok fr = 1 :: (putL cid ++ (putL tok.length ++ (tok ++ fr))) := by simp [helloL]
  have hl : 0 <= (tok.length : Int) /\ (tok.length : Int) <= 1073741823 := by omega
  rw [e]
  unfold dgramS
  simp only [List.drop_succ_cons, List.drop_zero, List.getD_cons_zero, if_true, reduceCtorEq, if_false]
  rw [if_neg (put_some hc _), put_drop hc, if_neg (put_some hl _), put_drop hl, (put_get hc _).2, (put_get hl _).2]
  simp
  omega
end Go.Proofs.YthmdjhlhodpbhaaGreatDoor
namespace Go.Proofs.YthmdjhlhodpbhaaGreatDoor
open Go.RowKit
def cfgN (g : Cfg) : Cfg := ⟨1 + pickN g.c0 8, 8 + pickN g.c1 60, 8 + pickN g.c2 (8 + pickN g.c1 60 - 8 + 1), 1 + pickN g.c3 8, 1 + pickN g.c4 8, pickN g.c5 9, 1 + pickN g.c6 1000, 1 + pickN g.c7 1000, pickN g.c8 5000, pickN g.c9 4294967296⟩
structure CfgRaw (g : Cfg) : Prop where
  c0 : -9223372036854775808 <= g.c0 /\ g.c0 <= 9223372036854775807
  c1 : -9223372036854775808 <= g.c1 /\ g.c1 <= 9223372036854775807
  c2 : -9223372036854775808 <= g.c2 /\ g.c2 <= 9223372036854775807
  c3 : -9223372036854775808 <= g.c3 /\ g.c3 <= 9223372036854775807
  c4 : -9223372036854775808 <= g.c4 /\ g.c4 <= 9223372036854775807
  c5 : -9223372036854775808 <= g.c5 /\ g.c5 <= 9223372036854775807
  c6 : -9223372036854775808 <= g.c6 /\ g.c6 <= 9223372036854775807
  c7 : -9223372036854775808 <= g.c7 /\ g.c7 <= 9223372036854775807
  c8 : -9223372036854775808 <= g.c8 /\ g.c8 <= 9223372036854775807
  c9 : -9223372036854775808 <= g.c9 /\ g.c9 <= 9223372036854775807
def cfgC (g : Cfg) : Array Value := #[.int .i64 g.c0, .int .i64 g.c1, .int .i64 g.c2, .int .i64 g.c3, .int .i64 g.c4, .int .i64 g.c5, .int .i64 g.c6, .int .i64 g.c7, .int .i64 g.c8, .int .i64 g.c9]
theorem ten_set {w : World} {b : Nat} {T : TypeId} (h : w.heap[b]? = some (.cells #[.int .i64 0, .int .i64 0, .int .i64 0, .int .i64 0, .int .i64 0, .int .i64 0, .int .i64 0, .int .i64 0, .int .i64 0, .int .i64 0] T (0, 0))) (v0 v1 v2 v3 v4 v5 v6 v7 v8 v9 : Value) : ((((((((((w.setCell ⟨b, 0, none⟩ v0).setCell ⟨b, 1, none⟩ v1).setCell ⟨b, 2, none⟩ v2).setCell ⟨b, 3, none⟩ v3).setCell ⟨b, 4, none⟩ v4).setCell ⟨b, 5, none⟩ v5).setCell ⟨b, 6, none⟩ v6).setCell ⟨b, 7, none⟩ v7).setCell ⟨b, 8, none⟩ v8).setCell ⟨b, 9, none⟩ v9).heap[b]? = some (.cells #[v0, v1, v2, v3, v4, v5, v6, v7, v8, v9] T (0, 0)) := by
  have := (block_set (block_set (block_set (block_set (block_set (block_set (block_set (block_set (block_set (block_set h 0 v0) 1 v1) 2 v2) 3 v3) 4 v4) 5 v5) 6 v6) 7 v7) 8 v8) 9 v9)
  simpa using this
theorem kconfig_any (g : Cfg) (w : World) (hg : CfgRaw g) : Calls Tryz.prog 25 #[.agg (cfgC g)] w fun e w' => e = .returned (.agg (cfgC (cfgN g))) /\ Below w.heap.size w w' := by
  have hb1 := below_alloc w (.cells (cfgC g) 26)
  have hb2 := below_join hb1 (below_alloc (w.alloc (.cells (cfgC g) 26)) (.cells #[.int .i64 0, .int .i64 0, .int .i64 0, .int .i64 0, .int .i64 0, .int .i64 0, .int .i64 0, .int .i64 0, .int .i64 0, .int .i64 0] 26))
  have HP : Hid (∀ (c n : Int) (W : World), -9223372036854775808 <= c /\ c <= 9223372036854775807 -> 0 < n /\ n <= 1000000000000 -> Calls Tryz.prog 19 #[.int .i64 c, .int .i64 n] W fun e w' => e = .returned (.int .i64 (pickN c n)) /\ W = w') := fun c n W h1 h2 => kpick_any c n W h1 h2
  have r0 := pickN_range g.c0 (n := 8) (by decide)
  have r1 := pickN_range g.c1 (n := 60) (by decide)
  have r2 := pickN_range g.c2 (n := 8 + pickN g.c1 60 - 8 + 1) (by omega)
  have r3 := pickN_range g.c3 (n := 8) (by decide)
  have r4 := pickN_range g.c4 (n := 8) (by decide)
  have r6 := pickN_range g.c6 (n := 1000) (by decide)
  have r7 := pickN_range g.c7 (n := 1000) (by decide)
  have HG := hideIt hg
  unfold cfgN
  obtain ⟨g0, g1, g2, g3, g4, g5, g6, g7, g8, g9⟩ := g
  unfold cfgC at *
  simp only at *
  have HB2 := hideIt hb2
  obtain ⟨r0a, r0b⟩ := r0
  obtain ⟨r1a, r1b⟩ := r1
  obtain ⟨r2a, r2b⟩ := r2
  obtain ⟨r3a, r3b⟩ := r3
  obtain ⟨r4a, r4b⟩ := r4
  obtain ⟨r6a, r6b⟩ := r6
  obtain ⟨r7a, r7b⟩ := r7
  clear hg hb1 hb2
  go_enter Tryz.func25, Tryz.ntmps25
  go_wp2_with fail
  have xr : ((w.alloc (.cells #[.int .i64 g0, .int .i64 g1, .int .i64 g2, .int .i64 g3, .int .i64 g4, .int .i64 g5, .int .i64 g6, .int .i64 g7, .int .i64 g8, .int .i64 g9] 26)).alloc (.cells #[.int .i64 0, .int .i64 0, .int .i64 0, .int .i64 0, .int .i64 0, .int .i64 0, .int .i64 0, .int .i64 0, .int .i64 0, .int .i64 0] 26)).heap[w.heap.size]? = some (.cells #[.int .i64 g0, .int .i64 g1, .int .i64 g2, .int .i64 g3, .int .i64 g4, .int .i64 g5, .int .i64 g6, .int .i64 g7, .int .i64 g8, .int .i64 g9] 26 (0, 0)) := by
    rw [Below.heap_alloc _ _ _ (by simp)]
    exact heap_alloc_new w _
  have xz : ((w.alloc (.cells #[.int .i64 g0, .int .i64 g1, .int .i64 g2, .int .i64 g3, .int .i64 g4, .int .i64 g5, .int .i64 g6, .int .i64 g7, .int .i64 g8, .int .i64 g9] 26)).alloc (.cells #[.int .i64 0, .int .i64 0, .int .i64 0, .int .i64 0, .int .i64 0, .int .i64 0, .int .i64 0, .int .i64 0, .int .i64 0, .int .i64 0] 26)).heap[w.heap.size + 1]? = some (.cells #[.int .i64 0, .int .i64 0, .int .i64 0, .int .i64 0, .int .i64 0, .int .i64 0, .int .i64 0, .int .i64 0, .int .i64 0, .int .i64 0] 26 (0, 0)) := by
    have := heap_alloc_new (w.alloc (.cells #[.int .i64 g0, .int .i64 g1, .int .i64 g2, .int .i64 g3, .int .i64 g4, .int .i64 g5, .int .i64 g6, .int .i64 g7, .int .i64 g8, .int .i64 g9] 26)) (.cells #[.int .i64 0, .int .i64 0, .int .i64 0, .int .i64 0, .int .i64 0, .int .i64 0, .int .i64 0, .int .i64 0, .int .i64 0, .int .i64 0] 26)
    simpa using this
  have hsz : ((w.alloc (.cells #[.int .i64 g0, .int .i64 g1, .int .i64 g2, .int .i64 g3, .int .i64 g4, .int .i64 g5, .int .i64 g6, .int .i64 g7, .int .i64 g8, .int .i64 g9] 26)).alloc (.cells #[.int .i64 0, .int .i64 0, .int .i64 0, .int .i64 0, .int .i64 0, .int .i64 0, .int .i64 0, .int .i64 0, .int .i64 0, .int .i64 0] 26)).heap.size = w.heap.size + 2 := by simp
  generalize hW : (w.alloc (.cells #[.int .i64 g0, .int .i64 g1, .int .i64 g2, .int .i64 g3, .int .i64 g4, .int .i64 g5, .int .i64 g6, .int .i64 g7, .int .i64 g8, .int .i64 g9] 26)).alloc (.cells #[.int .i64 0, .int .i64 0, .int .i64 0, .int .i64 0, .int .i64 0, .int .i64 0, .int .i64 0, .int .i64 0, .int .i64 0, .int .i64 0] 26) = w1 at *
  have k0 : w1.cell? ⟨w.heap.size, 0, none⟩ = some (.int .i64 g0) := by simp only [World.cell?, xr]; rfl
  have k1 : w1.cell? ⟨w.heap.size, 1, none⟩ = some (.int .i64 g1) := by simp only [World.cell?, xr]; rfl
  have k3 : w1.cell? ⟨w.heap.size, 3, none⟩ = some (.int .i64 g3) := by simp only [World.cell?, xr]; rfl
  have k4 : w1.cell? ⟨w.heap.size, 4, none⟩ = some (.int .i64 g4) := by simp only [World.cell?, xr]; rfl
  have HXr := hideIt xr
  have HXz := hideIt xz
  have HSz := hideIt hsz
  clear xr xz hW hsz
  have d0 : w1.drew.cell? ⟨w.heap.size, 0, none⟩ = some (.int .i64 g0) := k0
  have d1 : w1.drew.cell? ⟨w.heap.size, 1, none⟩ = some (.int .i64 g1) := k1
  have d3 : w1.drew.cell? ⟨w.heap.size, 3, none⟩ = some (.int .i64 g3) := k3
  have d4 : w1.drew.cell? ⟨w.heap.size, 4, none⟩ = some (.int .i64 g4) := k4
  go_cut [3] from 4 to 20 (fun s3 wx => s3 = .pointer (some ⟨w.heap.size + 2, 0, none⟩) /\ Below w1.heap.size w1 wx /\ wx.heap[w.heap.size + 2]? = some (.cells #[.int .i64 (1 + pickN g0 8), .int .i64 (8 + pickN g1 60), .int .i64 0, .int .i64 (1 + pickN g3 8), .int .i64 (1 + pickN g4 8), .int .i64 0, .int .i64 0, .int .i64 0, .int .i64 0, .int .i64 0] 26 (0, 0)))
  case first =>
    have hS := And.intro d0 (And.intro d1 (And.intro d3 d4))
    go_region_held3 (fun w' => w'.cell? ⟨w.heap.size, 0, none⟩ = some (.int .i64 g0) /\ w'.cell? ⟨w.heap.size, 1, none⟩ = some (.int .i64 g1) /\ w'.cell? ⟨w.heap.size, 3, none⟩ = some (.int .i64 g3) /\ w'.cell? ⟨w.heap.size, 4, none⟩ = some (.int .i64 g4)) (first | with_reducible assumption | go_keep) (first
      | (go_at_call 19; refine (HP.out _ _ _ (by first | exact HG.out.c0 | exact HG.out.c1 | exact HG.out.c3 | exact HG.out.c4) (by decide)).mono ?_; rintro e w2 ⟨rfl, rfl⟩))
    all_goals
      go_wp2_with fail
      go_meet
      have e0 : IntKind.i64.wrap (1 + pickN g0 8) = 1 + pickN g0 8 := by rw [IntKind.wrap_i64]; omega
      have e1 : IntKind.i64.wrap (8 + pickN g1 60) = 8 + pickN g1 60 := by rw [IntKind.wrap_i64]; omega
      have e3 : IntKind.i64.wrap (1 + pickN g3 8) = 1 + pickN g3 8 := by rw [IntKind.wrap_i64]; omega
      have e4 : IntKind.i64.wrap (1 + pickN g4 8) = 1 + pickN g4 8 := by rw [IntKind.wrap_i64]; omega
      rw [e0, e1, e3, e4]
      refine ⟨by rw [HSz.out], below_drewN (below_alloc w1 _) 1, ?_⟩
      rw [heap_drew, <- HSz.out]
      exact heap_alloc_new w1 _
  case rest =>
    obtain ⟨rfl, hbw, hbx⟩ := hcut
    have xr := (hbw.block _ (Array.getElem?_eq_some_iff.1 HXr.out).1).trans HXr.out
    have xz := (hbw.block _ (Array.getElem?_eq_some_iff.1 HXz.out).1).trans HXz.out
    have HB := hideIt (below_join HB2.out hbw)
    have HXz' := hideIt xz
    have HXb := hideIt hbx
    clear k0 k1 k3 k4 d0 d1 d3 d4 hbw HXr HXz HB2
    have a2 : wc.cell? ⟨w.heap.size, 2, none⟩ = some (.int .i64 g2) := by simp only [World.cell?, xr]; rfl
    have a5 : wc.cell? ⟨w.heap.size, 5, none⟩ = some (.int .i64 g5) := by simp only [World.cell?, xr]; rfl
    have a6 : wc.cell? ⟨w.heap.size, 6, none⟩ = some (.int .i64 g6) := by simp only [World.cell?, xr]; rfl
    have a7 : wc.cell? ⟨w.heap.size, 7, none⟩ = some (.int .i64 g7) := by simp only [World.cell?, xr]; rfl
    have a8 : wc.cell? ⟨w.heap.size, 8, none⟩ = some (.int .i64 g8) := by simp only [World.cell?, xr]; rfl
    have a9 : wc.cell? ⟨w.heap.size, 9, none⟩ = some (.int .i64 g9) := by simp only [World.cell?, xr]; rfl
    have b0 : wc.cell? ⟨w.heap.size + 2, 0, none⟩ = some (.int .i64 (1 + pickN g0 8)) := by simp only [World.cell?, hbx]; rfl
    have b1 : wc.cell? ⟨w.heap.size + 2, 1, none⟩ = some (.int .i64 (8 + pickN g1 60)) := by simp only [World.cell?, hbx]; rfl
    have b2 : wc.cell? ⟨w.heap.size + 2, 2, none⟩ = some (.int .i64 0) := by simp only [World.cell?, hbx]; rfl
    have b3 : wc.cell? ⟨w.heap.size + 2, 3, none⟩ = some (.int .i64 (1 + pickN g3 8)) := by simp only [World.cell?, hbx]; rfl
    have b4 : wc.cell? ⟨w.heap.size + 2, 4, none⟩ = some (.int .i64 (1 + pickN g4 8)) := by simp only [World.cell?, hbx]; rfl
    have b5 : wc.cell? ⟨w.heap.size + 2, 5, none⟩ = some (.int .i64 0) := by simp only [World.cell?, hbx]; rfl
    have b6 : wc.cell? ⟨w.heap.size + 2, 6, none⟩ = some (.int .i64 0) := by simp only [World.cell?, hbx]; rfl
    have b7 : wc.cell? ⟨w.heap.size + 2, 7, none⟩ = some (.int .i64 0) := by simp only [World.cell?, hbx]; rfl
    have b8 : wc.cell? ⟨w.heap.size + 2, 8, none⟩ = some (.int .i64 0) := by simp only [World.cell?, hbx]; rfl
    have b9 : wc.cell? ⟨w.heap.size + 2, 9, none⟩ = some (.int .i64 0) := by simp only [World.cell?, hbx]; rfl
    have z0 : wc.cell? ⟨w.heap.size + 1, 0, none⟩ = some (.int .i64 0) := by simp only [World.cell?, xz]; rfl
    have z1 : wc.cell? ⟨w.heap.size + 1, 1, none⟩ = some (.int .i64 0) := by simp only [World.cell?, xz]; rfl
    have z2 : wc.cell? ⟨w.heap.size + 1, 2, none⟩ = some (.int .i64 0) := by simp only [World.cell?, xz]; rfl
    have z3 : wc.cell? ⟨w.heap.size + 1, 3, none⟩ = some (.int .i64 0) := by simp only [World.cell?, xz]; rfl
    have z4 : wc.cell? ⟨w.heap.size + 1, 4, none⟩ = some (.int .i64 0) := by simp only [World.cell?, xz]; rfl
    have z5 : wc.cell? ⟨w.heap.size + 1, 5, none⟩ = some (.int .i64 0) := by simp only [World.cell?, xz]; rfl
    have z6 : wc.cell? ⟨w.heap.size + 1, 6, none⟩ = some (.int .i64 0) := by simp only [World.cell?, xz]; rfl
    have z7 : wc.cell? ⟨w.heap.size + 1, 7, none⟩ = some (.int .i64 0) := by simp only [World.cell?, xz]; rfl
    have z8 : wc.cell? ⟨w.heap.size + 1, 8, none⟩ = some (.int .i64 0) := by simp only [World.cell?, xz]; rfl
    have z9 : wc.cell? ⟨w.heap.size + 1, 9, none⟩ = some (.int .i64 0) := by simp only [World.cell?, xz]; rfl
    have f2 : wc.frozen? ⟨w.heap.size + 2, 2, none⟩ = false := frozen_of_row _ _ _ _ _ hbx
    have f5 : wc.frozen? ⟨w.heap.size + 2, 5, none⟩ = false := frozen_of_row _ _ _ _ _ hbx
    have f6 : wc.frozen? ⟨w.heap.size + 2, 6, none⟩ = false := frozen_of_row _ _ _ _ _ hbx
    have f7 : wc.frozen? ⟨w.heap.size + 2, 7, none⟩ = false := frozen_of_row _ _ _ _ _ hbx
    have f8 : wc.frozen? ⟨w.heap.size + 2, 8, none⟩ = false := frozen_of_row _ _ _ _ _ hbx
    have f9 : wc.frozen? ⟨w.heap.size + 2, 9, none⟩ = false := frozen_of_row _ _ _ _ _ hbx
    have y0 : wc.frozen? ⟨w.heap.size + 1, 0, none⟩ = false := frozen_of_row _ _ _ _ _ xz
    have y1 : wc.frozen? ⟨w.heap.size + 1, 1, none⟩ = false := frozen_of_row _ _ _ _ _ xz
    have y2 : wc.frozen? ⟨w.heap.size + 1, 2, none⟩ = false := frozen_of_row _ _ _ _ _ xz
    have y3 : wc.frozen? ⟨w.heap.size + 1, 3, none⟩ = false := frozen_of_row _ _ _ _ _ xz
    have y4 : wc.frozen? ⟨w.heap.size + 1, 4, none⟩ = false := frozen_of_row _ _ _ _ _ xz
    have y5 : wc.frozen? ⟨w.heap.size + 1, 5, none⟩ = false := frozen_of_row _ _ _ _ _ xz
    have y6 : wc.frozen? ⟨w.heap.size + 1, 6, none⟩ = false := frozen_of_row _ _ _ _ _ xz
    have y7 : wc.frozen? ⟨w.heap.size + 1, 7, none⟩ = false := frozen_of_row _ _ _ _ _ xz
    have y8 : wc.frozen? ⟨w.heap.size + 1, 8, none⟩ = false := frozen_of_row _ _ _ _ _ xz
    have y9 : wc.frozen? ⟨w.heap.size + 1, 9, none⟩ = false := frozen_of_row _ _ _ _ _ xz
    clear xr xz hbx
    go_wp2_with (first
      | (go_at_call 19; refine (HP.out _ _ _ (by first | exact HG.out.c2 | exact HG.out.c5 | exact HG.out.c6 | exact HG.out.c7 | exact HG.out.c8 | exact HG.out.c9) (by omega)).mono ?_; rintro e w2 ⟨rfl, rfl⟩))
    refine bodyPost_ret (results_cell_row (P := Tryz.prog) Tryz.results25 _ _ (w.heap.size + 1) 26 #[.int .i64 (1 + pickN g0 8), .int .i64 (8 + pickN g1 60), .int .i64 (8 + pickN g2 (8 + pickN g1 60 - 8 + 1)), .int .i64 (1 + pickN g3 8), .int .i64 (1 + pickN g4 8), .int .i64 (pickN g5 9), .int .i64 (1 + pickN g6 1000), .int .i64 (1 + pickN g7 1000), .int .i64 (pickN g8 5000), .int .i64 (pickN g9 4294967296)] (0, 0) _ (by kernel_rfl) (ten_set ?_ _ _ _ _ _ _ _ _ _ _) Tryz.underlying26 rfl (by kernel_rfl)) rfl ?_
    . refine (heap_setCell_other _ _ _ _ (by simp)).trans ?_
      refine (heap_setCell_other _ _ _ _ (by simp)).trans ?_
      refine (heap_setCell_other _ _ _ _ (by simp)).trans ?_
      refine (heap_setCell_other _ _ _ _ (by simp)).trans ?_
      refine (heap_setCell_other _ _ _ _ (by simp)).trans ?_
      refine (heap_setCell_other _ _ _ _ (by simp)).trans ?_
      exact HXz'.out
    . exact ⟨rfl, ((((((((((((((((HB.out.setCell (Nat.le_add_right _ _) _).setCell (Nat.le_add_right _ _) _).setCell (Nat.le_add_right _ _) _).setCell (Nat.le_add_right _ _) _).setCell (Nat.le_add_right _ _) _).setCell (Nat.le_add_right _ _) _).setCell (Nat.le_add_right _ _) _).setCell (Nat.le_add_right _ _) _).setCell (Nat.le_add_right _ _) _).setCell (Nat.le_add_right _ _) _).setCell (Nat.le_add_right _ _) _).setCell (Nat.le_add_right _ _) _).setCell (Nat.le_add_right _ _) _).setCell (Nat.le_add_right _ _) _).setCell (Nat.le_add_right _ _) _).setCell (Nat.le_add_right _ _) _)⟩
def ptrV (b : Nat) : Value := .pointer (some ⟨b, 0, none⟩)
def ptrs (l : List Nat) : List Value := l.map ptrV
theorem ptrs_length (l : List Nat) : (ptrs l).length = l.length := by simp [ptrs]
def sentCells (l : List (Int × Value)) : List Value := l.flatMap fun x => [.int .i64 x.1, x.2]
theorem sentCells_length (l : List (Int × Value)) : (sentCells l).length = l.length * 2 := by
  induction l with
  | nil => rfl
  | cons a r ih => simp only [sentCells, List.flatMap_cons, List.length_append] at ih ⊢; rw [ih]; simp; omega
theorem sentCells_append (a b : List (Int × Value)) : sentCells (a ++ b) = sentCells a ++ sentCells b := by simp [sentCells]
theorem info_sent : (Tryz.prog.info? 60).map (fun i => (i.zero, i.size, i.bytes)) = some (some (.agg #[.int .i64 0, .slice none 0 0]), 2, 32) := by kernel_rfl
def OutBy (w : World) (ob : Nat) (out : List (Int × Value)) (outs : List (Int × List Int)) : Prop :=
  out.length = outs.length /\ ∀ (i : Nat) x y, out[i]? = some x -> outs[i]? = some y -> x.1 = y.1 /\ w.ownsRow ob 5 1 x.2 y.2.length (U8 y.2)
end Go.Proofs.YthmdjhlhodpbhaaGreatDoor
