/- Shuffled, 9 -/
import Derived.Lib.EndianBits
import Derived.Test.YthmdjhlhodpbhaaGreatDoorS03
import Derived.Test.YthmdjhlhodpbhaaGreatDoorS08
set_option maxHeartbeats 16000000
set_option maxRecDepth 8000
namespace Go.Proofs.YthmdjhlhodpbhaaGreatDoor
open Go.RowKit
theorem wreadFour_any (t0 t1 t2 t3 : Int) (b off n cap : Nat) (w : World) (hn : 4 <= n) (h0 : w.cell? ⟨b, off, none⟩ = some (.int .u8 t0)) (h1 : w.cell? ⟨b, off + 1, none⟩ = some (.int .u8 t1)) (h2 : w.cell? ⟨b, off + 2, none⟩ = some (.int .u8 t2)) (h3 : w.cell? ⟨b, off + 3, none⟩ = some (.int .u8 t3))
  (r0 : 0 <= t0 /\ t0 < 256) (r1 : 0 <= t1 /\ t1 < 256) (r2 : 0 <= t2 /\ t2 < 256) (r3 : 0 <= t3 /\ t3 < 256) :
  Calls Tryz.prog 143 #[.slice (some ⟨b, off, none⟩) n cap] w fun e w' => e = .returned (.int .u32 (t0 + 256 * t1 + 65536 * t2 + 16777216 * t3)) /\ ∃ q, w' = w.drewN q := by
 have a0 : IntKind.u32.wrap t0 = t0 := u32_wrap_id t0 r0.1 (by omega)
 have a1 : IntKind.u32.wrap t1 = t1 := u32_wrap_id t1 r1.1 (by omega)
 have a2 : IntKind.u32.wrap t2 = t2 := u32_wrap_id t2 r2.1 (by omega)
 have a3 : IntKind.u32.wrap t3 = t3 := u32_wrap_id t3 r3.1 (by omega)
 have s1 : IntKind.u32.wrap (t1 * 256) = t1 * 256 := u32_wrap_id _ (by omega) (by omega)
 have s2 : IntKind.u32.wrap (t2 * 65536) = t2 * 65536 := u32_wrap_id _ (by omega) (by omega)
 have s3 : IntKind.u32.wrap (t3 * 16777216) = t3 * 16777216 := u32_wrap_id _ (by omega) (by omega)
 have o1 : bits .or .u32 t0 (t1 * 256) = t0 + t1 * 256 := u32_or8 t0 _ r0.1 r0.2 (by omega) (by omega) (by omega)
 have o2 : bits .or .u32 (t0 + t1 * 256) (t2 * 65536) = t0 + t1 * 256 + t2 * 65536 := u32_or16 _ _ (by omega) (by omega) (by omega) (by omega) (by omega)
 have o3 : bits .or .u32 (t0 + t1 * 256 + t2 * 65536) (t3 * 16777216) = t0 + t1 * 256 + t2 * 65536 + t3 * 16777216 := u32_or24 _ _ (by omega) (by omega) (by omega) (by omega) (by omega)
 have b1 : (1 : Int) < (n : Int) := by omega
 have b2 : (2 : Int) < (n : Int) := by omega
 have b3 : (3 : Int) < (n : Int) := by omega
 have b0 : (0 : Int) < (n : Int) := by omega
 have HF : Hid (t0 + 256 * t1 + 65536 * t2 + 16777216 * t3 = t0 + t1 * 256 + t2 * 65536 + t3 * 16777216) := by show _ = _; omega
 rw [HF.out]
 go_enter Tryz.func143, Tryz.ntmps143
 go_wp2_with fail
 go_quiet (fail)
 go_wp2_with fail
 go_ret
 exact ⟨rfl, _, rfl⟩
theorem bytesEq_any (l r : List Int) (lv rv : Value) (w : World) (hl : RdB w lv l) (hr : RdB w rv r) (hl0 : 0 < l.length) (hr0 : 0 < r.length) :
  Calls Tryz.prog 144 #[lv, rv] w fun e w' => e = .returned (.bool (decide (l = r))) /\ w = w' := by
 obtain ⟨hbl, _, la, lc, rfl, _, _, _, hlp⟩ := id hl
 obtain ⟨hbr, _, ra, rc, rfl, _, _, _, hrp⟩ := id hr
 obtain ⟨lb, lo, _, _, rfl, _, _⟩ := hlp hl0
 obtain ⟨rb, ro, _, _, rfl, _, _⟩ := hrp hr0
 have v1 := run_convert_bytes_arg w 44 5 Tryz.underlying44 Tryz.underlying5 lb lo l.length lc l rfl (fun i hi => hl.cell i hi) 9 Tryz.underlying9
 have v2 := run_convert_bytes_arg w 44 5 Tryz.underlying44 Tryz.underlying5 rb ro r.length rc r rfl (fun i hi => hr.cell i hi) 9 Tryz.underlying9
 have HGd : Hid (decide (l = r) = decide (strOfNums l = strOfNums r)) := by
  show _ = _
  exact decide_eq_decide.2 ⟨fun h => by rw [h], fun h => strOfNums_inj hbl hbr h⟩
 generalize strOfNums l = sa at v1 HGd
 generalize strOfNums r = sb at v2 HGd
 obtain ⟨ll, hll⟩ : ∃ ll, l.length = ll := ⟨_, rfl⟩
 obtain ⟨rl, hrl⟩ : ∃ rl, r.length = rl := ⟨_, rfl⟩
 rw [hll] at v1 ⊢
 rw [hrl] at v2 ⊢
 rw [HGd.out]
 clear hl hr hll hrl hl0 hr0 hlp hrp hbl hbr
 by_cases hse : sa = sb
 ·have HD : decide (sa = sb) = true := by simpa using hse
  subst hse
  go_enter Tryz.func144, Tryz.ntmps144
  go_wp2_with fail
  go_ret
  exact ⟨by simp, rfl⟩
 ·have HD : decide (sa = sb) = false := by simpa using hse
  have HE : ¬ sa.toList = sb.toList := fun h => hse (by
   rw [ByteArray.toList_eq, ByteArray.toList_eq] at h
   exact ByteArray.ext (Array.toList_inj.mp h))
  rw [HD]
  go_enter Tryz.func144, Tryz.ntmps144
  go_wp2_with fail
  go_ret
  exact ⟨by simp [HE], rfl⟩
theorem RdB.of_own {w : World} {base : Nat} {v : Value} {n : Nat} {l : List Int} (h : w.ownsRow base 5 1 v n (U8 l)) (hb : Bytes l) (hm : l.length <= 140737488355328) : RdB w v l := by
 have hn : n = l.length := by have := h.1; rw [U8_length] at this; omega
 subst hn
 obtain ⟨hl, ⟨rfl, h0⟩ | ⟨g, cap, cur, rfl, _, hg, hc1, hc2, _, ht⟩⟩ := h
 ·have hn : l = [] := List.length_eq_zero_iff.1 h0
  subst hn
  exact RdB.nil w
 ·refine ⟨hb, hm, _, cap, rfl, hc1, by unfold maxLen at hc2; omega, fun h => (by simp at h), fun hp => ⟨g, 0, cur, _, rfl, hg, fun j hj => ?_⟩⟩
  have h2 : cur[0 + j]? = (U8 l)[j]? := by
   rw [Nat.zero_add, <- ht, List.getElem?_take, if_pos (by simp only [Nat.mul_one] at *; omega)]
   simp
  rw [h2]
  simp [U8, List.getElem?_eq_getElem hj, List.getD]
theorem wTokenHolds_any (c : Cfg) (now addr : Int) (t : List Int) (tv : Value) (w : World) (ht : RdB w tv t) (ha : 0 <= addr /\ addr < 256) (hk : 0 <= c.c9 /\ c.c9 < 4294967296) :
  Calls Tryz.prog 90 #[.int .i64 c.c9, .int .i64 addr, .int .i64 now, tv] w fun e w' => e = .returned (.bool (goodS c now addr t)) /\ Below w.heap.size w w' := by
 obtain ⟨hbt, _, ba, bc, rfl, hbc, _, _, hp⟩ := id ht
 by_cases h9 : t.length = 9
 ·obtain ⟨tv1, htv1, ⟨a1, c1, rfl⟩, hrun⟩ := ht.drop (k := 1) (by omega)
  have hl1 : (t.drop 1).length = 8 := by simp; omega
  obtain ⟨_, _, a2, c2, e2, _, _, _, hp2⟩ := id htv1
  obtain ⟨b2, o2, _, _, rfl, _, _⟩ := hp2 (by omega)
  simp only [Value.slice.injEq] at e2
  obtain ⟨rfl, _, rfl⟩ := e2
  have hcl : ∀ j, j < 8 -> w.cell? ⟨b2, o2 + j, none⟩ = some (.int .u8 (t.getD (j + 1) 0)) := by
   intro j hj
   have h1 : RdB w (.slice (some ⟨b2, o2, none⟩) (t.drop 1).length c1) (t.drop 1) := by rw [hl1]; rw [h9] at htv1; exact htv1
   have h2 := h1.cell j (by omega)
   rw [h2]
   congr 2
   simp [List.getD]
  have k0 := hcl 0 (by omega)
  have k1 := hcl 1 (by omega)
  have k2 := hcl 2 (by omega)
  have k3 := hcl 3 (by omega)
  rw [Nat.add_zero] at k0
  have r1 := getD_byte hbt 1
  have r2 := getD_byte hbt 2
  have r3 := getD_byte hbt 3
  have r4 := getD_byte hbt 4
  have HRf := hideIt (wreadFour_any (t.getD 1 0) (t.getD 2 0) (t.getD 3 0) (t.getD 4 0) b2 o2 8 c1 w (by omega) k0 k1 k2 k3 r1 r2 r3 r4)
  have HG : Hid (goodS c now addr t = (decide (tokenL c.c9 addr (timeL t) = t) && decide (now <= timeL t))) := by
   show _ = _
   simp [goodS, h9]
  have htm : 0 <= timeL t /\ timeL t < 4294967296 := by unfold timeL; omega
  have e3 : t.getD 1 0 + 256 * t.getD 2 0 + 65536 * t.getD 3 0 + 16777216 * t.getD 4 0 = timeL t := rfl
  rw [e3] at HRf
  obtain ⟨tm, htm2⟩ : ∃ tm, timeL t = tm := ⟨_, rfl⟩
  rw [htm2] at HRf HG htm
  obtain ⟨htm0, htm1⟩ := htm
  have hwt : IntKind.i64.wrap tm = tm := by rw [IntKind.wrap_i64]; omega
  have HTk := hideIt (fun W => wToken_any c.c9 addr tm W hk.1 hk.2 ha.1 ha.2 htm0 htm1)
  have HTb := hideIt (tokenL_bytes c.c9 addr tm ha.1 ha.2)
  have HTR := hideIt ht
  rw [h9] at hrun ⊢
  replace HTR : Hid (RdB w (.slice ba 9 bc) t) := by rw [h9] at HTR; exact HTR
  have H9 := hideIt h9
  have e8 : (9 - 1 : Nat) = 8 := rfl
  simp only [e8] at hrun
  rw [HG.out]
  clear ht htv1 hp hp2 hcl k0 k1 k2 k3 r1 r2 r3 r4 h9 hl1 htm2 e3 e8
  simp only [Int.natCast_one] at hrun
  by_cases hge : now <= tm
  ·have hd : decide (now <= tm) = true := decide_eq_true hge
   rw [hd, Bool.and_true]
   obtain ⟨B, hB⟩ : ∃ B, decide (tokenL c.c9 addr tm = t) = B := ⟨_, rfl⟩
   have HBB := hideIt hB
   rw [hB]
   clear hB
   go_enter Tryz.func90, Tryz.ntmps90
   go_wp2_with fail
   refine HRf.out.mono ?_
   rintro e w1 ⟨rfl, q, rfl⟩
   clear HRf
   go_wp2_with fail
   refine (HTk.out _).mono ?_
   rintro e w2 ⟨v, rfl, hown, hb2⟩
   have hb3 : Below w.heap.size w w2 := ⟨hb2.os, hb2.tape, hb2.output, hb2.size, hb2.block⟩
   have hl9 : (tokenL c.c9 addr tm).length = 9 := by have := hown.1; rw [U8_length] at this; omega
   have HEq := hideIt (bytesEq_any t (tokenL c.c9 addr tm) (.slice ba 9 bc) v w2 (HTR.out.below hb3) (RdB.of_own hown HTb.out (by rw [hl9]; decide)) (by rw [H9.out]; decide) (by rw [hl9]; decide))
   obtain ⟨va, vc, rfl⟩ := own_form hown
   have HB3 := hideIt hb3
   have HDc : Hid (decide (t = tokenL c.c9 addr tm) = B) := by
    show _ = _
    rw [<- HBB.out]
    exact decide_eq_decide.2 eq_comm
   clear hown hb2 hb3 HTk hl9
   go_wp2_with fail
   refine HEq.out.mono ?_
   rintro e w3 ⟨rfl, rfl⟩
   rw [HDc.out]
   clear HEq HDc HBB HG
   go_wp2_with fail
   go_ret
   exact ⟨by simp, HB3.out⟩
  ·have hd : decide (now <= tm) = false := decide_eq_false hge
   rw [hd, Bool.and_false]
   go_enter Tryz.func90, Tryz.ntmps90
   go_wp2_with fail
   refine HRf.out.mono ?_
   rintro e w1 ⟨rfl, q, rfl⟩
   clear HRf
   go_wp2_with fail
   go_ret
   exact ⟨rfl, below_drewN (Below.refl _ _) q⟩
 ·have HG : Hid (goodS c now addr t = false) := by
   show _ = _
   simp [goodS, h9]
  rw [HG.out]
  have hb9 : ((t.length : Int) == 9) = false := beq_eq_false_iff_ne.2 (by omega)
  clear ht hp
  go_enter Tryz.func90, Tryz.ntmps90
  go_wp2_with fail
  go_ret
  exact ⟨rfl, Below.refl _ _⟩
def helloL (cid : Int) (tok fr : List Int) : List Int := [1] ++ putL cid ++ putL tok.length ++ tok ++ fr
def dataL (cid num : Int) (fr : List Int) : List Int := [2] ++ putL cid ++ putL num ++ fr
theorem helloL_bytes {cid : Int} {tok fr : List Int} (hc : 0 <= cid /\ cid <= 1073741823) (ht : Bytes tok) (hf : Bytes fr) (hl : tok.length <= 1000000) : Bytes (helloL cid tok fr) :=
 ((((Bytes.cons (by decide) Bytes.nil).append (putL_bytes _ hc.1 hc.2)).append (putL_bytes _ (by omega) (by omega))).append ht).append hf
theorem dataL_bytes {cid num : Int} {fr : List Int} (hc : 0 <= cid /\ cid <= 1073741823) (hn : 0 <= num /\ num <= 1073741823) (hf : Bytes fr) : Bytes (dataL cid num fr) :=
 (((Bytes.cons (by decide) Bytes.nil).append (putL_bytes _ hc.1 hc.2)).append (putL_bytes _ hn.1 hn.2)).append hf
theorem RdB.lit (w : World) (l : List Int) (hb : Bytes l) (h0 : 0 < l.length) (hl : l.length <= 1000) : RdB (w.alloc (.cells (U8 l).toArray 5)) (.slice (some ⟨w.heap.size, 0, none⟩) l.length l.length) l := by
 refine ⟨hb, by omega, _, _, rfl, Nat.le_refl _, by omega, fun h => (by cases h), fun _ => ⟨w.heap.size, 0, _, _, rfl, heap_alloc_new w _, fun j hj => ?_⟩⟩
 have hj' : j < (U8 l).length := by simpa [U8] using hj
 simp [U8, List.getD, List.getElem?_eq_getElem hj]
theorem khello_any (cid : Int) (tok fr : List Int) (tv fv : Value) (w : World) (hc : 0 <= cid /\ cid <= 1073741823) (ht : RdB w tv tok) (hf : RdB w fv fr) (h1 : tok.length <= 1000000) (h2 : fr.length <= 1000000) :
  Calls Tryz.prog 30 #[.int .i64 cid, tv, fv] w fun e w' => ∃ v, e = .returned v /\ w'.ownsRow w.heap.size 5 1 v (helloL cid tok fr).length (U8 (helloL cid tok fr)) /\ Below w.heap.size w w' := by
 have hb0 : Below w.heap.size w (w.alloc (.cells #[.int .u8 1] 5)) := below_alloc w _
 have HL := hideIt (RdB.lit w [1] (fun x hx => by rw [List.mem_singleton.1 hx]; decide) (by decide) (by decide))
 have HN1 := hideIt (knumber_any cid (w.alloc (.cells #[.int .u8 1] 5)) hc)
 have HN2 := hideIt (fun W => knumber_any (tok.length : Int) W (by omega))
 have HT := hideIt ht
 have HF := hideIt hf
 have HB0 := hideIt hb0
 obtain ⟨_, _, ta, tc, hte, _⟩ := id ht
 obtain ⟨_, _, fa, fc, hfe, _⟩ := id hf
 have HJ : Hid (∀ (W : World) (v1 v2 : Value) (base1 base2 : Nat), Below w.heap.size w W -> RdB W (.slice (some ⟨w.heap.size, 0, none⟩) 1 1) [1] -> W.ownsRow base1 5 1 v1 (putL cid).length (U8 (putL cid)) -> W.ownsRow base2 5 1 v2 (putL (tok.length : Int)).length (U8 (putL (tok.length : Int))) ->
   Calls Tryz.prog 32 #[.slice (some ⟨W.heap.size, 0, none⟩) 5 5] (W.alloc (.cells #[.slice (some ⟨w.heap.size, 0, none⟩) 1 1, v1, v2, tv, fv] 44)) fun e w' => ∃ v, e = .returned v /\ w'.ownsRow w.heap.size 5 1 v (helloL cid tok fr).length (U8 (helloL cid tok fr)) /\ Below w.heap.size w w') := by
  intro W v1 v2 base1 base2 hW hA hv1 hv2
  have hb := below_alloc W (.cells #[.slice (some ⟨w.heap.size, 0, none⟩) 1 1, v1, v2, tv, fv] 44)
  have e : joinL [(.slice (some ⟨w.heap.size, 0, none⟩) 1 1, [1]), (v1, putL cid), (v2, putL (tok.length : Int)), (tv, tok), (fv, fr)] = helloL cid tok fr := by simp [joinL, helloL]
  have k1 := putL_length cid
  have k2 := putL_length (tok.length : Int)
  have h9 := kjoined_any [(.slice (some ⟨w.heap.size, 0, none⟩) 1 1, [1]), (v1, putL cid), (v2, putL (tok.length : Int)), (tv, tok), (fv, fr)] W.heap.size 5 (W.alloc (.cells #[.slice (some ⟨w.heap.size, 0, none⟩) 1 1, v1, v2, tv, fv] 44)) (fun j p hj => ?_) (fun p hp => ?_) (by simp) (by rw [e]; simp only [helloL, List.length_append, List.length_cons, List.length_nil]; omega)
  ·rw [e] at h9
   refine h9.mono ?_
   rintro e' w' ⟨v, rfl, ho, hbl⟩
   exact ⟨v, rfl, own_mono ho (Nat.le_trans hW.size hb.size), below_join (below_join hW hb) hbl⟩
  ·match j with
   | 0 => simp only [List.getElem?_cons_zero, Option.some.injEq] at hj; subst hj; simp
   | 1 => simp only [List.getElem?_cons_succ, List.getElem?_cons_zero, Option.some.injEq] at hj; subst hj; simp
   | 2 => simp only [List.getElem?_cons_succ, List.getElem?_cons_zero, Option.some.injEq] at hj; subst hj; simp
   | 3 => simp only [List.getElem?_cons_succ, List.getElem?_cons_zero, Option.some.injEq] at hj; subst hj; simp
   | 4 => simp only [List.getElem?_cons_succ, List.getElem?_cons_zero, Option.some.injEq] at hj; subst hj; simp
   | j + 5 => simp at hj
  ·simp only [List.mem_cons, List.not_mem_nil, or_false] at hp
   rcases hp with rfl | rfl | rfl | rfl | rfl
   ·exact hA.below hb
   ·exact (RdB.of_own hv1 (putL_bytes _ hc.1 hc.2) (by omega)).below hb
   ·exact (RdB.of_own hv2 (putL_bytes _ (by omega) (by omega)) (by omega)).below hb
   ·exact (HT.out.below hW).below hb
   ·exact (HF.out.below hW).below hb
 subst hte hfe
 clear ht hf hb0
 go_enter Tryz.func30, Tryz.ntmps30
 go_wp2_with fail
 refine HN1.out.mono ?_
 rintro e w1 ⟨v1, rfl, ho1, hb1⟩
 obtain ⟨a1, c1, rfl⟩ := own_form ho1
 have HO1 := hideIt ho1
 have HB1 := hideIt hb1
 clear ho1 hb1 HN1
 go_wp2_with fail
 refine (HN2.out w1).mono ?_
 rintro e w2 ⟨v2, rfl, ho2, hb2⟩
 obtain ⟨a2, c2, rfl⟩ := own_form ho2
 have HJ2 := hideIt (HJ.out w2 _ _ _ _ (below_join (below_join HB0.out HB1.out) hb2) ((HL.out.below HB1.out).below hb2) (own_below HO1.out hb2) ho2)
 clear ho2 hb2 HN2 HJ
 go_wp2_with fail
 refine HJ2.out.mono ?_
 rintro e w3 ⟨v3, rfl, ho3, hb3⟩
 obtain ⟨a3, c3, rfl⟩ := own_form ho3
 have HO3 := hideIt (And.intro ho3 hb3)
 clear ho3 hb3 HJ2
 go_wp2_with fail
 go_ret
 exact ⟨_, rfl, HO3.out.1, HO3.out.2⟩
theorem kdata_any (cid num : Int) (fr : List Int) (fv : Value) (w : World) (hc : 0 <= cid /\ cid <= 1073741823) (hn : 0 <= num /\ num <= 1073741823) (hf : RdB w fv fr) (h2 : fr.length <= 1000000) :
  Calls Tryz.prog 22 #[.int .i64 cid, .int .i64 num, fv] w fun e w' => ∃ v, e = .returned v /\ w'.ownsRow w.heap.size 5 1 v (dataL cid num fr).length (U8 (dataL cid num fr)) /\ Below w.heap.size w w' := by
 have hb0 : Below w.heap.size w (w.alloc (.cells #[.int .u8 2] 5)) := below_alloc w _
 have HL := hideIt (RdB.lit w [2] (fun x hx => by rw [List.mem_singleton.1 hx]; decide) (by decide) (by decide))
 have HN1 := hideIt (knumber_any cid (w.alloc (.cells #[.int .u8 2] 5)) hc)
 have HN2 := hideIt (fun W => knumber_any num W hn)
 have HF := hideIt hf
 have HB0 := hideIt hb0
 obtain ⟨_, _, fa, fc, hfe, _⟩ := id hf
 have HJ : Hid (∀ (W : World) (v1 v2 : Value) (base1 base2 : Nat), Below w.heap.size w W -> RdB W (.slice (some ⟨w.heap.size, 0, none⟩) 1 1) [2] -> W.ownsRow base1 5 1 v1 (putL cid).length (U8 (putL cid)) -> W.ownsRow base2 5 1 v2 (putL num).length (U8 (putL num)) ->
   Calls Tryz.prog 32 #[.slice (some ⟨W.heap.size, 0, none⟩) 4 4] (W.alloc (.cells #[.slice (some ⟨w.heap.size, 0, none⟩) 1 1, v1, v2, fv] 44)) fun e w' => ∃ v, e = .returned v /\ w'.ownsRow w.heap.size 5 1 v (dataL cid num fr).length (U8 (dataL cid num fr)) /\ Below w.heap.size w w') := by
  intro W v1 v2 base1 base2 hW hA hv1 hv2
  have hb := below_alloc W (.cells #[.slice (some ⟨w.heap.size, 0, none⟩) 1 1, v1, v2, fv] 44)
  have e : joinL [(.slice (some ⟨w.heap.size, 0, none⟩) 1 1, [2]), (v1, putL cid), (v2, putL num), (fv, fr)] = dataL cid num fr := by simp [joinL, dataL]
  have k1 := putL_length cid
  have k2 := putL_length num
  have h9 := kjoined_any [(.slice (some ⟨w.heap.size, 0, none⟩) 1 1, [2]), (v1, putL cid), (v2, putL num), (fv, fr)] W.heap.size 4 (W.alloc (.cells #[.slice (some ⟨w.heap.size, 0, none⟩) 1 1, v1, v2, fv] 44)) (fun j p hj => ?_) (fun p hp => ?_) (by simp) (by rw [e]; simp only [dataL, List.length_append, List.length_cons, List.length_nil]; omega)
  ·rw [e] at h9
   refine h9.mono ?_
   rintro e' w' ⟨v, rfl, ho, hbl⟩
   exact ⟨v, rfl, own_mono ho (Nat.le_trans hW.size hb.size), below_join (below_join hW hb) hbl⟩
  ·match j with
   | 0 => simp only [List.getElem?_cons_zero, Option.some.injEq] at hj; subst hj; simp
   | 1 => simp only [List.getElem?_cons_succ, List.getElem?_cons_zero, Option.some.injEq] at hj; subst hj; simp
   | 2 => simp only [List.getElem?_cons_succ, List.getElem?_cons_zero, Option.some.injEq] at hj; subst hj; simp
   | 3 => simp only [List.getElem?_cons_succ, List.getElem?_cons_zero, Option.some.injEq] at hj; subst hj; simp
   | j + 4 => simp at hj
  ·simp only [List.mem_cons, List.not_mem_nil, or_false] at hp
   rcases hp with rfl | rfl | rfl | rfl
   ·exact hA.below hb
   ·exact (RdB.of_own hv1 (putL_bytes _ hc.1 hc.2) (by omega)).below hb
   ·exact (RdB.of_own hv2 (putL_bytes _ hn.1 hn.2) (by omega)).below hb
   ·exact (HF.out.below hW).below hb
 subst hfe
 clear hf hb0
 go_enter Tryz.func22, Tryz.ntmps22
 go_wp2_with fail
 refine HN1.out.mono ?_
 rintro e w1 ⟨v1, rfl, ho1, hb1⟩
 obtain ⟨a1, c1, rfl⟩ := own_form ho1
 have HO1 := hideIt ho1
 have HB1 := hideIt hb1
 clear ho1 hb1 HN1
 go_wp2_with fail
 refine (HN2.out w1).mono ?_
 rintro e w2 ⟨v2, rfl, ho2, hb2⟩
 obtain ⟨a2, c2, rfl⟩ := own_form ho2
 have HJ2 := hideIt (HJ.out w2 _ _ _ _ (below_join (below_join HB0.out HB1.out) hb2) ((HL.out.below HB1.out).below hb2) (own_below HO1.out hb2) ho2)
 clear ho2 hb2 HN2 HJ
 go_wp2_with fail
 refine HJ2.out.mono ?_
 rintro e w3 ⟨v3, rfl, ho3, hb3⟩
 obtain ⟨a3, c3, rfl⟩ := own_form ho3
 have HO3 := hideIt (And.intro ho3 hb3)
 clear ho3 hb3 HJ2
 go_wp2_with fail
 go_ret
 exact ⟨_, rfl, HO3.out.1, HO3.out.2⟩
def lettersL (st fr : Int) (n : Nat) : List Int := (List.range n).map fun (i : Nat) => letterN st (fr + (i : Int))
theorem lettersL_succ (st fr : Int) (n : Nat) : lettersL st fr (n + 1) = lettersL st fr n ++ [letterN st (fr + (n : Int))] := by
 simp [lettersL, List.range_succ]
theorem lettersL_len (st fr : Int) (n : Nat) : (lettersL st fr n).length = n := by simp [lettersL]
theorem letterN_byte {st p : Int} : 0 <= letterN st p /\ letterN st p < 256 := by unfold letterN; omega
def pieceL (kind st fr tt : Int) : List Int := [kind] ++ putL st ++ putL fr ++ putL (tt - fr) ++ lettersL st fr (tt - fr).toNat
theorem kpiece_any (kind st fr tt : Int) (w : World) (hk : 0 <= kind /\ kind < 256) (hs : 0 <= st /\ st <= 1073741823) (hf : 0 <= fr /\ fr <= tt) (ht : tt <= 1000000) :
  Calls Tryz.prog 23 #[.int .i64 kind, .int .i64 st, .int .i64 fr, .int .i64 tt] w fun e w' => ∃ v, e = .returned v /\ w'.ownsRow w.heap.size 5 1 v (pieceL kind st fr tt).length (U8 (pieceL kind st fr tt)) /\ Below w.heap.size w w' := by
 obtain ⟨i0, hi, hz0, hz1, hz2⟩ := info_parts info_u8
 have hb0 : Below w.heap.size w (w.alloc (.cells #[.int .u8 kind] 5)) := below_alloc w _
 have HL := hideIt (RdB.lit w [kind] (fun x hx => by rw [List.mem_singleton.1 hx]; exact hk) (by simp) (by simp))
 have HN1 := hideIt (knumber_any st (w.alloc (.cells #[.int .u8 kind] 5)) hs)
 have HN2 := hideIt (fun W => knumber_any fr W (by omega))
 have HN3 := hideIt (fun W => knumber_any (tt - fr) W (by omega))
 have HB0 := hideIt hb0
 have HJ : Hid (∀ (W : World) (v1 v2 v3 : Value) (base1 base2 base3 : Nat), Below w.heap.size w W -> RdB W (.slice (some ⟨w.heap.size, 0, none⟩) 1 1) [kind] -> W.ownsRow base1 5 1 v1 (putL st).length (U8 (putL st)) -> W.ownsRow base2 5 1 v2 (putL fr).length (U8 (putL fr)) -> W.ownsRow base3 5 1 v3 (putL (tt - fr)).length (U8 (putL (tt - fr))) ->
   Calls Tryz.prog 32 #[.slice (some ⟨W.heap.size, 0, none⟩) 4 4] (W.alloc (.cells #[.slice (some ⟨w.heap.size, 0, none⟩) 1 1, v1, v2, v3] 44)) fun e w' => ∃ v, e = .returned v /\ w'.ownsRow w.heap.size 5 1 v ([kind] ++ putL st ++ putL fr ++ putL (tt - fr)).length (U8 ([kind] ++ putL st ++ putL fr ++ putL (tt - fr))) /\ Below w.heap.size w w') := by
  intro W v1 v2 v3 base1 base2 base3 hW hA hv1 hv2 hv3
  have hb := below_alloc W (.cells #[.slice (some ⟨w.heap.size, 0, none⟩) 1 1, v1, v2, v3] 44)
  have e : joinL [(.slice (some ⟨w.heap.size, 0, none⟩) 1 1, [kind]), (v1, putL st), (v2, putL fr), (v3, putL (tt - fr))] = [kind] ++ putL st ++ putL fr ++ putL (tt - fr) := by simp [joinL]
  have k1 := putL_length st
  have k2 := putL_length fr
  have k3 := putL_length (tt - fr)
  have h9 := kjoined_any [(.slice (some ⟨w.heap.size, 0, none⟩) 1 1, [kind]), (v1, putL st), (v2, putL fr), (v3, putL (tt - fr))] W.heap.size 4 (W.alloc (.cells #[.slice (some ⟨w.heap.size, 0, none⟩) 1 1, v1, v2, v3] 44)) (fun j p hj => ?_) (fun p hp => ?_) (by simp) (by rw [e]; simp only [List.length_append, List.length_cons, List.length_nil]; omega)
  ·rw [e] at h9
   refine h9.mono ?_
   rintro e' w' ⟨v, rfl, ho, hbl⟩
   exact ⟨v, rfl, own_mono ho (Nat.le_trans hW.size hb.size), below_join (below_join hW hb) hbl⟩
  ·match j with
   | 0 => simp only [List.getElem?_cons_zero, Option.some.injEq] at hj; subst hj; simp
   | 1 => simp only [List.getElem?_cons_succ, List.getElem?_cons_zero, Option.some.injEq] at hj; subst hj; simp
   | 2 => simp only [List.getElem?_cons_succ, List.getElem?_cons_zero, Option.some.injEq] at hj; subst hj; simp
   | 3 => simp only [List.getElem?_cons_succ, List.getElem?_cons_zero, Option.some.injEq] at hj; subst hj; simp
   | j + 4 => simp at hj
  ·simp only [List.mem_cons, List.not_mem_nil, or_false] at hp
   rcases hp with rfl | rfl | rfl | rfl
   ·exact hA.below hb
   ·exact (RdB.of_own hv1 (putL_bytes _ hs.1 hs.2) (by omega)).below hb
   ·exact (RdB.of_own hv2 (putL_bytes _ (by omega) (by omega)) (by omega)).below hb
   ·exact (RdB.of_own hv3 (putL_bytes _ (by omega) (by omega)) (by omega)).below hb
 have HLt := hideIt (fun (p : Int) (W : World) (hp : 0 <= p /\ p <= 1000000) => kletter_any st p W (by omega) (by omega))
 obtain ⟨n, hn⟩ : ∃ n : Nat, tt - fr = n := ⟨(tt - fr).toNat, by omega⟩
 have hPl : (putL st).length + (putL fr).length + (putL (tt - fr)).length <= 12 := by
  have k1 := putL_length st
  have k2 := putL_length fr
  have k3 := putL_length (tt - fr)
  omega
 have HPc : Hid (pieceL kind st fr tt = ([kind] ++ putL st ++ putL fr ++ putL (tt - fr)) ++ lettersL st fr n) := by
  show _ = _
  unfold pieceL
  rw [show (tt - fr).toNat = n by omega]
 have hll : ([kind] ++ putL st ++ putL fr ++ putL (tt - fr)).length <= 13 := by simp only [List.length_append, List.length_cons, List.length_nil]; omega
 have HTo := hideIt (show tt = fr + (n : Int) by omega)
 have HHl := hideIt hll
 obtain ⟨hk0, hk1⟩ := hk
 clear hb0 hPl hn hll
 generalize [kind] ++ putL st ++ putL fr ++ putL (tt - fr) = P at HJ HPc HHl
 go_enter Tryz.func23, Tryz.ntmps23
 go_wp2_with fail
 refine HN1.out.mono ?_
 rintro e w1 ⟨v1, rfl, ho1, hb1⟩
 obtain ⟨a1, c1, rfl⟩ := own_form ho1
 have HO1 := hideIt ho1
 have HB1 := hideIt hb1
 clear ho1 hb1 HN1
 go_wp2_with fail
 refine (HN2.out w1).mono ?_
 rintro e w2 ⟨v2, rfl, ho2, hb2⟩
 obtain ⟨a2, c2, rfl⟩ := own_form ho2
 have HO2 := hideIt ho2
 have HB2 := hideIt hb2
 clear ho2 hb2 HN2
 go_wp2_with fail
 refine (HN3.out w2).mono ?_
 rintro e w3 ⟨v3, rfl, ho3, hb3⟩
 obtain ⟨a3, c3, rfl⟩ := own_form ho3
 have HJ2 := hideIt (HJ.out w3 _ _ _ _ _ _ (below_join (below_join (below_join HB0.out HB1.out) HB2.out) hb3) (((HL.out.below HB1.out).below HB2.out).below hb3) (own_below (own_below HO1.out HB2.out) hb3) (own_below HO2.out hb3) ho3)
 clear ho3 hb3 HN3 HJ HO1 HO2 HB0 HB1 HB2 HL
 go_wp2_with fail
 refine HJ2.out.mono ?_
 rintro e w4 ⟨v4, rfl, ho4, hb4⟩
 obtain ⟨a4, c4, rfl⟩ := own_form ho4
 have HO4 := hideIt (And.intro ho4 hb4)
 clear ho4 hb4 HJ2
 obtain ⟨pl, hpl⟩ : ∃ pl, P.length = pl := ⟨_, rfl⟩
 have hll := HHl.out
 rw [hpl] at HO4 hll ⊢
 have HPl := hideIt hpl
 clear hpl
 go_wp2_with fail
 go_loopw [9, 10] (fun o i wr => ∃ (k : Nat) (ao : Option Addr) (m cp : Nat), k <= n /\ i = .int .i64 (fr + (k : Int)) /\ o = .slice ao m cp /\ m = pl + k /\ Hid (wr.ownsRow w.heap.size 5 1 (.slice ao m cp) m (U8 (P ++ lettersL st fr k))) /\ Below w.heap.size w wr) (fun _ i _ => n - (intOf i - fr).toNat)
 case atStart => exact ⟨0, a4, pl, c4, Nat.zero_le _, by simp, rfl, rfl, hideIt (by simpa [lettersL] using HO4.out.1), HO4.out.2⟩
 case round =>
  obtain ⟨k, ao, m, cp, hk, rfl, rfl, rfl, hO, hbw⟩ := hrel
  have HB := hideIt hbw
  have hsz := hbw.size
  by_cases hlt : k < n
  ·have hlt2 : fr + (k : Int) < tt := by have := HTo.out; omega
   have HLk := hideIt (HLt.out (fr + (k : Int)) wr (by omega))
   have hkb : pl + k <= 2000000 := by have := HTo.out; omega
   have HSn := hideIt (lettersL_succ st fr k)
   have hby := letterN_byte (st := st) (p := fr + (k : Int))
   generalize letterN st (fr + (k : Int)) = L at HLk HSn hby
   clear hbw
   go_wp2_with fail
   refine HLk.out.mono ?_
   rintro e w5 ⟨rfl, rfl⟩
   clear HLk
   have HLc := hideIt (lit_cells wr 5 [.int .u8 L] (by simp [maxLen]))
   have HOa := hideIt (own_below hO.out (below_alloc wr (.cells #[.int .u8 L] 5)))
   have hsz2 : w.heap.size <= (wr.alloc (.cells #[.int .u8 L] 5)).heap.size := by simp; omega
   go_wp2_with (first
    | (at_builtin; refine wpList_append_own _ rfl _ _ 44 rfl w.heap.size 5 i0 (.int .u8 0) 1 1 Tryz.underlying44 hi hz0 hz1 hz2 rfl (by decide) (.slice ao (pl + k) cp) (pl + k) (U8 (P ++ lettersL st fr k)) rfl HOa.out ⟨wr.heap.size, 0, none⟩ 1 1 [.int .u8 L] rfl rfl HLc.out (by simp [Value.oneCell']) (by unfold maxLen; omega) (by omega) hsz2 ?_; intro v1 w6 hown1 hgrow1 _))
   obtain ⟨b1, d1, rfl⟩ := own_form hown1
   have HO1 := hideIt (And.intro hown1 hgrow1)
   clear hown1 hgrow1
   go_wp2_with fail
   go_roundw
   case rel =>
    refine ⟨k + 1, b1, pl + k + 1, d1, by omega, by go_num, rfl, by omega, ?_, ?_⟩
    ·show World.ownsRow _ _ _ _ _ _ _
     rw [HSn.out, <- List.append_assoc, U8_append]
     exact HO1.out.1
    ·exact (below_join HB.out (below_alloc wr _)).grown HO1.out.2 (by simp; omega) (fun q hq => (hO.out.lt q hq).1)
   case measure => simp [intOf]; omega
  ·obtain rfl : k = n := by omega
   have hlt2 : ¬ fr + (k : Int) < tt := by have := HTo.out; omega
   go_wp2_with fail
   go_ret
   refine ⟨_, rfl, ?_, HB.out⟩
   rw [HPc.out, List.length_append, lettersL_len, HPl.out]
   exact hO.out
end Go.Proofs.YthmdjhlhodpbhaaGreatDoor
namespace Go.Proofs.YthmdjhlhodpbhaaGreatDoor
theorem put_get {n : Int} (h : 0 <= n /\ n <= 1073741823) (r : List Int) : gsz (putL n ++ r) = (putL n).length /\ gval (putL n ++ r) = n := by
 have hs : gsz (putL n ++ r) = (putL n).length := by
  unfold putL
  split
  ·simp [gsz, sizeN]
   omega
  ·split
   ·simp [gsz, sizeN]
    omega
   ·simp [gsz, sizeN]
    omega
 refine ⟨hs, ?_⟩
 have h0 := (putL_length n).2
 unfold gval
 rw [if_neg (by rw [hs]; omega), hs, Int.toNat_natCast]
 unfold putL
 split
 ·simp [valTo]
  omega
 ·split
  ·simp [valTo]
   omega
  ·simp [valTo]
   omega
theorem put_drop {n : Int} (h : 0 <= n /\ n <= 1073741823) (r : List Int) : (putL n ++ r).drop (gsz (putL n ++ r)).toNat = r := by
 rw [(put_get h r).1, Int.toNat_natCast]
 simp
theorem put_some {n : Int} (h : 0 <= n /\ n <= 1073741823) (r : List Int) : ¬ gsz (putL n ++ r) = 0 := by
 have h0 := (putL_length n).2
 rw [(put_get h r).1]
 omega
theorem dgram_hello {cid : Int} {tok fr : List Int} (hc : 0 <= cid /\ cid <= 1073741823) (ht : tok.length <= 1000000) : dgramS (helloL cid tok fr) = some ⟨1, cid, tok, 0, fr⟩ := by
 have e : helloL cid tok fr = 1 :: (putL cid ++ (putL tok.length ++ (tok ++ fr))) := by simp [helloL]
 have hl : 0 <= (tok.length : Int) /\ (tok.length : Int) <= 1073741823 := by omega
 rw [e]
 unfold dgramS
 simp only [List.drop_succ_cons, List.drop_zero, List.getD_cons_zero, if_true, reduceCtorEq, if_false]
 rw [if_neg (put_some hc _), put_drop hc, if_neg (put_some hl _), put_drop hl, (put_get hc _).2, (put_get hl _).2]
 simp
 omega
theorem dgram_data {cid num : Int} {fr : List Int} (hc : 0 <= cid /\ cid <= 1073741823) (hn : 0 <= num /\ num <= 1073741823) : dgramS (dataL cid num fr) = some ⟨2, cid, [], num, fr⟩ := by
 have e : dataL cid num fr = 2 :: (putL cid ++ (putL num ++ fr)) := by simp [dataL]
 rw [e]
 unfold dgramS
 simp only [List.drop_succ_cons, List.drop_zero, List.getD_cons_zero, if_true, reduceCtorEq, if_false]
 rw [if_neg (put_some hc _), put_drop hc, if_neg (put_some hn _), put_drop hn, (put_get hc _).2, (put_get hn _).2]
 simp
theorem nums_put (t : Int) (ns r : List Int) (h : ∀ n ∈ ns, 0 <= n /\ n <= 1073741823) : ∀ k, k <= ns.length -> numsTo (t :: ((ns.map putL).flatten ++ r)) k = some (ns.take k, 1 + ((ns.take k).map putL).flatten.length)
 | 0, _ => by simp [numsTo]
 | k + 1, hk => by
  have ih := nums_put t ns r h k (by omega)
  have hn : ns[k]? = some (ns[k]'(by omega)) := List.getElem?_eq_getElem (by omega)
  have hm : 0 <= ns[k]'(by omega) /\ ns[k]'(by omega) <= 1073741823 := h _ (List.getElem_mem _)
  have e : ns = ns.take k ++ (ns[k]'(by omega) :: ns.drop (k + 1)) := by
   rw [<- List.drop_eq_getElem_cons (by omega), List.take_append_drop]
  have e2 : (ns.map putL).flatten ++ r = ((ns.take k).map putL).flatten ++ (putL (ns[k]'(by omega)) ++ (((ns.drop (k + 1)).map putL).flatten ++ r)) := by
   have q := congrArg (fun l => (List.map putL l).flatten ++ r) e
   simp only [List.map_append, List.map_cons, List.flatten_append, List.flatten_cons, List.append_assoc] at q
   exact q
  have hd : (t :: ((ns.map putL).flatten ++ r)).drop (1 + ((ns.take k).map putL).flatten.length) = putL (ns[k]'(by omega)) ++ (((ns.drop (k + 1)).map putL).flatten ++ r) := by
   rw [Nat.add_comm, List.drop_succ_cons, e2, List.drop_left]
  have ht : ns.take (k + 1) = ns.take k ++ [ns[k]'(by omega)] := List.take_succ_eq_append_getElem (by omega)
  rw [numsTo, ih]
  simp only
  rw [hd, if_neg (put_some hm _), (put_get hm _).2, (put_get hm _).1, Int.toNat_natCast, ht]
  simp only [List.map_append, List.map_cons, List.map_nil, List.flatten_append, List.flatten_cons, List.flatten_nil, List.append_nil, List.length_append, Nat.add_assoc]
theorem frame_bytes {k id ofs : Int} {bs r : List Int} (hk : k = 3 \/ k = 4) (hi : 0 <= id /\ id <= 1073741823) (ho : 0 <= ofs /\ ofs <= 1073741823) (hb : bs.length <= 1073741823) :
  frameS ([k] ++ putL id ++ putL ofs ++ putL bs.length ++ bs ++ r) = some (⟨k, id, ofs, 0, bs⟩, ([k] ++ putL id ++ putL ofs ++ putL bs.length ++ bs).length) := by
 have e : [k] ++ putL id ++ putL ofs ++ putL bs.length ++ bs ++ r = k :: (([id, ofs, (bs.length : Int)].map putL).flatten ++ (bs ++ r)) := by simp
 have h := nums_put k [id, ofs, (bs.length : Int)] (bs ++ r) (by
  intro n hn
  simp only [List.mem_cons, List.not_mem_nil, or_false] at hn
  rcases hn with rfl | rfl | rfl <;> omega) 3 (by simp)
 have hc : countsOf k = some 3 := by
  unfold countsOf
  rcases hk with rfl | rfl <;> simp
 have hl : ([id, ofs, (bs.length : Int)].map putL).flatten.length = (putL id).length + (putL ofs).length + (putL (bs.length : Int)).length := by simp [Nat.add_assoc]
 have hd : (k :: (([id, ofs, (bs.length : Int)].map putL).flatten ++ (bs ++ r))).drop (1 + ([id, ofs, (bs.length : Int)].map putL).flatten.length) = bs ++ r := by
  rw [Nat.add_comm, List.drop_succ_cons, List.drop_left]
 rw [e]
 unfold frameS
 simp only [List.getD_cons_zero, hc]
 rw [h]
 simp only [List.take_succ_cons, List.take_zero, List.getD_cons_zero, List.getD_cons_succ]
 rw [if_neg (by simp only [List.length_cons, List.length_append, hl]; omega), hd]
 simp only [Int.toNat_natCast, List.take_left, Option.some.injEq, Prod.mk.injEq, true_and, hl, List.length_append, List.length_cons, List.length_nil]
 omega
end Go.Proofs.YthmdjhlhodpbhaaGreatDoor
