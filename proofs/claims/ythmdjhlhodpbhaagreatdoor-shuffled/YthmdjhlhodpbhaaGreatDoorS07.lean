/- Shuffled, 7 -/
import Derived.Test.YthmdjhlhodpbhaaGreatDoorS01
import Derived.Test.YthmdjhlhodpbhaaGreatDoorS02
import Derived.Test.YthmdjhlhodpbhaaGreatDoorS05
import Derived.Test.YthmdjhlhodpbhaaGreatDoorS06
set_option maxHeartbeats 16000000
set_option maxRecDepth 8000
namespace Go.Proofs.YthmdjhlhodpbhaaGreatDoor
open Go.RowKit
def dgC (d : DgS) (size : Int) (tv fv : Value) : Array Value := #[.int .i64 d.kind, .int .i64 size, .int .i64 d.cid, tv, .int .i64 d.num, fv]
def zeroDg : Array Value := #[.int .i64 0, .int .i64 0, .int .i64 0, .slice none 0 0, .int .i64 0, .slice none 0 0]
structure DgOut (w : World) (b : List Int) (x : DgS × Rd) (e : Ending) (w' : World) : Prop where
 bel : Below w.heap.size w w'
 bad : x.2.bad = true -> ∃ k c, e = .returned (.tuple #[.agg zeroDg, c]) /\ (k = 2 \/ k = 3) /\ NErr w' k c
 ok : x.2.bad = false -> ∃ tv fv, e = .returned (.tuple #[.agg (dgC x.1 b.length tv fv), .nilIface]) /\ RdB w' tv x.1.tok /\ RdB w' fv x.1.frames
theorem DgOut.drew {w : World} {b : List Int} {x : DgS × Rd} {e : Ending} {W : World} (h : DgOut w b x e W) : DgOut w b x e W.drew where
 bel := below_drewN h.bel 1
 bad := fun hb => by obtain ⟨k, c, e1, hk, hn⟩ := h.bad hb; exact ⟨k, c, e1, hk, hn.below (below_drewN (Below.refl _ W) 1)⟩
 ok := fun hb => by obtain ⟨tv, fv, e1, h1, h2⟩ := h.ok hb; exact ⟨tv, fv, e1, h1.below (below_drewN (Below.refl _ W) 1), h2.below (below_drewN (Below.refl _ W) 1)⟩
def dgramT (t : Int) (r0 : Rd) : DgS × Rd :=
 if t = 1 then (⟨t, r0.num.1, (r0.num.2.num.2.byt r0.num.2.num.1).1, 0, (r0.num.2.num.2.byt r0.num.2.num.1).2.rest⟩, (r0.num.2.num.2.byt r0.num.2.num.1).2)
 else if t = 2 then (⟨t, r0.num.1, [], r0.num.2.num.1, r0.num.2.num.2.rest⟩, r0.num.2.num.2)
 else (⟨t, 0, [], 0, r0.rest⟩, r0.fail)
theorem dgramR_T (b : List Int) : dgramR b = dgramT (Rd.kind ⟨b, false⟩).1 (Rd.kind ⟨b, false⟩).2 := rfl
theorem dgramT_rest (t : Int) (r0 : Rd) : (dgramT t r0).2.rest = (dgramT t r0).1.frames := by
 unfold dgramT
 split
 ·rfl
 ·split <;> rfl
theorem kind_range {b : List Int} (hb : Bytes b) : (0 <= (Rd.kind ⟨b, false⟩).1 /\ (Rd.kind ⟨b, false⟩).1 < 256) /\ Bytes (Rd.kind ⟨b, false⟩).2.rest := by
 by_cases hp : 0 < b.length
 ·rw [kind_some hp]
  exact ⟨getD_byte hb 0, hb.drop 1⟩
 ·have h0 : b = [] := List.length_eq_zero_iff.1 (by omega)
  subst h0
  have hk : Rd.kind ⟨[], false⟩ = (0, ⟨[], true⟩) := by simp [Rd.kind, Rd.byt]
  rw [hk]
  exact ⟨by simp, hb⟩
theorem wReadDatagram_any (b : List Int) (bv : Value) (w : World) (he : Env w) (h : RdB w bv b) :
  Calls Tryz.prog 45 #[bv] w fun e w' => DgOut w b (dgramR b) e w' := by
 obtain ⟨_, _, ao, cap, rfl, _⟩ := id h
 obtain ⟨bl, hbl⟩ : ∃ bl, b.length = bl := ⟨_, rfl⟩
 have HBl := hideIt hbl
 have hEn : ∀ W : World, Below w.heap.size w W -> Env W := fun W hW => he.below hW
 have hb2 : Below w.heap.size w ((w.alloc (.cells zeroDg 107)).alloc (.cells #[.slice ao b.length cap, .nilIface] 151)) := (below_alloc w _).alloc (by simp) _
 have HK := hideIt (wkind_any (w.heap.size + 1) (.slice ao b.length cap) .nilIface ⟨b, false⟩ ⟨#[107, 105, 110, 100]⟩ _ (hEn _ hb2) ⟨heap_alloc2_new w _ _, h.below hb2, fun _ => rfl, fun h => (by cases h)⟩)
 obtain ⟨hty, hb0⟩ := kind_range h.1
 have HNum : Hid (∀ (W : World) (fb : Nat) (r : Rd) (fc : Array Value) (s : ByteArray), FrAt 107 zeroDg w fb r fc W -> Calls Tryz.prog 84 #[.pointer (some ⟨w.heap.size + 1, 0, none⟩), .string s] W fun e w' => e = .returned (.int .i64 r.num.1) /\ FrAt 107 zeroDg w fb r.num.2 fc w') := by
  intro W fb r fc s hW
  obtain ⟨rv, ev, h1⟩ := hW.rd
  refine (wnumber_any _ rv ev r s W (hEn W hW.bel) h1).mono ?_
  rintro e w' ⟨rfl, ho⟩
  exact ⟨rfl, hW.step ho⟩
 have HByt : Hid (∀ (W : World) (fb : Nat) (r : Rd) (fc : Array Value) (s : ByteArray) (c : Int), FrAt 107 zeroDg w fb r fc W -> 0 <= c /\ c <= 1073741823 -> Calls Tryz.prog 85 #[.pointer (some ⟨w.heap.size + 1, 0, none⟩), .string s, .int .i64 c] W fun e w' => (∃ bv, e = .returned bv /\ RdB w' bv (r.byt c).1) /\ FrAt 107 zeroDg w fb (r.byt c).2 fc w') := by
  intro W fb r fc s c hW hc
  obtain ⟨rv, ev, h1⟩ := hW.rd
  refine (wbytes_any _ rv ev r s c W (hEn W hW.bel) h1 hc.1 hc.2).mono ?_
  rintro e w' ⟨h2, ho⟩
  exact ⟨h2, hW.step ho⟩
 have HUnk : Hid (∀ (W : World) (fb : Nat) (r : Rd) (fc : Array Value) (s : ByteArray) (c : Int), FrAt 107 zeroDg w fb r fc W -> 0 <= c /\ c <= 1073741823 -> Calls Tryz.prog 86 #[.pointer (some ⟨w.heap.size + 1, 0, none⟩), .string s, .int .i64 c] W fun e w' => e = .returned (.tuple #[]) /\ FrAt 107 zeroDg w fb r.fail fc w') := by
  intro W fb r fc s c hW hc
  obtain ⟨rv, ev, h1⟩ := hW.rd
  refine (wunknown_any _ rv ev r s c W (hEn W hW.bel) h1 hc.1 (by omega)).mono ?_
  rintro e w' ⟨rfl, ho⟩
  exact ⟨rfl, hW.step ho⟩
 have HFT := hideIt (dgramR_T b)
 have HRs0 : Hid ((dgramR b).2.rest = (dgramR b).1.frames) := by
  show _ = _
  rw [dgramR_T]
  exact dgramT_rest _ _
 have HR0 : Hid (((w.alloc (.cells zeroDg 107)).alloc (.cells #[.slice ao b.length cap, .nilIface] 151)).heap[w.heap.size]? = some (.cells zeroDg 107 (0, 0))) := heap_alloc2_old w _ _
 have HB2 := hideIt hb2
 rw [hbl] at HK HR0 HB2 ⊢
 obtain ⟨x, hx⟩ : ∃ x, dgramR b = x := ⟨_, rfl⟩
 rw [hx] at HFT HRs0 ⊢
 clear h he hb2 hbl hx hEn
 generalize (Rd.kind ⟨b, false⟩).1 = t at HK HFT hty
 generalize (Rd.kind ⟨b, false⟩).2 = r0 at HK HFT hb0
 have hb1 := num_rest hb0
 have g1 := num_range hb0
 have g2 := num_range hb1
 have HG := hideIt (And.intro g1 g2)
 clear g1 g2 hb0 hb1
 unfold zeroDg at HK HR0 HB2
 go_enter Tryz.func45, Tryz.ntmps45
 go_wp2_with fail
 refine HK.out.mono ?_
 rintro e w1 ⟨rfl, rv1, ev1, h1, hc1⟩
 have HS2 : Hid (FrAt 107 zeroDg w w1.heap.size r0 #[.int .i64 t, .int .i64 bl, .int .i64 0, .slice none 0 0, .int .i64 0, .slice none 0 0] (w1.alloc (.cells #[.int .i64 t, .int .i64 bl, .int .i64 0, .slice none 0 0, .int .i64 0, .slice none 0 0] 107))) := by
  have hsz : w.heap.size + 1 < w1.heap.size := by have := hc1.size; simp at this; omega
  refine ⟨below_join (below_of_chg HB2.out hc1 (by omega)) (below_alloc _ _), ?_, ⟨rv1, ev1, h1.below (below_alloc _ _)⟩, heap_alloc_new w1 _, hsz⟩
  rw [Below.heap_alloc _ _ _ (by omega), hc1.block _ (by simp; omega) (show w.heap.size ≠ w.heap.size + 1 from by omega)]
  exact HR0.out
 clear h1 hc1 HK HR0 HB2
 go_upto_block 0 with fail
 go_cut [5] from 12 to 29 (fun s5 wx => s5 = .pointer (some ⟨w1.heap.size, 0, none⟩) /\ ∃ tv, FrAt 107 zeroDg w w1.heap.size x.2 (dgC x.1 bl tv (.slice none 0 0)) wx /\ RdB wx tv x.1.tok)
 case first =>
  by_cases t1 : t = 1
  ·subst t1
   go_wp2_with fail
   refine (HNum.out _ _ _ _ _ HS2.out).mono ?_
   rintro e w2 ⟨rfl, h2⟩
   have x2 : w2.cell? ⟨w1.heap.size, 2, none⟩ = some (.int .i64 0) := h2.cell 2
   have z2 := h2.free 2
   have H2 := hideIt (h2.setF (by decide) (by decide) 2 (.int .i64 r0.num.1))
   clear h2
   go_wp2_with fail
   refine (HNum.out _ _ _ _ _ H2.out).mono ?_
   rintro e w3 ⟨rfl, h3⟩
   have H3 := hideIt h3
   clear h3
   go_wp2_with fail
   refine (HByt.out _ _ _ _ _ _ H3.out HG.out.2).mono ?_
   rintro e w4 ⟨⟨pv, rfl, hpv⟩, h4⟩
   have x4 : w4.cell? ⟨w1.heap.size, 3, none⟩ = some (.slice none 0 0) := h4.cell 3
   have z4 := h4.free 3
   obtain ⟨_, hpl, pa, pc, rfl, _⟩ := id hpv
   have H4 := hideIt (h4.setF (by decide) (by decide) 3 (.slice pa (r0.num.2.num.2.byt r0.num.2.num.1).1.length pc))
   have HPv := hideIt (hpv.chg (chg_set (cb := w1.heap.size) (Below.refl _ w4) 3 (.slice pa (r0.num.2.num.2.byt r0.num.2.num.1).1.length pc)) fun k cur fr hk e => by subst e; rw [h4.frm] at hk; simp only [Option.some.injEq, Obj.cells.injEq] at hk; exact absurd hk.2.1 (by decide))
   clear hpv h4
   go_wp2_with fail
   go_meet
   refine ⟨rfl, .slice pa (r0.num.2.num.2.byt r0.num.2.num.1).1.length pc, ?_, ?_⟩
   ·rw [HFT.out]; exact H4.out
   ·rw [HFT.out]; exact HPv.out
  by_cases t2 : t = 2
  ·subst t2
   go_wp2_with fail
   refine (HNum.out _ _ _ _ _ HS2.out).mono ?_
   rintro e w2 ⟨rfl, h2⟩
   have x2 : w2.cell? ⟨w1.heap.size, 2, none⟩ = some (.int .i64 0) := h2.cell 2
   have z2 := h2.free 2
   have H2 := hideIt (h2.setF (by decide) (by decide) 2 (.int .i64 r0.num.1))
   clear h2
   go_wp2_with fail
   refine (HNum.out _ _ _ _ _ H2.out).mono ?_
   rintro e w3 ⟨rfl, h3⟩
   have x3 : w3.cell? ⟨w1.heap.size, 4, none⟩ = some (.int .i64 0) := h3.cell 4
   have z3 := h3.free 4
   have H3 := hideIt (h3.setF (by decide) (by decide) 4 (.int .i64 r0.num.2.num.1))
   clear h3
   go_wp2_with fail
   go_meet
   refine ⟨rfl, .slice none 0 0, ?_, ?_⟩
   ·rw [HFT.out]; exact H3.out
   ·rw [HFT.out]; exact RdB.nil _
  have HT8 : Hid (dgramT t r0 = (⟨t, 0, [], 0, r0.rest⟩, r0.fail)) := by
   show _ = _
   unfold dgramT
   rw [if_neg t1, if_neg t2]
  have b1 : (t == 1) = false := beq_eq_false_iff_ne.2 t1
  have b2 : (t == 2) = false := beq_eq_false_iff_ne.2 t2
  clear t1 t2
  go_wp2_with fail
  refine (HUnk.out _ _ _ _ _ _ HS2.out (by omega)).mono ?_
  rintro e w2 ⟨rfl, h2⟩
  have H2 := hideIt h2
  clear h2
  go_wp2_with fail
  go_meet
  refine ⟨rfl, .slice none 0 0, ?_, ?_⟩
  ·rw [HFT.out, HT8.out]; exact H2.out
  ·rw [HFT.out, HT8.out]; exact RdB.nil _
 case rest =>
  obtain ⟨rfl, tv, hfr, hpv⟩ := hcut
  obtain ⟨rv2, ev2, hrd⟩ := hfr.rd
  have k0 : wc.cell? ⟨w.heap.size, 0, none⟩ = some (.int .i64 0) := (by simp only [World.cell?, hfr.res]; rfl)
  have j0 : wc.frozen? ⟨w.heap.size, 0, none⟩ = false := frozen_of_row wc _ _ _ _ hfr.res
  have k1 : wc.cell? ⟨w.heap.size, 1, none⟩ = some (.int .i64 0) := (by simp only [World.cell?, hfr.res]; rfl)
  have j1 : wc.frozen? ⟨w.heap.size, 1, none⟩ = false := frozen_of_row wc _ _ _ _ hfr.res
  have k2 : wc.cell? ⟨w.heap.size, 2, none⟩ = some (.int .i64 0) := (by simp only [World.cell?, hfr.res]; rfl)
  have j2 : wc.frozen? ⟨w.heap.size, 2, none⟩ = false := frozen_of_row wc _ _ _ _ hfr.res
  have k3 : wc.cell? ⟨w.heap.size, 3, none⟩ = some (.slice none 0 0) := (by simp only [World.cell?, hfr.res]; rfl)
  have j3 : wc.frozen? ⟨w.heap.size, 3, none⟩ = false := frozen_of_row wc _ _ _ _ hfr.res
  have k4 : wc.cell? ⟨w.heap.size, 4, none⟩ = some (.int .i64 0) := (by simp only [World.cell?, hfr.res]; rfl)
  have j4 : wc.frozen? ⟨w.heap.size, 4, none⟩ = false := frozen_of_row wc _ _ _ _ hfr.res
  have k5 : wc.cell? ⟨w.heap.size, 5, none⟩ = some (.slice none 0 0) := (by simp only [World.cell?, hfr.res]; rfl)
  have j5 : wc.frozen? ⟨w.heap.size, 5, none⟩ = false := frozen_of_row wc _ _ _ _ hfr.res
  have hsz : w.heap.size + 1 < wc.heap.size := Nat.lt_trans hfr.ne (Array.getElem?_eq_some_iff.1 hfr.frm).1
  have hn1 : w.heap.size ≠ wc.heap.size := by omega
  have hn2 : w.heap.size + 1 ≠ wc.heap.size := by omega
  have hn3 := hfr.ne
  have HFr := hideIt hfr
  have HPv := hideIt hpv
  have HRd := hideIt hrd
  have y1 := hrd.c1
  have y0 := hrd.c0
  clear hfr hpv hrd
  clear HNum HByt HUnk HS2 HFT HG
  cases hb : x.2.bad with
  | true =>
   obtain ⟨a2, rfl⟩ := HRd.out.errForm hb
   have HB := hideIt hb
   clear hb
   have ka0 := fun (o : Obj) => cell_below k0 (below_alloc wc o)
   have ja0 : ∀ o : Obj, (wc.alloc o).frozen? ⟨w.heap.size, 0, none⟩ = false := fun o => by rw [World.frozen?_alloc_old _ _ ⟨w.heap.size, 0, none⟩ hn1]; exact j0
   have ka1 := fun (o : Obj) => cell_below k1 (below_alloc wc o)
   have ja1 : ∀ o : Obj, (wc.alloc o).frozen? ⟨w.heap.size, 1, none⟩ = false := fun o => by rw [World.frozen?_alloc_old _ _ ⟨w.heap.size, 1, none⟩ hn1]; exact j1
   have ka2 := fun (o : Obj) => cell_below k2 (below_alloc wc o)
   have ja2 : ∀ o : Obj, (wc.alloc o).frozen? ⟨w.heap.size, 2, none⟩ = false := fun o => by rw [World.frozen?_alloc_old _ _ ⟨w.heap.size, 2, none⟩ hn1]; exact j2
   have ka3 := fun (o : Obj) => cell_below k3 (below_alloc wc o)
   have ja3 : ∀ o : Obj, (wc.alloc o).frozen? ⟨w.heap.size, 3, none⟩ = false := fun o => by rw [World.frozen?_alloc_old _ _ ⟨w.heap.size, 3, none⟩ hn1]; exact j3
   have ka4 := fun (o : Obj) => cell_below k4 (below_alloc wc o)
   have ja4 : ∀ o : Obj, (wc.alloc o).frozen? ⟨w.heap.size, 4, none⟩ = false := fun o => by rw [World.frozen?_alloc_old _ _ ⟨w.heap.size, 4, none⟩ hn1]; exact j4
   have ka5 := fun (o : Obj) => cell_below k5 (below_alloc wc o)
   have ja5 : ∀ o : Obj, (wc.alloc o).frozen? ⟨w.heap.size, 5, none⟩ = false := fun o => by rw [World.frozen?_alloc_old _ _ ⟨w.heap.size, 5, none⟩ hn1]; exact j5
   have HAl0 : Below wc.heap.size wc (wc.alloc (.cells #[.string ⟨#[100, 97, 116, 97, 103, 114, 97, 109]⟩, .iface 155 (.pointer (some ⟨a2, 0, none⟩))] 157)) := below_alloc wc _
   have HR1 : (wc.alloc (.cells #[.string ⟨#[100, 97, 116, 97, 103, 114, 97, 109]⟩, .iface 155 (.pointer (some ⟨a2, 0, none⟩))] 157)).heap[w.heap.size]? = some (.cells #[.int .i64 0, .int .i64 0, .int .i64 0, .slice none 0 0, .int .i64 0, .slice none 0 0] 107 (0, 0)) := by
    rw [HAl0.block _ (by omega)]
    exact HFr.out.res
   have HRs : Hid ((((((((wc.alloc (.cells #[.string ⟨#[100, 97, 116, 97, 103, 114, 97, 109]⟩, .iface 155 (.pointer (some ⟨a2, 0, none⟩))] 157)).setCell ⟨w.heap.size, 0, none⟩ (.int .i64 0)).setCell ⟨w.heap.size, 1, none⟩ (.int .i64 0)).setCell ⟨w.heap.size, 2, none⟩ (.int .i64 0)).setCell ⟨w.heap.size, 3, none⟩ (.slice none 0 0)).setCell ⟨w.heap.size, 4, none⟩ (.int .i64 0)).setCell ⟨w.heap.size, 5, none⟩ (.slice none 0 0)).heap[w.heap.size]? = some (.cells zeroDg 107 (0, 0))) := (block_set (block_set (block_set (block_set (block_set (block_set HR1 0 (.int .i64 0)) 1 (.int .i64 0)) 2 (.int .i64 0)) 3 (.slice none 0 0)) 4 (.int .i64 0)) 5 (.slice none 0 0))
   have HCs : Hid (Chg (· = w.heap.size) (wc.alloc (.cells #[.string ⟨#[100, 97, 116, 97, 103, 114, 97, 109]⟩, .iface 155 (.pointer (some ⟨a2, 0, none⟩))] 157)) (((((((wc.alloc (.cells #[.string ⟨#[100, 97, 116, 97, 103, 114, 97, 109]⟩, .iface 155 (.pointer (some ⟨a2, 0, none⟩))] 157)).setCell ⟨w.heap.size, 0, none⟩ (.int .i64 0)).setCell ⟨w.heap.size, 1, none⟩ (.int .i64 0)).setCell ⟨w.heap.size, 2, none⟩ (.int .i64 0)).setCell ⟨w.heap.size, 3, none⟩ (.slice none 0 0)).setCell ⟨w.heap.size, 4, none⟩ (.int .i64 0)).setCell ⟨w.heap.size, 5, none⟩ (.slice none 0 0))) := ((((((chg_set (cb := w.heap.size) (Below.refl _ _) 0 (.int .i64 0)).trans (chg_set (cb := w.heap.size) (Below.refl _ _) 1 (.int .i64 0))).trans (chg_set (cb := w.heap.size) (Below.refl _ _) 2 (.int .i64 0))).trans (chg_set (cb := w.heap.size) (Below.refl _ _) 3 (.slice none 0 0))).trans (chg_set (cb := w.heap.size) (Below.refl _ _) 4 (.int .i64 0))).trans (chg_set (cb := w.heap.size) (Below.refl _ _) 5 (.slice none 0 0)))
   have HAl : Hid (Below wc.heap.size wc (wc.alloc (.cells #[.string ⟨#[100, 97, 116, 97, 103, 114, 97, 109]⟩, .iface 155 (.pointer (some ⟨a2, 0, none⟩))] 157))) := below_alloc wc _
   clear HAl0 HR1
   have HNw : Hid ((wc.alloc (.cells #[.string ⟨#[100, 97, 116, 97, 103, 114, 97, 109]⟩, .iface 155 (.pointer (some ⟨a2, 0, none⟩))] 157)).heap[wc.heap.size]? = some (.cells #[.string ⟨#[100, 97, 116, 97, 103, 114, 97, 109]⟩, .iface 155 (.pointer (some ⟨a2, 0, none⟩))] 157 (0, 0))) := heap_alloc_new wc _
   have HRy0 : wc.heap[w.heap.size]? = some (.cells #[.int .i64 0, .int .i64 0, .int .i64 0, .slice none 0 0, .int .i64 0, .slice none 0 0] 107 (0, 0)) := HFr.out.res
   have HRy : Hid (((((((wc.setCell ⟨w.heap.size, 0, none⟩ (.int .i64 0)).setCell ⟨w.heap.size, 1, none⟩ (.int .i64 0)).setCell ⟨w.heap.size, 2, none⟩ (.int .i64 0)).setCell ⟨w.heap.size, 3, none⟩ (.slice none 0 0)).setCell ⟨w.heap.size, 4, none⟩ (.int .i64 0)).setCell ⟨w.heap.size, 5, none⟩ (.slice none 0 0)).heap[w.heap.size]? = some (.cells zeroDg 107 (0, 0))) := (block_set (block_set (block_set (block_set (block_set (block_set HRy0 0 (.int .i64 0)) 1 (.int .i64 0)) 2 (.int .i64 0)) 3 (.slice none 0 0)) 4 (.int .i64 0)) 5 (.slice none 0 0))
   have HCy : Hid (Chg (· = w.heap.size) wc ((((((wc.setCell ⟨w.heap.size, 0, none⟩ (.int .i64 0)).setCell ⟨w.heap.size, 1, none⟩ (.int .i64 0)).setCell ⟨w.heap.size, 2, none⟩ (.int .i64 0)).setCell ⟨w.heap.size, 3, none⟩ (.slice none 0 0)).setCell ⟨w.heap.size, 4, none⟩ (.int .i64 0)).setCell ⟨w.heap.size, 5, none⟩ (.slice none 0 0))) := ((((((chg_set (cb := w.heap.size) (Below.refl _ _) 0 (.int .i64 0)).trans (chg_set (cb := w.heap.size) (Below.refl _ _) 1 (.int .i64 0))).trans (chg_set (cb := w.heap.size) (Below.refl _ _) 2 (.int .i64 0))).trans (chg_set (cb := w.heap.size) (Below.refl _ _) 3 (.slice none 0 0))).trans (chg_set (cb := w.heap.size) (Below.refl _ _) 4 (.int .i64 0))).trans (chg_set (cb := w.heap.size) (Below.refl _ _) 5 (.slice none 0 0)))
   have HYs : Hid (((((((wc.setCell ⟨w.heap.size, 0, none⟩ (.int .i64 0)).setCell ⟨w.heap.size, 1, none⟩ (.int .i64 0)).setCell ⟨w.heap.size, 2, none⟩ (.int .i64 0)).setCell ⟨w.heap.size, 3, none⟩ (.slice none 0 0)).setCell ⟨w.heap.size, 4, none⟩ (.int .i64 0)).setCell ⟨w.heap.size, 5, none⟩ (.slice none 0 0)).heap.size = wc.heap.size) := by
    show _ = _
    simp only [World.size_setCell]
   have HYw : Hid ((((((((wc.setCell ⟨w.heap.size, 0, none⟩ (.int .i64 0)).setCell ⟨w.heap.size, 1, none⟩ (.int .i64 0)).setCell ⟨w.heap.size, 2, none⟩ (.int .i64 0)).setCell ⟨w.heap.size, 3, none⟩ (.slice none 0 0)).setCell ⟨w.heap.size, 4, none⟩ (.int .i64 0)).setCell ⟨w.heap.size, 5, none⟩ (.slice none 0 0)).alloc (.cells #[.string ⟨#[100, 97, 116, 97, 103, 114, 97, 109]⟩, .iface 155 (.pointer (some ⟨a2, 0, none⟩))] 157)).heap[wc.heap.size]? = some (.cells #[.string ⟨#[100, 97, 116, 97, 103, 114, 97, 109]⟩, .iface 155 (.pointer (some ⟨a2, 0, none⟩))] 157 (0, 0))) := by
    show _ = _
    have := heap_alloc_new ((((((wc.setCell ⟨w.heap.size, 0, none⟩ (.int .i64 0)).setCell ⟨w.heap.size, 1, none⟩ (.int .i64 0)).setCell ⟨w.heap.size, 2, none⟩ (.int .i64 0)).setCell ⟨w.heap.size, 3, none⟩ (.slice none 0 0)).setCell ⟨w.heap.size, 4, none⟩ (.int .i64 0)).setCell ⟨w.heap.size, 5, none⟩ (.slice none 0 0)) (.cells #[.string ⟨#[100, 97, 116, 97, 103, 114, 97, 109]⟩, .iface 155 (.pointer (some ⟨a2, 0, none⟩))] 157)
    rw [HYs.out] at this
    exact this
   have HYr : Hid ((((((((wc.setCell ⟨w.heap.size, 0, none⟩ (.int .i64 0)).setCell ⟨w.heap.size, 1, none⟩ (.int .i64 0)).setCell ⟨w.heap.size, 2, none⟩ (.int .i64 0)).setCell ⟨w.heap.size, 3, none⟩ (.slice none 0 0)).setCell ⟨w.heap.size, 4, none⟩ (.int .i64 0)).setCell ⟨w.heap.size, 5, none⟩ (.slice none 0 0)).alloc (.cells #[.string ⟨#[100, 97, 116, 97, 103, 114, 97, 109]⟩, .iface 155 (.pointer (some ⟨a2, 0, none⟩))] 157)).heap[w.heap.size]? = some (.cells zeroDg 107 (0, 0))) := by
    show _ = _
    rw [Below.heap_alloc _ _ _ (by rw [HYs.out]; omega)]
    exact HRy.out
   clear HRy0 y0
   go_wp2_with fail
   go_region
   all_goals go_wp2_with fail
   ·refine bodyPost_ret (v := (.tuple #[.agg zeroDg, .iface 155 (.pointer (some ⟨wc.heap.size, 0, none⟩))])) ?g1 rfl ?g3
    case g1 =>
     refine results_cell_row2' (P := Tryz.prog) Tryz.results45 _ _ w.heap.size 107 _ (0, 0) _ _ (by kernel_rfl) (by kernel_rfl) ?gd Tryz.underlying107 rfl (by kernel_rfl)
     rw [heap_drew]
     exact HRs.out
    obtain ⟨k, hk, hn⟩ := HRd.out.no HB.out
    refine DgOut.drew ⟨below_of_chg (below_join HFr.out.bel HAl.out) HCs.out (Nat.le_refl _), fun _ => ⟨k + 1, _, rfl, by omega, ?_⟩, fun h => by rw [HB.out] at h; cases h⟩
    have hF : ∀ q cur fr, (wc.alloc (.cells #[.string ⟨#[100, 97, 116, 97, 103, 114, 97, 109]⟩, .iface 155 (.pointer (some ⟨a2, 0, none⟩))] 157)).heap[q]? = some (.cells cur 157 fr) -> ¬ q = w.heap.size := by
     intro q cur fr hq e
     subst e
     rw [HAl.out.block _ (by omega), HFr.out.res] at hq
     simp only [Option.some.injEq, Obj.cells.injEq] at hq
     exact absurd hq.2.1 (by decide)
    exact NErr.chg HCs.out hF (k := k + 1) ⟨wc.heap.size, _, _, rfl, HNw.out, hn.below HAl.out⟩
   ·refine bodyPost_ret (v := (.tuple #[.agg zeroDg, .iface 155 (.pointer (some ⟨wc.heap.size, 0, none⟩))])) ?q1 rfl ?q3
    case q1 =>
     refine results_cell_row2' (P := Tryz.prog) Tryz.results45 _ _ w.heap.size 107 _ (0, 0) _ _ (by kernel_rfl) (by kernel_rfl) ?qd Tryz.underlying107 rfl (by kernel_rfl)
     rw [heap_drew]
     exact HYr.out
    obtain ⟨k, hk, hn⟩ := HRd.out.no HB.out
    refine DgOut.drew ⟨below_join (below_of_chg HFr.out.bel HCy.out (Nat.le_refl _)) (below_alloc _ _), fun _ => ⟨k + 1, _, rfl, by omega, ?_⟩, fun h => by rw [HB.out] at h; cases h⟩
    refine ⟨wc.heap.size, _, _, rfl, HYw.out, (hn.chg HCy.out fun q cur fr hq e => ?_).below (below_alloc _ _)⟩
    subst e
    rw [HFr.out.res] at hq
    simp only [Option.some.injEq, Obj.cells.injEq] at hq
    exact absurd hq.2.1 (by decide)
  | false =>
   have hev := HRd.out.ok hb
   subst hev
   have HB := hideIt hb
   clear hb k0 k1 k2 k3 k4 k5 j0 j1 j2 j3 j4 j5
   obtain ⟨_, _, ra, rc, rfl, _⟩ := id HRd.out.rd
   obtain ⟨_, _, pa, pc, rfl, _⟩ := id HPv.out
   obtain ⟨rl, hrl⟩ : ∃ rl, x.2.rest.length = rl := ⟨_, rfl⟩
   obtain ⟨pl, hpl⟩ : ∃ pl, x.1.tok.length = pl := ⟨_, rfl⟩
   rw [hrl] at y0 HRd
   rw [hpl] at HFr HPv
   have HRd2 := hideIt HRd.out.rd
   have n5 : wc.cell? ⟨w1.heap.size, 5, none⟩ = some (.slice none 0 0) := HFr.out.cell 5
   have v5 := HFr.out.free 5
   have HF5 := hideIt (HFr.out.setF (by decide) (by decide) 5 (.slice ra rl rc))
   have hkp : ∀ u l, RdB wc u l -> RdB (wc.setCell ⟨w1.heap.size, 5, none⟩ (.slice ra rl rc)) u l := by
    intro u l hu
    refine hu.chg (chg_set (cb := w1.heap.size) (Below.refl _ wc) 5 (.slice ra rl rc)) fun k cur fr hk e => ?_
    subst e
    rw [HFr.out.frm] at hk
    simp only [Option.some.injEq, Obj.cells.injEq] at hk
    exact absurd hk.2.1 (by decide)
   have HP5 := hideIt (hkp _ _ HPv.out)
   have HR5 := hideIt (hkp _ _ HRd2.out)
   clear hkp hrl hpl
   generalize hW5 : wc.setCell ⟨w1.heap.size, 5, none⟩ (.slice ra rl rc) = W5 at HF5 HP5 HR5
   have hW5s := hideIt hW5
   have m0 : W5.cell? ⟨w1.heap.size, 0, none⟩ = some (.int .i64 x.1.kind) := HF5.out.cell 0
   have m1 : W5.cell? ⟨w1.heap.size, 1, none⟩ = some (.int .i64 bl) := HF5.out.cell 1
   have m2 : W5.cell? ⟨w1.heap.size, 2, none⟩ = some (.int .i64 x.1.cid) := HF5.out.cell 2
   have m3 : W5.cell? ⟨w1.heap.size, 3, none⟩ = some (.slice pa pl pc) := HF5.out.cell 3
   have m4 : W5.cell? ⟨w1.heap.size, 4, none⟩ = some (.int .i64 x.1.num) := HF5.out.cell 4
   have m5 : W5.cell? ⟨w1.heap.size, 5, none⟩ = some (.slice ra rl rc) := HF5.out.cell 5
   have k0 : W5.cell? ⟨w.heap.size, 0, none⟩ = some (.int .i64 0) := (by simp only [World.cell?, HF5.out.res]; rfl)
   have j0 : W5.frozen? ⟨w.heap.size, 0, none⟩ = false := frozen_of_row W5 _ _ _ _ HF5.out.res
   have k1 : W5.cell? ⟨w.heap.size, 1, none⟩ = some (.int .i64 0) := (by simp only [World.cell?, HF5.out.res]; rfl)
   have j1 : W5.frozen? ⟨w.heap.size, 1, none⟩ = false := frozen_of_row W5 _ _ _ _ HF5.out.res
   have k2 : W5.cell? ⟨w.heap.size, 2, none⟩ = some (.int .i64 0) := (by simp only [World.cell?, HF5.out.res]; rfl)
   have j2 : W5.frozen? ⟨w.heap.size, 2, none⟩ = false := frozen_of_row W5 _ _ _ _ HF5.out.res
   have k3 : W5.cell? ⟨w.heap.size, 3, none⟩ = some (.slice none 0 0) := (by simp only [World.cell?, HF5.out.res]; rfl)
   have j3 : W5.frozen? ⟨w.heap.size, 3, none⟩ = false := frozen_of_row W5 _ _ _ _ HF5.out.res
   have k4 : W5.cell? ⟨w.heap.size, 4, none⟩ = some (.int .i64 0) := (by simp only [World.cell?, HF5.out.res]; rfl)
   have j4 : W5.frozen? ⟨w.heap.size, 4, none⟩ = false := frozen_of_row W5 _ _ _ _ HF5.out.res
   have k5 : W5.cell? ⟨w.heap.size, 5, none⟩ = some (.slice none 0 0) := (by simp only [World.cell?, HF5.out.res]; rfl)
   have j5 : W5.frozen? ⟨w.heap.size, 5, none⟩ = false := frozen_of_row W5 _ _ _ _ HF5.out.res
   have HRs : Hid (((((((W5.setCell ⟨w.heap.size, 0, none⟩ (.int .i64 x.1.kind)).setCell ⟨w.heap.size, 1, none⟩ (.int .i64 bl)).setCell ⟨w.heap.size, 2, none⟩ (.int .i64 x.1.cid)).setCell ⟨w.heap.size, 3, none⟩ (.slice pa pl pc)).setCell ⟨w.heap.size, 4, none⟩ (.int .i64 x.1.num)).setCell ⟨w.heap.size, 5, none⟩ (.slice ra rl rc)).heap[w.heap.size]? = some (.cells (dgC x.1 bl (.slice pa pl pc) (.slice ra rl rc)) 107 (0, 0))) := (block_set (block_set (block_set (block_set (block_set (block_set HF5.out.res 0 (.int .i64 x.1.kind)) 1 (.int .i64 bl)) 2 (.int .i64 x.1.cid)) 3 (.slice pa pl pc)) 4 (.int .i64 x.1.num)) 5 (.slice ra rl rc))
   have HCs : Hid (Chg (· = w.heap.size) W5 ((((((W5.setCell ⟨w.heap.size, 0, none⟩ (.int .i64 x.1.kind)).setCell ⟨w.heap.size, 1, none⟩ (.int .i64 bl)).setCell ⟨w.heap.size, 2, none⟩ (.int .i64 x.1.cid)).setCell ⟨w.heap.size, 3, none⟩ (.slice pa pl pc)).setCell ⟨w.heap.size, 4, none⟩ (.int .i64 x.1.num)).setCell ⟨w.heap.size, 5, none⟩ (.slice ra rl rc))) := ((((((chg_set (cb := w.heap.size) (Below.refl _ _) 0 (.int .i64 x.1.kind)).trans (chg_set (cb := w.heap.size) (Below.refl _ _) 1 (.int .i64 bl))).trans (chg_set (cb := w.heap.size) (Below.refl _ _) 2 (.int .i64 x.1.cid))).trans (chg_set (cb := w.heap.size) (Below.refl _ _) 3 (.slice pa pl pc))).trans (chg_set (cb := w.heap.size) (Below.refl _ _) 4 (.int .i64 x.1.num))).trans (chg_set (cb := w.heap.size) (Below.refl _ _) 5 (.slice ra rl rc)))
   go_wp2_with fail
   refine bodyPost_ret (v := (.tuple #[.agg (dgC x.1 bl (.slice pa pl pc) (.slice ra rl rc)), .nilIface])) ?h1 rfl ?h3
   case h1 =>
    refine results_cell_row2' (P := Tryz.prog) Tryz.results45 _ _ w.heap.size 107 _ (0, 0) _ _ (by kernel_rfl) (by kernel_rfl) ?d Tryz.underlying107 rfl (by kernel_rfl)
    exact HRs.out
   have hF : ∀ q cur fr, W5.heap[q]? = some (.cells cur 5 fr) -> ¬ q = w.heap.size := by
    intro q cur fr hq e
    subst e
    rw [HF5.out.res] at hq
    simp only [Option.some.injEq, Obj.cells.injEq] at hq
    exact absurd hq.2.1 (by decide)
   refine ⟨below_of_chg HF5.out.bel HCs.out (Nat.le_refl _), fun h => (by rw [HB.out] at h; cases h), fun _ => ⟨_, _, by rw [HBl.out], HP5.out.chg HCs.out hF, ?_⟩⟩
   rw [<- HRs0.out]
   exact HR5.out.chg HCs.out hF
theorem getD_range {ns : List Int} (h : ∀ n ∈ ns, 0 <= n /\ n < 1073741824) (k : Nat) : 0 <= ns.getD k 0 /\ ns.getD k 0 <= 1073741823 := by
 rcases Nat.lt_or_ge k ns.length with h1 | h1
 ·have := h _ (List.getElem_mem h1)
  simp only [List.getD, List.getElem?_eq_getElem h1, Option.getD_some]
  omega
 ·simp [List.getD, List.getElem?_eq_none h1]
theorem counts_type {t : Int} {c : Nat} (h : countsOf t = some c) : (t = 0 \/ t = 1 \/ t = 3 \/ t = 4 \/ t = 5 \/ t = 6 \/ t = 7) := by
 unfold countsOf at h
 repeat' split at h
 all_goals first | omega | (simp at h)
theorem frameS_ok {b : List Int} (hb : Bytes b) (hp : 0 < b.length) {f : FrmS} {size : Nat} (h : frameS b = some (f, size)) : FrmOk f /\ 0 < size /\ size <= b.length /\ f.bytes.length <= b.length := by
 unfold frameS at h
 cases hc : countsOf (b.getD 0 0) with
 | none => rw [hc] at h; cases h
 | some c =>
  rw [hc] at h
  simp only at h
  have ht := counts_type hc
  cases hn : numsTo b c with
  | none => rw [hn] at h; cases c <;> simp at h
  | some x =>
   obtain ⟨ns, a⟩ := x
   obtain ⟨h1, h2, h3, h4⟩ := numsTo_facts hb hp c hn
   rw [hn] at h
   have g0 := getD_range h4 0
   have g1 := getD_range h4 1
   have g2 := getD_range h4 2
   match c, h with
   | 0, h =>
    simp only [Option.some.injEq, Prod.mk.injEq] at h
    obtain ⟨rfl, rfl⟩ := h
    exact ⟨⟨ht, by simp, by simp⟩, by omega, h3, by simp⟩
   | 1, h =>
    simp only [Option.some.injEq, Prod.mk.injEq] at h
    obtain ⟨rfl, rfl⟩ := h
    exact ⟨⟨ht, by simp, by simp⟩, by omega, h3, by simp⟩
   | 2, h =>
    simp only [Option.some.injEq, Prod.mk.injEq] at h
    obtain ⟨rfl, rfl⟩ := h
    exact ⟨⟨ht, g0, g1⟩, by omega, h3, by simp⟩
   | k + 3, h =>
    simp only at h
    split at h
    ·cases h
    ·simp only [Option.some.injEq, Prod.mk.injEq] at h
     obtain ⟨rfl, rfl⟩ := h
     refine ⟨⟨ht, g0, g1⟩, by omega, by omega, ?_⟩
     simp only [List.length_take, List.length_drop]
     omega
theorem recvS_ok {gaps : Int} {x : StrS} {ofs : Int} {b : List Int} (hx : StrOk x) (h0 : 0 <= ofs) (h1 : ofs + b.length <= 1073741823) : StrOk (recvS gaps x ofs b).2 := by
 unfold recvS
 split
 ·exact hx
 ·next l hl =>
  split
  ·exact hx
  ·have := recvTo_len hl
   have h2 := hx.bytes
   have h3 := hx.read
   exact ⟨by simp only; omega, hx.read, hx.highest, hx.credit, hx.final⟩
theorem strDeal_ok {gaps credit high : Int} {f : FrmS} {x : StrS} (hf : FrmOk f) (hx : StrOk x) : StrOk (strDeal gaps credit high f x).2 := by
 have hp : ∀ r : StrS, StrOk r -> f.ofs + (f.bytes.length : Int) <= x.credit -> StrOk (passS f x r) := by
  intro r hr he
  have h1 := hx.credit
  have h2 := hx.highest
  have h3 := hf.ofs
  have hm : 0 <= x.highest + moreS x (f.ofs + f.bytes.length) /\ x.highest + moreS x (f.ofs + f.bytes.length) <= 1073741823 := by unfold moreS; split <;> omega
  have hfi : -1 <= (if f.type ≠ 3 then f.ofs + (f.bytes.length : Int) else r.final) /\ (if f.type ≠ 3 then f.ofs + (f.bytes.length : Int) else r.final) <= 1073741823 := by
   have := hr.final
   split <;> omega
  have hy : ∀ y : StrS, StrOk y -> StrOk (if f.type = 5 /\ allS y = false then { y with reset := true, bytes := [] } else y) := by
   intro y hy
   split
   ·exact ⟨by simp, hy.read, hy.highest, hy.credit, hy.final⟩
   ·exact hy
  exact hy _ ⟨hr.bytes, hr.read, hm, hr.credit, hfi⟩
 unfold strDeal
 simp only
 split
 ·exact hx
 ·split
  ·exact hx
  ·split
   ·exact hx
   ·next hov =>
    have hov' : ¬ x.credit < f.ofs + (f.bytes.length : Int) := by
     intro h
     apply hov
     unfold overS
     rw [decide_eq_true h]
     rfl
    have h1 := hx.credit
    split
    ·split
     ·exact hx
     ·exact hp _ (recvS_ok hx hf.ofs.1 (by omega)) (by omega)
    ·exact hp _ hx (by omega)
theorem strDeal_range {gaps credit high : Int} {f : FrmS} {x : StrS} : 0 <= (strDeal gaps credit high f x).1 /\ (strDeal gaps credit high f x).1 <= 10 := by
 have h1 : 0 <= (recvS gaps x f.ofs f.bytes).1 /\ (recvS gaps x f.ofs f.bytes).1 <= 10 := by
  unfold recvS
  split
  ·simp
  ·split <;> simp
 unfold strDeal
 simp only
 repeat' split
 all_goals first | (simp; done) | exact h1
end Go.Proofs.YthmdjhlhodpbhaaGreatDoor
namespace Go.Proofs.YthmdjhlhodpbhaaGreatDoor
theorem conDeal_ok {M gaps : Int} {f : FrmS} {c : ConS} (hf : FrmOk f) (hc : ConOk M c) : ConOk M (conDeal gaps f c).2 /\ (conDeal gaps f c).2.cid = c.cid /\ (conDeal gaps f c).2.proven = c.proven := by
 unfold conDeal
 split
 ·exact ⟨hc, rfl, rfl⟩
 ·next x hx =>
  refine ⟨⟨hc.cid, hc.addr, hc.got, hc.sent, hc.heard, hc.runs, hc.credit, by simpa using hc.slen, fun y hy => ?_⟩, rfl, rfl⟩
  simp only at hy
  rcases List.mem_or_eq_of_mem_set hy with h1 | h1
  ·exact hc.str y h1
  ·rw [h1]
   exact strDeal_ok hf (hc.str x (List.mem_of_getElem? hx))
theorem conDeal_range {gaps : Int} {f : FrmS} {c : ConS} : 0 <= (conDeal gaps f c).1 /\ (conDeal gaps f c).1 <= 10 := by
 unfold conDeal
 split
 ·simp
 ·exact strDeal_range
theorem map_set_cid {l : List ConS} {i : Nat} {c c' : ConS} (h : l[i]? = some c) (hc : c'.cid = c.cid) : (l.set i c').map (·.cid) = l.map (·.cid) := by
 rw [List.map_set, hc]
 exact set_self (by rw [List.getElem?_map, h]; rfl)
def readOf (x : StrS) : Int := if x.done && x.reset then x.final else x.read
def readAll (l : List StrS) : Int := (l.map readOf).sum
def Fol (g : Cfg) (c : ConS) : Prop := readAll c.streams + g.c1 / 2 <= c.credit \/ 1073741823 <= c.credit
structure ConInv (g : Cfg) (c : ConS) : Prop where
 str : ∀ x ∈ c.streams, StrInv g.c4 x
 high : highS c.streams <= c.credit
 runs : PWf c.runs
 fol : Fol g c
theorem readAll_set {l : List StrS} : ∀ {i : Nat} {x y : StrS}, l[i]? = some x -> readAll (l.set i y) = readAll l - readOf x + readOf y := by
 induction l with
 | nil => intro i x y h; simp at h
 | cons a t ih =>
  intro i x y h
  cases i with
  | zero =>
   simp only [List.getElem?_cons_zero, Option.some.injEq] at h
   subst h
   simp [readAll]
   omega
  | succ i =>
   have := ih (i := i) (x := x) (y := y) (by simpa using h)
   simp [readAll] at this ⊢
   omega
theorem readAll_new (piece : Int) : ∀ n, readAll (List.replicate n (strNew piece)) = 0
 | 0 => rfl
 | n + 1 => by
  have := readAll_new piece n
  simp [readAll, List.replicate_succ, readOf, strNew] at this ⊢
theorem passS_readOf {f : FrmS} {x r : StrS} (h : r.done = false) : readOf (passS f x r) = r.read := by
 have hp : (passS f x r).done = false /\ (passS f x r).read = r.read := by
  unfold passS
  simp only
  split <;> split <;> exact ⟨h, rfl⟩
 simp [readOf, hp.1, hp.2]
theorem strDeal_readOf {gaps credit high : Int} {f : FrmS} {x : StrS} : readOf (strDeal gaps credit high f x).2 = readOf x := by
 cases hd : x.done with
 | true =>
  unfold strDeal
  simp only [hd, if_true]
  split <;> rfl
 | false =>
  have hx : readOf x = x.read := by simp [readOf, hd]
  have hr : (recvS gaps x f.ofs f.bytes).2.done = false /\ (recvS gaps x f.ofs f.bytes).2.read = x.read := by
   unfold recvS
   split
   ·exact ⟨hd, rfl⟩
   ·split <;> exact ⟨hd, rfl⟩
  unfold strDeal
  simp only [hd, Bool.false_eq_true, if_false]
  split
  ·rfl
  ·split
   ·rfl
   ·split
    ·split
     ·rfl
     ·rw [passS_readOf hr.1, hr.2, hx]
    ·rw [passS_readOf hd, hx]
theorem highS_set {l : List StrS} : ∀ {i : Nat} {x y : StrS}, l[i]? = some x -> highS (l.set i y) = highS l - x.highest + y.highest := by
 induction l with
 | nil => intro i x y h; simp at h
 | cons a t ih =>
  intro i x y h
  cases i with
  | zero =>
   simp only [List.getElem?_cons_zero, Option.some.injEq] at h
   subst h
   simp [highS]
   omega
  | succ i =>
   have := ih (i := i) (x := x) (y := y) (by simpa using h)
   simp [highS] at this ⊢
   omega
theorem passS_high (f : FrmS) (x r : StrS) : (passS f x r).highest = x.highest + moreS x (f.ofs + f.bytes.length) := by
 unfold passS
 simp only
 split <;> split <;> rfl
theorem strDeal_high {gaps credit high : Int} {f : FrmS} {x : StrS} (hch : high <= credit) : high - x.highest + (strDeal gaps credit high f x).2.highest <= credit := by
 unfold strDeal
 simp only
 have hm : ∀ r : StrS, ¬ overS x (f.ofs + f.bytes.length) credit high = true -> high - x.highest + (passS f x r).highest <= credit := by
  intro r h
  rw [passS_high]
  unfold overS at h
  simp at h
  omega
 split
 ·simp only; omega
 ·split
  ·simp only; omega
  ·split
   ·simp only; omega
   ·next ho =>
    split
    ·split
     ·simp only; omega
     ·exact hm _ ho
    ·exact hm _ ho
theorem conDeal_inv {g : Cfg} {f : FrmS} {c : ConS} (hc : ConInv g c) (hb : Bytes f.bytes) (ho : 0 <= f.ofs) (hg : 0 <= g.c4) : ConInv g (conDeal g.c4 f c).2 := by
 unfold conDeal
 split
 ·exact hc
 ·next x hx =>
  refine ⟨fun y hy => ?_, ?_, hc.runs, ?_⟩
  ·rcases List.mem_or_eq_of_mem_set hy with hy | rfl
   ·exact hc.str y hy
   ·exact strDeal_inv hb ho hg (hc.str x (List.mem_of_getElem? hx))
  ·simp only
   rw [highS_set hx]
   exact strDeal_high hc.high
  ·unfold Fol
   simp only
   rw [readAll_set hx, strDeal_readOf]
   rcases hc.fol with h | h
   ·exact Or.inl (by omega)
   ·exact Or.inr h
def conStep (g : Cfg) (lw : Int) (c : ConS) (f : FrmS) : Int × ConS :=
 if f.type = 0 \/ f.type = 1 then (0, c)
 else if f.type = 7 then (if f.code ≠ proofN g.c9 c.addr c.cid then (10, c) else if c.proven then (0, c) else (0, { c with proven := true, waits := lw }))
 else conDeal g.c4 f c
structure ConR where
 con : ConS
 closed : Option Int
 gone : Bool
def conFrames (g : Cfg) (lw : Int) (c : ConS) (b : List Int) : Nat -> ConR
 | 0 => ⟨c, none, false⟩
 | n + 1 => if b = [] then ⟨c, none, false⟩ else
  match frameS b with
  | none => ⟨c, some 7, true⟩
  | some (f, size) =>
   if f.type = 6 then ⟨c, none, true⟩
   else if (conStep g lw c f).1 ≠ 0 then ⟨c, some (conStep g lw c f).1, true⟩
   else conFrames g lw (conStep g lw c f).2 (b.drop size) n
def closedO (r : ConR) (outs : List (Int × List Int)) : List (Int × List Int) := match r.closed with
 | none => outs
 | some k => newsO r.con ([19] ++ putL k) outs
def conS (s : SrvS) (i : Nat) (c : ConS) (r : ConR) : SrvS :=
 { s with conns := if r.gone then s.conns.eraseIdx i else s.conns.set i r.con, last := if r.con.proven = true /\ c.proven = false then s.last + 1 else s.last }
theorem conStep_proven {g : Cfg} {lw : Int} {c : ConS} {f : FrmS} (h : c.proven = true) : (conStep g lw c f).2.proven = true := by
 unfold conStep
 split
 ·exact h
 ·split
  ·split
   ·exact h
   ·first | exact h | (rw [if_pos h]; exact h)
  ·unfold conDeal
   split <;> exact h
theorem conStep_lw {g : Cfg} {lw lw' : Int} {c : ConS} {f : FrmS} (h : c.proven = true) : conStep g lw c f = conStep g lw' c f := by
 unfold conStep
 simp [h]
theorem conFrames_proven {g : Cfg} {lw : Int} : ∀ (n : Nat) {c : ConS} {b : List Int}, c.proven = true -> (conFrames g lw c b n).con.proven = true
 | 0, c, b, h => h
 | n + 1, c, b, h => by
  unfold conFrames
  split
  ·exact h
  ·split
   ·exact h
   ·split
    ·exact h
    ·split
     ·exact h
     ·exact conFrames_proven n (conStep_proven h)
theorem conFrames_lw {g : Cfg} {lw lw' : Int} : ∀ (n : Nat) {c : ConS} {b : List Int}, c.proven = true -> conFrames g lw c b n = conFrames g lw' c b n
 | 0, c, b, h => rfl
 | n + 1, c, b, h => by
  unfold conFrames
  split
  ·rfl
  ·split
   ·rfl
   ·next f size hf =>
    rw [conStep_lw (lw := lw) (lw' := lw') h, conFrames_lw (lw := lw) (lw' := lw') n (conStep_proven h)]
theorem eraseIdx_set {α : Type} (a : α) : ∀ (l : List α) (i : Nat), (l.set i a).eraseIdx i = l.eraseIdx i
 | [], i => by simp
 | b :: t, 0 => by simp
 | b :: t, i + 1 => by simp [eraseIdx_set a t i]
theorem dealR_step {s : SrvS} {i : Nat} {c : ConS} {f : FrmS} (h6 : f.type ≠ 6) (hi : s.conns[i]? = some c) :
  (dealR s i c f).code = (conStep s.c (s.last + 1) c f).1 /\ (dealR s i c f).gone = false /\ ((dealR s i c f).code = 0 -> (dealR s i c f).srv = conS s i c ⟨(conStep s.c (s.last + 1) c f).2, none, false⟩) := by
 unfold dealR conStep conS
 by_cases h0 : f.type = 0 \/ f.type = 1
 ·rw [if_pos h0, if_pos h0]
  refine ⟨rfl, rfl, fun _ => ?_⟩
  simp [set_self hi]
 ·rw [if_neg h0, if_neg h0, if_neg h6]
  by_cases h7 : f.type = 7
  ·rw [if_pos h7, if_pos h7]
   unfold proveS
   by_cases hp : f.code ≠ proofN s.c.c9 c.addr c.cid
   ·rw [if_pos hp, if_pos hp]
    exact ⟨rfl, rfl, fun h => absurd (show (10 : Int) = 0 from h) (by decide)⟩
   ·rw [if_neg hp, if_neg hp]
    cases hpr : c.proven with
    | true => simp [set_self hi, hpr]
    | false => simp
  ·rw [if_neg h7, if_neg h7]
   refine ⟨rfl, rfl, fun _ => ?_⟩
   have hp : (conDeal s.c.c4 f c).2.proven = c.proven := by unfold conDeal; split <;> rfl
   simp only [hp]
   cases c.proven <;> simp
theorem frames_con : ∀ (n : Nat) {s : SrvS} {i : Nat} {c : ConS} (b : List Int) (outs : List (Int × List Int)), s.conns[i]? = some c ->
  framesS s i b outs n = (conS s i c (conFrames s.c (s.last + 1) c b n), closedO (conFrames s.c (s.last + 1) c b n) outs)
 | 0, s, i, c, b, outs, hi => by
  simp [framesS, conFrames, conS, closedO, set_self hi]
 | n + 1, s, i, c, b, outs, hi => by
  have hsame : conS s i c ⟨c, none, false⟩ = s := by simp [conS, set_self hi]
  have hgone : ∀ k, conS s i c ⟨c, k, true⟩ = { s with conns := s.conns.eraseIdx i } := by intro k; simp [conS]
  unfold framesS conFrames
  by_cases hb : b = []
  ·rw [if_pos hb, if_pos hb, hsame]
   rfl
  ·rw [if_neg hb, if_neg hb, hi]
   simp only
   cases hf : frameS b with
   | none => simp only; rw [hgone]; rfl
   | some x =>
    obtain ⟨f, size⟩ := x
    simp only
    by_cases h6 : f.type = 6
    ·have hd : dealR s i c f = ⟨0, { s with conns := s.conns.eraseIdx i }, true⟩ := by
      unfold dealR
      rw [if_neg (by omega), if_pos h6]
     rw [hd, if_pos h6, hgone]
     rfl
    ·obtain ⟨e1, e2, e3⟩ := dealR_step (f := f) h6 hi
     rw [if_neg h6, e1, e2]
     by_cases hz : (conStep s.c (s.last + 1) c f).1 ≠ 0
     ·rw [if_pos hz, if_pos hz, hgone]
      rfl
     ·rw [if_neg hz, if_neg hz]
      have hz' : (conStep s.c (s.last + 1) c f).1 = 0 := Classical.byContradiction hz
      have e4 := e3 (e1.trans hz')
      simp only [Bool.false_eq_true, if_false]
      have hi' : (dealR s i c f).srv.conns[i]? = some (conStep s.c (s.last + 1) c f).2 := by
       rw [e4]
       simp [conS, getElem?_set_at hi]
      rw [frames_con n _ _ hi']
      generalize hc' : (conStep s.c (s.last + 1) c f).2 = c' at *
      have hcfg : (dealR s i c f).srv.c = s.c := by rw [e4]; rfl
      have hconns : (dealR s i c f).srv.conns = s.conns.set i c' := by rw [e4]; simp [conS]
      have hnow : (dealR s i c f).srv.now = s.now := by rw [e4]; rfl
      have hlast : (dealR s i c f).srv.last = if c'.proven = true /\ c.proven = false then s.last + 1 else s.last := by rw [e4]; rfl
      have hfr : conFrames (dealR s i c f).srv.c ((dealR s i c f).srv.last + 1) c' (b.drop size) n = conFrames s.c (s.last + 1) c' (b.drop size) n := by
       rw [hcfg]
       by_cases hp : c'.proven = true /\ c.proven = false
       ·exact conFrames_lw n hp.1
       ·rw [hlast, if_neg hp]
      rw [hfr]
      generalize hr : conFrames s.c (s.last + 1) c' (b.drop size) n = r
      refine Prod.ext ?_ rfl
      simp only
      have hl2 : (if r.con.proven = true /\ c'.proven = false then (dealR s i c f).srv.last + 1 else (dealR s i c f).srv.last) = if r.con.proven = true /\ c.proven = false then s.last + 1 else s.last := by
       rw [hlast]
       cases hp : c.proven with
       | true =>
        have h1 : c'.proven = true := by rw [<- hc']; exact conStep_proven hp
        simp [h1]
       | false =>
        cases hp' : c'.proven with
        | true =>
         have h2 : r.con.proven = true := by rw [<- hr]; exact conFrames_proven n hp'
         simp [h2]
        | false => simp
      unfold conS
      rw [hl2, hconns]
      have h3 : (if r.gone = true then (s.conns.set i c').eraseIdx i else (s.conns.set i c').set i r.con) = if r.gone = true then s.conns.eraseIdx i else s.conns.set i r.con := by
       rw [eraseIdx_set, List.set_set]
      rw [h3]
      generalize hd : (dealR s i c f).srv = sd at *
      cases sd
      cases s
      simp only at hcfg hnow ⊢
      subst hcfg hnow
      rfl
end Go.Proofs.YthmdjhlhodpbhaaGreatDoor
