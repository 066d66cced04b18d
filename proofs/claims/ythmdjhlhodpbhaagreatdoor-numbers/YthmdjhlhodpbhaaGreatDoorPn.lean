/-
  World.plain: each of the four calls without a server is as the document says, and the lists stay as their owners left them.
-/
import Derived.Test.YthmdjhlhodpbhaaGreatDoorBa
import Derived.Test.YthmdjhlhodpbhaaGreatDoorLk
import Derived.Test.YthmdjhlhodpbhaaGreatDoorTq
import Derived.Laws.BytesArg
namespace Go.Proofs.YthmdjhlhodpbhaaGreatDoor
open Go.RowKit

theorem conv_own {w : World} {base : Nat} {v : Value} {l : List Int} (h : w.ownsRow base 5 1 v l.length (U8 l)) : (convert 44 9 v).run Tryz.prog w = .ok (.string (strOfNums l)) w := by
  rcases Nat.eq_zero_or_pos l.length with h0 | h0
  · obtain rfl : l = [] := List.eq_nil_of_length_eq_zero h0
    rcases h.2 with ⟨rfl, _⟩ | ⟨g, cap, cur, rfl, _⟩
    · exact run_convert_bytes_nil (P := Tryz.prog) w 44 5 Tryz.underlying44 Tryz.underlying5 0 0 9 Tryz.underlying9
    · exact run_convert_bytes_arg (P := Tryz.prog) w 44 5 Tryz.underlying44 Tryz.underlying5 g 0 0 cap [] rfl (fun i hi => absurd hi (by simp)) 9 Tryz.underlying9
  · obtain ⟨g, cap, rfl, _, _, _⟩ := own_some h h0
    exact run_convert_bytes_arg (P := Tryz.prog) w 44 5 Tryz.underlying44 Tryz.underlying5 g 0 l.length cap l rfl (own_read h) 9 Tryz.underlying9

theorem Inv.below {w w' : World} {base bw k : Nat} (h : Inv w base bw k) (hb : Below w.heap.size w w') : Inv w' base bw k := by
  obtain ⟨vb, vals, hW, hbw, hk4, hvb, hrows⟩ := h
  refine ⟨vb, vals, ?_, ⟨hbw.1, Nat.le_trans hbw.2 hb.size⟩, hk4, own_below hvb hb, fun i u hu => ?_⟩
  · rw [hb.block bw (Array.getElem?_eq_some_iff.1 hW).1]; exact hW
  · obtain ⟨n, hn, hr⟩ := hrows i u hu
    exact ⟨n, hn, own_below hr hb⟩
theorem Inv.base_le {w : World} {base bw k : Nat} (h : Inv w base bw k) : base ≤ w.heap.size := by
  obtain ⟨vb, vals, hW, hbw, _⟩ := h
  exact hbw.2
theorem Reads.below {w w' : World} {v : Value} {l : List Int} (h : Reads w v l) (hb : Below w.heap.size w w') : Reads w' v l := by
  obtain ⟨hl, hm, h | ⟨hp, b, off, cap, rfl, hcap, hc⟩⟩ := h
  · exact ⟨hl, hm, Or.inl h⟩
  · exact ⟨hl, hm, Or.inr ⟨hp, b, off, cap, rfl, hcap, fun j hj => cell_below (hc j hj) hb⟩⟩
theorem below_weaken {w w1 w2 : World} {base bw : Nat} (h : Below w.heap.size w w1) (hb : base ≤ w.heap.size) (h2 : Kept base bw w1 w2) : Kept base bw w w2 := (Kept.of_below (h.mono hb)).trans h2

theorem putM_length (n : Int) : (putM n).length ≤ 4 := by
  unfold putM
  split
  · exact (putL_length n).1
  · simp

/-- behind the box of a step and calls that only make memory -/
theorem step_box {w w1 : World} {O : Obj} (hb : Below (w.alloc O).heap.size (w.alloc O) w1) : (∀ j, w1.cell? ⟨w.heap.size, j, none⟩ = (w.alloc O).cell? ⟨w.heap.size, j, none⟩) ∧ w.heap.size < w1.heap.size := by
  have hs := hb.size
  simp only [World.size_alloc] at hs
  exact ⟨fun j => hb.cell (by simp), by omega⟩

set_option maxHeartbeats 2000000 in
set_option maxRecDepth 8000 in
theorem plain_put (on a b nn c0 c1 c2 c3 c4 c5 c6 c7 c8 c9 : Int) (v : Value) (base bw L : Nat) (w : World) (inv : Inv w base bw L) (hL : L ≤ 5000000000000) :
    Calls Tryz.prog 62 #[.pointer (some ⟨bw, 0, none⟩), .agg #[.int .i64 1, .int .i64 on, .int .i64 a, .int .i64 b, .int .i64 nn, .int .i64 c0, .int .i64 c1, .int .i64 c2, .int .i64 c3, .int .i64 c4, .int .i64 c5, .int .i64 c6, .int .i64 c7, .int .i64 c8, .int .i64 c9, v]] w
      fun e w' => e = .returned (.bool true) ∧ Inv w' base bw (L + 4) ∧ Kept base bw w w' := by
  have HI := hideIt inv
  clear inv
  go_enter Tryz.func62, Tryz.ntmps62
  go_wp2_with fail
  have hb0 := below_alloc w (.cells #[.int .i64 1, .int .i64 on, .int .i64 a, .int .i64 b, .int .i64 nn, .int .i64 c0, .int .i64 c1, .int .i64 c2, .int .i64 c3, .int .i64 c4, .int .i64 c5, .int .i64 c6, .int .i64 c7, .int .i64 c8, .int .i64 c9, v] 90)
  have HI0 := hideIt (HI.out.below hb0)
  refine (PutNumber_any a _).mono ?_
  rintro e w1 ⟨v1, rfl, hown1, hb1⟩
  have q := (step_box hb1).1 2
  simp at q
  go_wp2_with fail
  refine (rPutNumber_any a _).mono ?_
  rintro e w2 ⟨v2, rfl, hown2, hb2⟩
  have hown1' := own_below hown1 hb2
  have hb12 := below_join hb1 hb2
  have k1 := conv_own hown1'
  have k2 := conv_own hown2
  clear q hown1 hown2 hb1 hb2
  generalize hE : argE a 1073741823 = E
  clear hE
  have HB := hideIt (byted_any base bw L _ v1 _ _ w2 HI0.out hb12 hown1' (by have := putM_length a; omega) hL)
  clear hown1'
  go_wp2_with (go_at_call 110; refine (num_any _ _).mono ?_; rintro e w' ⟨rfl, rfl⟩)
  refine HB.out.mono ?_
  rintro e w3 ⟨rfl, hinv, hb3⟩
  clear k1 k2 HB
  go_wp2_with fail
  go_ret
  exact ⟨rfl, hinv, below_weaken hb0 HI.out.base_le hb3⟩

set_option maxHeartbeats 2000000 in
set_option maxRecDepth 8000 in
theorem plain_get_nil (on a b nn c0 c1 c2 c3 c4 c5 c6 c7 c8 c9 : Int) (base bw L : Nat) (w : World) (he : Env w) (inv : Inv w base bw L) :
    Calls Tryz.prog 62 #[.pointer (some ⟨bw, 0, none⟩), .agg #[.int .i64 2, .int .i64 on, .int .i64 a, .int .i64 b, .int .i64 nn, .int .i64 c0, .int .i64 c1, .int .i64 c2, .int .i64 c3, .int .i64 c4, .int .i64 c5, .int .i64 c6, .int .i64 c7, .int .i64 c8, .int .i64 c9, .slice none 0 0]] w
      fun e w' => e = .returned (.bool true) ∧ Inv w' base bw L ∧ Kept base bw w w' := by
  have HI := hideIt inv
  have HE := hideIt he
  clear inv he
  have HR : Hid (∀ W : World, Reads W (.slice none 0 0) []) := fun W => ⟨Bytes.nil, by decide, Or.inl ⟨rfl, none, 0, rfl⟩⟩
  go_enter Tryz.func62, Tryz.ntmps62
  go_wp2_with fail
  have hb0 := below_alloc w (.cells #[.int .i64 2, .int .i64 on, .int .i64 a, .int .i64 b, .int .i64 nn, .int .i64 c0, .int .i64 c1, .int .i64 c2, .int .i64 c3, .int .i64 c4, .int .i64 c5, .int .i64 c6, .int .i64 c7, .int .i64 c8, .int .i64 c9, .slice none 0 0] 90)
  refine (lent_nil _).mono ?_
  rintro e w1 ⟨rfl, rfl⟩
  go_wp2_with fail
  refine (GetNumber_any [] _ _ (HE.out.below hb0) (HR.out _)).mono ?_
  rintro e w2 ⟨rfl, hb1⟩
  have q := (step_box hb1).1 15
  simp at q
  go_wp2_with fail
  refine (rGetNumber_any [] _ _ (HR.out _)).mono ?_
  rintro e w3 ⟨rfl, rfl⟩
  go_wp2_with fail
  refine (back_nil _ _).mono ?_
  rintro e w3 ⟨rfl, rfl⟩
  have hb2 := below_join hb0 hb1
  clear hb1 q
  generalize gval [] = x1
  generalize gsz [] = x2
  generalize gerr [] = x3
  go_wp2_with (go_at_call 110; refine (num_any _ _).mono ?_; rintro e w' ⟨rfl, rfl⟩)
  go_ret
  exact ⟨rfl, HI.out.below hb2, Kept.of_below (hb2.mono HI.out.base_le)⟩

theorem Reads.lent {w : World} {g : Nat} {l : List Int} (hl : Bytes l) (hm : l.length ≤ 140737488355328) (hg : w.heap[g]? = some (.cells (U8 (l ++ [77])).toArray 5 (0, 0))) : Reads w (.slice (some ⟨g, 0, none⟩) l.length (l.length + 1)) l := by
  refine ⟨hl, hm, ?_⟩
  rcases Nat.eq_zero_or_pos l.length with h0 | h0
  · obtain rfl : l = [] := List.eq_nil_of_length_eq_zero h0
    exact Or.inl ⟨rfl, _, _, rfl⟩
  · refine Or.inr ⟨h0, g, 0, _, rfl, by omega, fun j hj => ?_⟩
    simp only [World.cell?, hg, U8, List.getD, List.getElem?_eq_getElem hj, Option.getD_some, Nat.zero_add]
    simp [List.getElem?_append_left, hj]
theorem Reads.src {w : World} {ad : Addr} {cap : Nat} {l : List Int} (h : Reads w (.slice (some ad) l.length cap) l) : (∀ (j : Nat) u, (U8 l)[j]? = some u → w.cell? (ad.add j) = some u) ∧ (∀ j, j < l.length → ∃ b off, ad = ⟨b, off, none⟩ ∧ w.cell? ⟨b, off + j, none⟩ = some (.int .u8 (l.getD j 0))) := by
  obtain ⟨hl, hm, ⟨rfl, _⟩ | ⟨hp, b, off, cap', e1, _, hc⟩⟩ := h
  · exact ⟨fun j u hu => by simp [U8] at hu, fun j hj => absurd hj (by simp)⟩
  · simp only [Value.slice.injEq, Option.some.injEq] at e1
    obtain ⟨rfl, _, rfl⟩ := e1
    refine ⟨fun j u hu => ?_, fun j hj => ⟨b, off, rfl, hc j hj⟩⟩
    have hj : j < l.length := by
      have := (List.getElem?_eq_some_iff.1 hu).1
      rwa [U8_length] at this
    rw [Addr.add_lit, hc j hj]
    simp only [U8, List.getElem?_map, List.getElem?_eq_getElem hj, Option.map_some, Option.some.injEq] at hu
    rw [← hu]
    simp [List.getD, List.getElem?_eq_getElem hj]

set_option maxHeartbeats 2000000 in
set_option maxRecDepth 8000 in
theorem plain_get (on a b nn c0 c1 c2 c3 c4 c5 c6 c7 c8 c9 : Int) (ad : Addr) (cap : Nat) (l : List Int) (base bw L : Nat) (w : World) (he : Env w) (hr : Reads w (.slice (some ad) l.length cap) l) (inv : Inv w base bw L) :
    Calls Tryz.prog 62 #[.pointer (some ⟨bw, 0, none⟩), .agg #[.int .i64 2, .int .i64 on, .int .i64 a, .int .i64 b, .int .i64 nn, .int .i64 c0, .int .i64 c1, .int .i64 c2, .int .i64 c3, .int .i64 c4, .int .i64 c5, .int .i64 c6, .int .i64 c7, .int .i64 c8, .int .i64 c9, .slice (some ad) l.length cap]] w
      fun e w' => e = .returned (.bool true) ∧ Inv w' base bw L ∧ Kept base bw w w' := by
  have HI := hideIt inv
  have HE := hideIt he
  have HR := hideIt hr
  clear inv he hr
  go_enter Tryz.func62, Tryz.ntmps62
  go_wp2_with fail
  have hb0 := below_alloc w (.cells #[.int .i64 2, .int .i64 on, .int .i64 a, .int .i64 b, .int .i64 nn, .int .i64 c0, .int .i64 c1, .int .i64 c2, .int .i64 c3, .int .i64 c4, .int .i64 c5, .int .i64 c6, .int .i64 c7, .int .i64 c8, .int .i64 c9, .slice (some ad) l.length cap] 90)
  have hr0 := HR.out.below hb0
  refine (lent_some l ad cap _ hr0.2.1 hr0.src.1).mono ?_
  rintro e w1 ⟨g, rfl, hg, hgs, hb1⟩
  have HR1 := hideIt (hr0.below hb1)
  have HG := hideIt hg
  have hgl : g < w1.heap.size := (Array.getElem?_eq_some_iff.1 hg).1
  clear hr0 hg
  go_wp2_with fail
  refine (GetNumber_any l _ _ ((HE.out.below hb0).below hb1) (Reads.lent HR.out.1 HR.out.2.1 HG.out)).mono ?_
  rintro e w2 ⟨rfl, hb2⟩
  have hb12 := below_join hb1 hb2
  have q := (step_box hb12).1 15
  simp at q
  go_wp2_with fail
  refine (rGetNumber_any l _ _ (HR1.out.below hb2)).mono ?_
  rintro e w3 ⟨rfl, rfl⟩
  have HB := hideIt (back_some l ad cap g (w.alloc (.cells #[.int .i64 2, .int .i64 on, .int .i64 a, .int .i64 b, .int .i64 nn, .int .i64 c0, .int .i64 c1, .int .i64 c2, .int .i64 c3, .int .i64 c4, .int .i64 c5, .int .i64 c6, .int .i64 c7, .int .i64 c8, .int .i64 c9, .slice (some ad) l.length cap] 90)).heap.size w2 HR.out.1 HR.out.2.1 (by rw [hb2.block g hgl]; exact HG.out) hgs (HR1.out.below hb2).src.2)
  go_wp2_with fail
  refine HB.out.mono ?_
  rintro e w3 ⟨rfl, hb3⟩
  have hbb := below_join hb0 (hb12.trans hb3)
  clear hb1 hb2 hb12 hb3 q HB HG
  generalize gval l = x1
  generalize gsz l = x2
  generalize gerr l = x3
  go_wp2_with (go_at_call 110; refine (num_any _ _).mono ?_; rintro e w' ⟨rfl, rfl⟩)
  go_ret
  exact ⟨rfl, HI.out.below hbb, Kept.of_below (hbb.mono HI.out.base_le)⟩
end Go.Proofs.YthmdjhlhodpbhaaGreatDoor
