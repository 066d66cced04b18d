/- Shuffled, 20 -/
import Derived.Test.YthmdjhlhodpbhaaGreatDoorS15
import Derived.Test.YthmdjhlhodpbhaaGreatDoorS17
import Derived.Test.YthmdjhlhodpbhaaGreatDoorS19
set_option maxHeartbeats 16000000
set_option maxRecDepth 8000
namespace Go.Proofs.YthmdjhlhodpbhaaGreatDoor
open Go.RowKit
structure u_RunsAt (w : World) (lv : Value) (vs : List RunV) (rl : List RunL) : Prop where
 own : w.ownsRow 0 279 2 lv vs.length (cells2 vs)
 sh : Shape vs rl
theorem u_RunsAt.part {w : World} {vs : List RunV} {rl : List RunL} {ao : Option Addr} {cap : Nat} (h : u_RunsAt w (.slice ao vs.length cap) vs rl) {i j : Nat} (hij : i <= j) (hj : j <= vs.length) (tv : Value) (htv : (i = j /\ ∃ ta tc, tv = .slice ta 0 tc) \/ ∃ g, ao = some ⟨g, 0, none⟩ /\ tv = .slice (some ⟨g, i * 2, none⟩) (j - i) (cap - i)) :
  Part w tv ((vs.drop i).take (j - i)) := by
 have hl : ((vs.drop i).take (j - i)).length = j - i := by simp; omega
 rcases htv with ⟨rfl, ta, tc, rfl⟩ | ⟨g, rfl, rfl⟩
 ·refine ⟨ta, tc, by rw [hl, Nat.sub_self], fun k v hv => ?_⟩
  simp at hv
 ·refine ⟨_, _, by rw [hl], fun k v hv => ⟨g, i * 2, rfl, ?_⟩⟩
  have hk := (List.getElem?_eq_some_iff.1 hv).1
  rw [hl] at hk
  rw [List.getElem?_take_of_lt hk, List.getElem?_drop] at hv
  obtain ⟨q1, q2⟩ := cells2_at hv
  have e1 : i * 2 + k * 2 = (i + k) * 2 := by omega
  rw [e1]
  refine ⟨?_, ?_⟩
  ·rw [h.own.cellAt _ (by omega)]; exact q1
  ·rw [h.own.cellAt _ (by omega)]; exact q2
structure u_FillOut (w : World) (rb off : Nat) (cs : Array Value) (t : TypeId) (lv : Value) (vs : List RunV) (rl' : List RunL) (w' : World) (lv' : Value) (vs' : List RunV) : Prop where
 blk : w'.heap[rb]? = some (.cells (cs.setIfInBounds off lv') t (0, 0))
 runs : u_RunsAt w' lv' vs' rl'
 chg : Chg (fun k => k = rb \/ lv.ownBlock = some k) w w'
 at_ : lv'.ownBlock = lv.ownBlock \/ ∀ g, lv'.ownBlock = some g -> w.heap.size <= g
theorem u_RunsAt.below {w w' : World} {lv : Value} {vs : List RunV} {rl : List RunL} (h : u_RunsAt w lv vs rl) (hb : Below w.heap.size w w') : u_RunsAt w' lv vs rl := ⟨own_below h.own hb, h.sh⟩
theorem u_fill_close {w w2 w3 : World} {rb off : Nat} {cs : Array Value} {t : TypeId} {lv lv' : Value} {vs : List RunV} {rl : List RunL} {i j : Nat} {x : RunV} {r : RunL} {X : Obj} (h : u_RunsAt w lv vs rl) (hblk : w.heap[rb]? = some (.cells cs t (0, 0))) (ht1 : t ≠ 279)
  (hb2 : Below w.heap.size w w2) (hx : x.1 = r.1 /\ ∃ g n, x.2 = .slice (some ⟨g, 0, none⟩) r.2.length n /\ r.2.length <= n)
  (hown : w3.ownsRow 0 279 2 lv' (vs.take i ++ x :: vs.drop j).length (cells2 (vs.take i ++ x :: vs.drop j))) (hg : (w2.alloc X).grownBy w3 lv.ownBlock) (hat : lv'.ownBlock = lv.ownBlock \/ ∀ g, lv'.ownBlock = some g -> (w2.alloc X).heap.size <= g) :
  w3.heap[rb]? = some (.cells cs t (0, 0)) /\ u_FillOut w rb off cs t lv vs (rl.take i ++ r :: rl.drop j) (w3.setCell ⟨rb, off, none⟩ lv') lv' (vs.take i ++ x :: vs.drop j) := by
 have hrl : rb < w.heap.size := (Array.getElem?_eq_some_iff.1 hblk).1
 have hnb : lv.ownBlock ≠ some rb := own_not_blockN h.own hblk (fun e => ht1 e.symm)
 have hg2 : w2.grownBy w3 lv.ownBlock := grown_after_alloc hg
 have hrb3 : w3.heap[rb]? = some (.cells cs t (0, 0)) := by rw [hg2.block rb (Nat.lt_of_lt_of_le hrl hb2.size) (Ne.symm hnb), hb2.block rb hrl]; exact hblk
 refine ⟨hrb3, ?_⟩
 have hch : Chg (fun k => k = rb \/ lv.ownBlock = some k) w (w3.setCell ⟨rb, off, none⟩ lv') := by
  refine ⟨hg2.os.trans hb2.os, hg2.tape.trans hb2.tape, hg2.output.trans hb2.output, by rw [World.size_setCell]; exact Nat.le_trans hb2.size hg2.size, fun k hk hn => ?_⟩
  rw [heap_setCell_other _ _ _ _ (show k ≠ rb from fun e => hn (Or.inl e)), hg2.block k (Nat.lt_of_lt_of_le hk hb2.size) (fun e => hn (Or.inr e.symm)), hb2.block k hk]
 obtain ⟨hx1, g, n, hx2, hx3⟩ := hx
 refine ⟨(block_set hrb3 off lv').trans rfl, ⟨?_, h.sh.put i j ⟨hx1, _, n, hx2, hx3⟩⟩, hch, ?_⟩
 ·exact ownsRow_setCell_other hown (own_not_blockN hown hrb3 (fun e => ht1 e.symm)) _
 ·rcases hat with h1 | h1
  ·exact Or.inl h1
  ·refine Or.inr fun k hk => ?_
   have := h1 k hk
   simp at this
   have := hb2.size
   omega
theorem u_Fill_any (first : Int) (items : List Int) (iv lv : Value) (vs : List RunV) (rl : List RunL) (rb off : Nat) (cs : Array Value) (t : TypeId) (w : World) (hblk : w.heap[rb]? = some (.cells cs t (0, 0))) (hcell : cs[off]? = some lv) (ht1 : t ≠ 279) (h : u_RunsAt w lv vs rl) (hf : RunsFit rl)
  (hiv : ∃ ia ic, iv = .slice ia items.length ic) (hi0 : items ≠ []) (hfar : 0 <= first /\ first + items.length <= 1099511627776) :
  Calls Tryz.prog 149 #[.pointer (some ⟨rb, off, none⟩), .int .i64 first, iv] w fun e w' => e = .returned (.tuple #[]) /\ ∃ lv' vs', u_FillOut w rb off cs t lv vs (fillR rl first items) w' lv' vs' := by
 have hil : 0 < items.length := List.length_pos_iff.2 hi0
 obtain ⟨ia, ic, rfl⟩ := hiv
 have hc0 : w.cell? ⟨rb, off, none⟩ = some lv := by simp only [World.cell?, hblk]; exact hcell
 have hlen : vs.length = rl.length := h.sh.1
 have hfew := hf.few
 have hrlt := cell_lt hc0
 have hneb : ((items.length : Int) == 0) = false := beq_eq_false_iff_ne.2 (by omega)
 have hbx : Below w.heap.size w (w.alloc (.cells #[.int .i64 first, .slice ia items.length ic] 279)) := below_alloc w _
 have HT := hideIt (u_touching_any vs rl lv (first, items) ia ic rb off (w.alloc (.cells #[.int .i64 first, .slice ia items.length ic] 279)) (cell_below hc0 hbx) (own_below h.own hbx) h.sh hf.wide (by omega) (by simp only; omega))
 have hft := from_le rl (first, items)
 have HF : Hid (fillR rl first items = rl.take (fromR rl (first, items)) ++ joinR (first, items) ((rl.drop (fromR rl (first, items))).take (toR rl (first, items) - fromR rl (first, items))) :: rl.drop (toR rl (first, items))) := by
  show _ = _
  unfold fillR
  rw [if_neg hi0]
 generalize fromR rl (first, items) = i at HT HF hft
 generalize toR rl (first, items) = j at HT HF hft
 obtain ⟨hij, hjl⟩ := hft
 have hjv : j <= vs.length := by omega
 have hvn : vs.length <= 100 := by omega
 replace hlen := hideIt hlen
 have HH := hideIt h
 have HB := hideIt hblk
 clear hblk h
 go_enter Tryz.func149, Tryz.ntmps149
 go_wp2_with fail
 refine HT.out.mono ?_
 rintro e w1 ⟨rfl, hb1⟩
 have hb1' := hb1
 replace hb1 := below_join hbx hb1
 have hc1 : w1.cell? ⟨rb, off, none⟩ = some lv := cell_below hc0 hb1
 have q0 : w1.cell? ⟨w.heap.size, 0, none⟩ = some (.int .i64 first) := cell_below (by simp) hb1'
 have q1 : w1.cell? ⟨w.heap.size, 1, none⟩ = some (.slice ia items.length ic) := cell_below (by simp) hb1'
 obtain ⟨ao, cap, rfl⟩ := own_formN HH.out.own
 have HJ : Hid (∀ (W : World) (tv : Value), Below w.heap.size w W -> ((i = j /\ ∃ ta tc, tv = .slice ta 0 tc) \/ ∃ g, ao = some ⟨g, 0, none⟩ /\ tv = .slice (some ⟨g, i * 2, none⟩) (j - i) (cap - i)) -> Calls Tryz.prog 179 #[.agg #[.int .i64 first, .slice ia items.length ic], tv] W fun e w' => ∃ J n, e = .returned (.agg #[.int .i64 (joinR (first, items) ((rl.drop i).take (j - i))).1, .slice (some ⟨J, 0, none⟩) n n]) /\ n = (joinR (first, items) ((rl.drop i).take (j - i))).2.length /\ W.heap.size <= J /\ Below W.heap.size W w') := by
  intro W tv hW htv
  have hR := HH.out.below hW
  refine u_join_any (first, items) (.slice ia items.length ic) tv ((vs.drop i).take (j - i)) ((rl.drop i).take (j - i)) W ⟨ia, ic, rfl⟩ hil (hR.part hij (by omega) tv htv) (hR.sh.sub i (j - i)) ?_ ?_ ?_
  ·intro r hr
   exact runsWf_mem hf.wf (List.mem_of_mem_drop (List.mem_of_mem_take hr))
  ·intro r hr
   rcases List.mem_cons.1 hr with rfl | hr
   ·exact hfar
   ·exact hf.far r (List.mem_of_mem_drop (List.mem_of_mem_take hr))
  ·simp; omega
 generalize hjo : joinR (first, items) ((rl.drop i).take (j - i)) = jr at HJ HF
 have HR : Hid (∀ (w2 : World) (J n : Nat), Below w.heap.size w w2 -> Calls Tryz.prog 178 #[.slice ao vs.length cap, .int .i64 i, .int .i64 j, .slice (some ⟨w2.heap.size, 0, none⟩) 1 1] (w2.alloc (.cells #[.int .i64 jr.1, .slice (some ⟨J, 0, none⟩) n n] 279)) fun e w' => ∃ lv' m, e = .returned lv' /\ Hid (m = (vs.take i ++ (jr.1, .slice (some ⟨J, 0, none⟩) n n) :: vs.drop j).length) /\ w'.ownsRow 0 279 2 lv' m (cells2 (vs.take i ++ (jr.1, .slice (some ⟨J, 0, none⟩) n n) :: vs.drop j)) /\
   (w2.alloc (.cells #[.int .i64 jr.1, .slice (some ⟨J, 0, none⟩) n n] 279)).grownBy w' (Value.slice ao vs.length cap).ownBlock /\ (lv'.ownBlock = (Value.slice ao vs.length cap).ownBlock \/ ∀ g, lv'.ownBlock = some g -> (w2.alloc (.cells #[.int .i64 jr.1, .slice (some ⟨J, 0, none⟩) n n] 279)).heap.size <= g)) := by
  intro w2 J n hw2
  refine (u_Replace_any vs (jr.1, .slice (some ⟨J, 0, none⟩) n n) i j w2.heap.size 1 _ _ ((own_below HH.out.own hw2).alloc _) (heap_alloc_new w2 _) (fun e => ?_) hij (by omega) (by omega) HH.out.sh.one rfl).mono (fun e w' ⟨lv', h1, h2, h3, h4⟩ => ⟨lv', _, h1, rfl, h2, h3, h4⟩)
  have := ((own_below HH.out.own hw2).lt _ e).2
  omega
 have HS : Hid (∀ W X : World, Below W.heap.size W X -> (W.cell? ⟨rb, off, none⟩ = some (.slice ao vs.length cap) /\ W.cell? ⟨w.heap.size, 0, none⟩ = some (.int .i64 first) /\ W.cell? ⟨w.heap.size, 1, none⟩ = some (.slice ia items.length ic)) -> (X.cell? ⟨rb, off, none⟩ = some (.slice ao vs.length cap) /\ X.cell? ⟨w.heap.size, 0, none⟩ = some (.int .i64 first) /\ X.cell? ⟨w.heap.size, 1, none⟩ = some (.slice ia items.length ic))) := fun W X hb h => ⟨cell_below h.1 hb, cell_below h.2.1 hb, cell_below h.2.2 hb⟩
 have HS3 : Hid (∀ (w2 w3 : World) (O : Obj), Below w.heap.size w w2 -> (w2.alloc O).grownBy w3 (Value.slice ao vs.length cap).ownBlock -> (w2.cell? ⟨rb, off, none⟩ = some (.slice ao vs.length cap) /\ w2.cell? ⟨w.heap.size, 0, none⟩ = some (.int .i64 first) /\ w2.cell? ⟨w.heap.size, 1, none⟩ = some (.slice ia items.length ic)) -> (w3.cell? ⟨rb, off, none⟩ = some (.slice ao vs.length cap) /\ w3.cell? ⟨w.heap.size, 0, none⟩ = some (.int .i64 first) /\ w3.cell? ⟨w.heap.size, 1, none⟩ = some (.slice ia items.length ic)) /\ w3.frozen? ⟨rb, off, none⟩ = false) := by
  intro w2 w3 O hw2 hg h
  have hg2 := grown_after_alloc hg
  have hnb : (Value.slice ao vs.length cap).ownBlock ≠ some rb := own_not_blockN HH.out.own HB.out (fun e => ht1 e.symm)
  have hnw : (Value.slice ao vs.length cap).ownBlock ≠ some w.heap.size := fun e => by
   have := (HH.out.own.lt _ e).2
   omega
  have e1 : w3.heap[rb]? = w2.heap[rb]? := hg2.block rb (Nat.lt_of_lt_of_le hrlt hw2.size) (Ne.symm hnb)
  have e2 : w3.heap[w.heap.size]? = w2.heap[w.heap.size]? := hg2.block _ (cell_lt h.2.1) (Ne.symm hnw)
  refine ⟨⟨?_, ?_, ?_⟩, ?_⟩
  ·rw [World.cell?_of_block (a := ⟨rb, off, none⟩) e1]; exact h.1
  ·rw [World.cell?_of_block (a := ⟨w.heap.size, 0, none⟩) e2]; exact h.2.1
  ·rw [World.cell?_of_block (a := ⟨w.heap.size, 1, none⟩) e2]; exact h.2.2
  ·exact frozen_of_row w3 rb off _ _ (e1.trans ((hw2.block rb hrlt).trans HB.out))
 have HBw : Hid (Below w.heap.size w w1.drew) := below_drewN hb1 1
 have HE : Hid (∀ (w2 w3 : World) (J n m : Nat) (lv' : Value), Below w.heap.size w w2 -> n = jr.2.length -> w3.ownsRow 0 279 2 lv' m (cells2 (vs.take i ++ (jr.1, .slice (some ⟨J, 0, none⟩) n n) :: vs.drop j)) -> Hid (m = (vs.take i ++ (jr.1, .slice (some ⟨J, 0, none⟩) n n) :: vs.drop j).length) ->
   (w2.alloc (.cells #[.int .i64 jr.1, .slice (some ⟨J, 0, none⟩) n n] 279)).grownBy w3 (Value.slice ao vs.length cap).ownBlock -> (lv'.ownBlock = (Value.slice ao vs.length cap).ownBlock \/ ∀ g, lv'.ownBlock = some g -> (w2.alloc (.cells #[.int .i64 jr.1, .slice (some ⟨J, 0, none⟩) n n] 279)).heap.size <= g) ->
   ∃ vs', u_FillOut w rb off cs t (.slice ao vs.length cap) vs (fillR rl first items) (w3.setCell ⟨rb, off, none⟩ lv') lv' vs') := by
  intro w2 w3 J n m lv' hw2 hoJ ho hm hg ha
  rw [hm.out] at ho
  subst hoJ
  rw [HF.out]
  exact ⟨_, (u_fill_close (x := (jr.1, .slice (some ⟨J, 0, none⟩) jr.2.length jr.2.length)) (r := jr) HH.out HB.out ht1 hw2 ⟨rfl, J, _, rfl, Nat.le_refl _⟩ ho hg ha).2⟩
 have hcl : ao ≠ none -> vs.length <= cap := by
  intro hne
  rcases HH.out.own.2 with ⟨e, _⟩ | ⟨g, c, cur, e, _, _, h1, _⟩
  ·simp only [Value.slice.injEq] at e; exact absurd e.1 hne
  ·simp only [Value.slice.injEq] at e; omega
 have hnz : ao = none -> vs.length = 0 /\ cap = 0 := by
  intro hne
  rcases HH.out.own.2 with ⟨e, h0⟩ | ⟨g, c, cur, e, _, _, h1, _⟩
  ·simp only [Value.slice.injEq] at e; omega
  ·simp only [Value.slice.injEq] at e; rw [hne] at e; cases e.1
 have hg0 : ∀ A, ao = some A -> ∃ g, A = ⟨g, 0, none⟩ := by
  intro A hA
  rcases HH.out.own.2 with ⟨e, h0⟩ | ⟨g, c, cur, e, _, _, h1, _⟩
  ·simp only [Value.slice.injEq] at e; rw [hA] at e; cases e.1
  ·simp only [Value.slice.injEq] at e; rw [hA] at e; exact ⟨g, Option.some.inj e.1⟩
 have u1 := run_underlying Tryz.underlying129
 have z1 := u_sizeOf
 have hbij : (i : Int) <= (j : Int) := by omega
 have hmax : cap <= maxLen := by
  rcases HH.out.own.2 with ⟨e, h0⟩ | ⟨g, c, cur, e, _, _, h1, h2, _⟩
  ·simp only [Value.slice.injEq] at e; unfold maxLen; omega
  ·simp only [Value.slice.injEq] at e; omega
 unfold maxLen at hmax
 clear hbx hc0 hb1' HT hjo
 obtain ⟨tv, htv, htc, hsl⟩ : ∃ tv, ((i = j /\ ∃ ta tc, tv = .slice ta 0 tc) \/ ∃ g, ao = some ⟨g, 0, none⟩ /\ tv = .slice (some ⟨g, i * 2, none⟩) (j - i) (cap - i)) /\ True /\ ∀ W : World, (Instr.slice 129 (.slice ao vs.length cap) (some (.int .i64 i)) (some (.int .i64 j)) none).run Tryz.prog W = .ok tv W := by
  cases ao with
  | none =>
   obtain ⟨h0, rfl⟩ := hnz rfl
   obtain rfl : j = 0 := by omega
   obtain rfl : i = 0 := by omega
   refine ⟨.slice none 0 0, Or.inl ⟨rfl, none, 0, rfl⟩, trivial, fun W => ?_⟩
   rw [h0]
   kernel_rfl
  | some A =>
   obtain ⟨g, rfl⟩ := hg0 A rfl
   have hvc := hcl (by simp)
   have hbj : (j : Int) <= (cap : Int) := by omega
   by_cases hci : cap = i
   ·obtain rfl : j = i := by omega
    refine ⟨.slice (some ⟨g, 0, none⟩) 0 0, Or.inl ⟨rfl, _, 0, rfl⟩, trivial, fun W => ?_⟩
    rw [run_slice_two W Tryz.underlying129 (u_sizeOf W) (Nat.le_refl _) (by omega), if_pos hci, Nat.sub_self, hci, Nat.sub_self]
   ·refine ⟨.slice (some ⟨g, i * 2, none⟩) (j - i) (cap - i), Or.inr ⟨g, rfl, rfl⟩, trivial, fun W => ?_⟩
    rw [run_slice_two W Tryz.underlying129 (u_sizeOf W) hij (by omega), if_neg hci]
    simp [Addr.add_lit]
 clear hcl hnz hg0 htc
 have HTV := hideIt htv
 clear htv
 go_wp2_with fail
 go_region_with (first
  | (go_at_call 179; refine (HJ.out _ tv HBw.out HTV.out).mono ?_; rintro e w2 ⟨J, n, rfl, hoJ, _, hb2⟩; replace hoJ := hideIt hoJ; have hS2 := HS.out _ _ hb2 ⟨hc1, q0, q1⟩; obtain ⟨hc2, p0, p1⟩ := id hS2; have hc2a := fun (o : Obj) => Lib.cell?_alloc_some o hc2)
  | (go_at_call 178; refine (HR.out w2 J n (below_join HBw.out hb2)).mono ?_; rintro e w3 ⟨lv', m3, rfl, hm3, ho3, hg3, ha3⟩; obtain ⟨la3, lc3, rfl⟩ := own_formN ho3; have hS3 := HS3.out w2 w3 _ (below_join HBw.out hb2) hg3 hS2; obtain ⟨⟨hc3, hS3⟩, z3⟩ := hS3; replace ho3 := hideIt ho3; replace hg3 := hideIt hg3; replace ha3 := hideIt ha3))
 all_goals
  have HB2 := hideIt (HE.out w2 w3 J n m3 _ (below_join HBw.out hb2) hoJ.out ho3.out hm3 hg3.out ha3.out)
  clear HE HJ HR HS HS3
  go_wp2_with fail
  go_end0
  exact ⟨rfl, _, HB2.out⟩
def lookV {α : Type} (C : MCode α) (l : List (Int × α)) (k : Int) : Value := match atK l k with
 | some y => C.V y
 | none => C.z
theorem run_look_ok {α : Type} {C : MCode α} {P : Program} {K t e : TypeId} (hK : P.underlying K = some (.int .i64)) (ht : P.underlying t = some (.map K e)) (hz : ∀ W, (zeroValue e).run P W = .ok C.z W) {w : World} {b n : Nat} {l : List (Int × α)} (h : MapIs C P K w b n l) {k : Int} (hk : (Lit.int .i64 k).wf = true) :
  (Instr.lookup t (.map (some b)) (.int .i64 k) true).run P w = .ok (.tuple #[lookV C l k, .bool (atK l k).isSome]) w := by
 obtain ⟨D, hown, ok⟩ := h
 obtain ⟨v, ps, hrun, hv⟩ := hown.look_ok (Maps.int_keyed hK) ht (hz w) C.zer (Maps.keyOf_int_mk hK hk)
 rw [ok.has k] at hrun
 have : v = lookV C l k := by
  unfold lookV
  cases hy : atK l k with
  | some y => rw [ok.at_ k y hy] at hv; exact (C.inv hv).1 y rfl
  | none =>
   have h2 := ok.has k
   rw [hy] at h2
   rw [Maps.atKey_of_not_has (by simpa using h2)] at hv
   exact (C.inv hv).2 rfl
 rw [<- this]
 exact hrun
theorem run_look {α : Type} {C : MCode α} {P : Program} {K t e : TypeId} (hK : P.underlying K = some (.int .i64)) (ht : P.underlying t = some (.map K e)) (hz : ∀ W, (zeroValue e).run P W = .ok C.z W) {w : World} {b n : Nat} {l : List (Int × α)} (h : MapIs C P K w b n l) {k : Int} (hk : (Lit.int .i64 k).wf = true) :
  (Instr.lookup t (.map (some b)) (.int .i64 k) false).run P w = .ok (lookV C l k) w := by
 obtain ⟨D, hown, ok⟩ := h
 obtain ⟨v, ps, hrun, hv⟩ := hown.lookup (Maps.int_keyed hK) ht (hz w) C.zer (Maps.keyOf_int_mk hK hk)
 have : v = lookV C l k := by
  unfold lookV
  cases hy : atK l k with
  | some y => rw [ok.at_ k y hy] at hv; exact (C.inv hv).1 y rfl
  | none =>
   have h2 := ok.has k
   rw [hy] at h2
   rw [Maps.atKey_of_not_has (by simpa using h2)] at hv
   exact (C.inv hv).2 rfl
 rw [<- this]
 exact hrun
structure ConX where
 plv : Value
 sm : Nat
 dm : Nat
 sl : List (Int × Nat)
 dl : List (Int × (Int × Bool))
 lv : Int -> Value
 u : Nat -> Prop
def doneAt (l : List StrS) (id : Int) : Option (Int × Bool) := if 0 <= id then (l[id.toNat]?).bind fun x => if x.done then some (x.final, x.reset) else none else none
structure ConAt (N : Nat) (w : World) (cb : Nat) (g : Cfg) (c : ConS) (a : ConX) : Prop where
 blk : ConBlk w cb g c a.plv a.sm a.dm (pastS c.streams)
 pk : ∃ vs, u_RunsAt w a.plv vs (prunL c.runs)
 smap : ∃ n, n <= N /\ MapIs ptrC Tryz.prog 3 w a.sm n a.sl
 dmap : ∃ n, n <= N /\ MapIs doneC Tryz.prog 3 w a.dm n a.dl
 mp : MapS g.c2 c.streams a.sl
 str : ∀ p ∈ a.sl, ∀ x, c.streams[p.1.toNat]? = some x -> StrAt a.u w p.2 (a.lv p.1) g.c2 x
 don : ∀ id, atK a.dl id = doneAt c.streams id
 ne : a.sm ≠ a.dm
 apart : ∀ p ∈ a.sl, ∀ q ∈ a.sl, p.1 ≠ q.1 -> p.2 ≠ q.2 /\ ∀ k, (a.lv p.1).ownBlock = some k -> (a.lv q.1).ownBlock ≠ some k
 ul : ∀ k, a.u k -> k < w.heap.size
def UIn (B : Nat) (a a' : ConX) : Prop := ∀ k, a'.u k -> a.u k \/ B <= k
def ConF (cb : Nat) (a : ConX) (k : Nat) : Prop := k = cb \/ a.plv.ownBlock = some k \/ k = a.sm \/ k = a.dm \/ ∃ p ∈ a.sl, k = p.2 \/ (a.lv p.1).ownBlock = some k
theorem ConAt.chg {F : Nat -> Prop} {N : Nat} {w w' : World} {cb : Nat} {g : Cfg} {c : ConS} {a : ConX} (h : ConAt N w cb g c a) (hc : Chg F w w') (hF : ∀ k, ConF cb a k -> ¬ F k) (h8 : ∀ k cur fr, w.heap[k]? = some (.cells cur 5 fr) -> ¬ F k) : ConAt N w' cb g c a := by
 obtain ⟨vs, hvs⟩ := h.pk
 obtain ⟨n1, hn1, hm1⟩ := h.smap
 obtain ⟨n2, hn2, hm2⟩ := h.dmap
 refine ⟨h.blk.chg hc (hF _ (Or.inl rfl)), ⟨vs, ?_⟩, ⟨n1, hn1, hm1.same (hc.block _ hm1.lt (hF _ (Or.inr (Or.inr (Or.inl rfl)))))⟩, ⟨n2, hn2, hm2.same (hc.block _ hm2.lt (hF _ (Or.inr (Or.inr (Or.inr (Or.inl rfl))))))⟩, h.mp, fun p hp x hx => ?_, h.don, h.ne, h.apart, fun k hk => Nat.lt_of_lt_of_le (h.ul k hk) hc.size⟩
 ·exact ⟨own_chg hvs.own hc (fun k hk => hF k (Or.inr (Or.inl hk))), hvs.sh⟩
 ·exact (h.str p hp x hx).chg hc (hF _ (Or.inr (Or.inr (Or.inr (Or.inr ⟨p, hp, Or.inl rfl⟩))))) (fun k hk => hF k (Or.inr (Or.inr (Or.inr (Or.inr ⟨p, hp, Or.inr hk⟩))))) h8
theorem ConAt.below {N : Nat} {w w' : World} {cb : Nat} {g : Cfg} {c : ConS} {a : ConX} (h : ConAt N w cb g c a) (hb : Below w.heap.size w w') : ConAt N w' cb g c a :=
 h.chg (F := fun _ => False) (Chg.of_below hb) (fun _ _ h => h) (fun _ _ _ _ h => h)
theorem ConAt.mono {N N' : Nat} {w : World} {cb : Nat} {g : Cfg} {c : ConS} {a : ConX} (h : ConAt N w cb g c a) (hn : N <= N') : ConAt N' w cb g c a := by
 obtain ⟨n1, hn1, hm1⟩ := h.smap
 obtain ⟨n2, hn2, hm2⟩ := h.dmap
 exact ⟨h.blk, h.pk, ⟨n1, Nat.le_trans hn1 hn, hm1⟩, ⟨n2, Nat.le_trans hn2 hn, hm2⟩, h.mp, h.str, h.don, h.ne, h.apart, h.ul⟩
theorem atK_key {α : Type} {l : List (Int × α)} {k : Int} (h : atK l k = none) : k ∉ l.map (·.1) := atK_none.1 h
structure StreamOut (N : Nat) (w : World) (cb : Nat) (g : Cfg) (c : ConS) (a : ConX) (sid : Int) (e : Ending) (w' : World) (b : Nat) (a' : ConX) : Prop where
 ret : e = .returned (.pointer (some ⟨b, 0, none⟩))
 con : ConAt (N + 1) w' cb g c a'
 mem : (sid, b) ∈ a'.sl
 chg : Chg (fun k => k = a.sm) w w'
 inn : ∀ k, ConF cb a' k -> ConF cb a k \/ w.heap.size <= k
 sub : ∀ k, ConF cb a k -> ConF cb a' k
 u : a'.u = a.u
theorem ConAt.made {N : Nat} {w w1 w2 : World} {cb : Nat} {g : Cfg} {c : ConS} {a : ConX} {sid : Int} {x : StrS} {b n : Nat} (h : ConAt N w cb g c a) (h0 : 0 <= sid) (hx : c.streams[sid.toNat]? = some x) (hd : x.done = false) (hno : atK a.sl sid = none) (hb : w.heap.size <= b) (hb1 : Below w.heap.size w w1) (hs1 : StrAt a.u w1 b (.slice none 0 0) g.c2 (strNew g.c2)) (hn : n <= N) (hm2 : MapIs ptrC Tryz.prog 3 w2 a.sm (n + 1) (a.sl ++ [(sid, b)])) (hg2 : w1.grownBy w2 (some a.sm)) :
  StreamOut N w cb g c a sid (.returned (.pointer (some ⟨b, 0, none⟩))) w2 b { a with sl := a.sl ++ [(sid, b)], lv := fun k => if k = sid then .slice none 0 0 else a.lv k } := by
 obtain ⟨n1, hn1, hm1⟩ := h.smap
 have hsm := hm1.lt
 obtain ⟨es, ck, hsb⟩ := hm1.is_map
 have hc12 : Chg (fun k => k = a.sm) w1 w2 := ⟨hg2.os, hg2.tape, hg2.output, hg2.size, fun k hk hne => hg2.block k hk (fun e => by injection e with e; exact hne e)⟩
 have hch : Chg (fun k => k = a.sm) w w2 := (Chg.of_below hb1).trans hc12
 have hnot : ∀ k cur e fr, w.heap[k]? = some (.cells cur e fr) -> ¬ k = a.sm := by
  intro k cur e fr hk e1
  subst e1
  rw [hsb] at hk
  cases hk
 have hkey := atK_key hno
 have hxn : x = strNew g.c2 := h.mp.non sid.toNat x hx hd (by rw [Int.toNat_of_nonneg h0]; exact hkey)
 have hsb1 : w1.heap[a.sm]? = some (.map es ck) := by rw [hb1.block _ hsm]; exact hsb
 have hne : ∀ p ∈ a.sl, p.1 ≠ sid := fun p hp e => hkey (List.mem_map.2 ⟨p, hp, e⟩)
 obtain ⟨n2, hn2, hm2'⟩ := h.dmap
 obtain ⟨es2, ck2, hdb⟩ := hm2'.is_map
 obtain ⟨vs, hvs⟩ := h.pk
 refine ⟨rfl, ⟨h.blk.chg hch (hnot _ _ _ _ h.blk), ⟨vs, own_chg hvs.own hch (fun k hk e => ?_), hvs.sh⟩, ⟨n + 1, by omega, hm2⟩, ⟨n2, by omega, ?_⟩, ?_, ?_, h.don, h.ne, ?_, fun k hk => Nat.lt_of_lt_of_le (h.ul k hk) hch.size⟩, by simp, hch, ?_, ?_, rfl⟩
 ·subst e
  obtain ⟨c1, e1⟩ := own_blockN hvs.own hk
  rw [hsb] at e1
  cases e1
 ·exact hm2'.same (hch.block _ hm2'.lt fun e => h.ne e.symm)
 ·refine ⟨?_, fun p hp => ?_, fun i y hy hyd hk => ?_⟩
  ·simp only [List.map_append, List.map_cons, List.map_nil]
   rw [List.nodup_append]
   refine ⟨h.mp.nd, by simp, fun k hk q hq e => hkey ?_⟩
   rw [<- List.mem_singleton.1 hq, <- e]
   exact hk
  ·rcases List.mem_append.1 hp with hp | hp
   ·exact h.mp.str p hp
   ·rw [List.mem_singleton.1 hp]
    exact ⟨h0, x, hx, hd⟩
  ·refine h.mp.non i y hy hyd fun hm => hk ?_
   simp only [List.map_append, List.mem_append]
   exact Or.inl hm
 ·intro p hp y hy
  rcases List.mem_append.1 hp with hp | hp
  ·have h1 := (h.str p hp y hy).below hb1
   simp only [if_neg (hne p hp)]
   refine h1.chg hc12 (fun e => ?_) (fun k hk e => ?_) (fun k cur fr hk e => ?_)
   ·have := h1.blk; rw [e, hsb1] at this; cases this
   ·obtain ⟨vs1, ho1⟩ := h1.own
    subst e
    obtain ⟨c1, e1⟩ := own_blockN ho1 hk
    rw [hsb1] at e1
    cases e1
   ·subst e; rw [hsb1] at hk; cases hk
  ·rw [List.mem_singleton.1 hp] at hy ⊢
   simp only at hy ⊢
   rw [hx] at hy
   simp only [Option.some.injEq] at hy
   subst hy
   simp only [if_true]
   rw [hxn]
   refine hs1.chg hc12 (fun e => ?_) (fun k hk e => ?_) (fun k cur fr hk e => ?_)
   ·have := hs1.blk; rw [e, hsb1] at this; cases this
   ·simp [Value.ownBlock] at hk
   ·subst e; rw [hsb1] at hk; cases hk
 ·intro p hp q hq hpq
  rcases List.mem_append.1 hp with hp | hp <;> rcases List.mem_append.1 hq with hq | hq
  ·simp only [if_neg (hne p hp), if_neg (hne q hq)]
   exact h.apart p hp q hq hpq
  ·rw [List.mem_singleton.1 hq]
   obtain ⟨hp0, y, hy, _⟩ := h.mp.str p hp
   have := (h.str p hp y hy).lt
   refine ⟨by simp only; omega, fun k hk => ?_⟩
   simp [Value.ownBlock]
  ·rw [List.mem_singleton.1 hp]
   obtain ⟨hp0, y, hy, _⟩ := h.mp.str q hq
   have := (h.str q hq y hy).lt
   refine ⟨by simp only; omega, fun k hk => ?_⟩
   simp [Value.ownBlock] at hk
  ·rw [List.mem_singleton.1 hp, List.mem_singleton.1 hq] at hpq
   exact absurd rfl hpq
 ·rintro k (e | e | e | e | ⟨p, hp, e⟩)
  ·exact Or.inl (Or.inl e)
  ·exact Or.inl (Or.inr (Or.inl e))
  ·exact Or.inl (Or.inr (Or.inr (Or.inl e)))
  ·exact Or.inl (Or.inr (Or.inr (Or.inr (Or.inl e))))
  ·rcases List.mem_append.1 hp with hp | hp
   ·simp only [if_neg (hne p hp)] at e
    exact Or.inl (Or.inr (Or.inr (Or.inr (Or.inr ⟨p, hp, e⟩))))
   ·rw [List.mem_singleton.1 hp] at e
    simp only [if_true] at e
    rcases e with e | e
    ·exact Or.inr (by rw [e]; exact hb)
    ·simp [Value.ownBlock] at e
 ·rintro k (e | e | e | e | ⟨p, hp, e⟩)
  ·exact Or.inl e
  ·exact Or.inr (Or.inl e)
  ·exact Or.inr (Or.inr (Or.inl e))
  ·exact Or.inr (Or.inr (Or.inr (Or.inl e)))
  ·refine Or.inr (Or.inr (Or.inr (Or.inr ⟨p, by simp [hp], ?_⟩)))
   simp only [if_neg (hne p hp)]
   exact e
theorem cstream_any (N cb : Nat) (g : Cfg) (c : ConS) (a : ConX) (sid : Int) (x : StrS) (w : World) (h : ConAt N w cb g c a) (hN : N < 1125899906842624) (h0 : 0 <= sid /\ sid <= 1073741823) (hx : c.streams[sid.toNat]? = some x) (hd : x.done = false) :
  Calls Tryz.prog 73 #[.pointer (some ⟨cb, 0, none⟩), .int .i64 sid] w fun e w' => ∃ b a', StreamOut N w cb g c a sid e w' b a' := by
 obtain ⟨n, hn, hm⟩ := h.smap
 have hwf : (Lit.int .i64 sid).wf = true := wf_key (by omega)
 have hlook := run_look (C := ptrC) (e := 140) Tryz.underlying3 Tryz.underlying134 (fun W => by kernel_rfl) hm hwf
 have c21 : w.cell? ⟨cb, 21, none⟩ = some (.map (some a.sm)) := h.blk.cell 21
 have c2 : w.cell? ⟨cb, 2, none⟩ = some (.int .i64 g.c2) := h.blk.cell 2
 cases hy : atK a.sl sid with
 | some b =>
  have hv : lookV ptrC a.sl sid = .pointer (some ⟨b, 0, none⟩) := by unfold lookV; rw [hy]; rfl
  rw [hv] at hlook
  have HE : Hid (StreamOut N w cb g c a sid (.returned (.pointer (some ⟨b, 0, none⟩))) w b a) := ⟨rfl, h.mono (Nat.le_succ _), mem_atK hy, Chg.refl _ _, fun k hk => Or.inl hk, fun k hk => hk, rfl⟩
  clear h hm hv hy hx hd
  go_enter Tryz.func73, Tryz.ntmps73
  go_wp2_with fail
  go_ret
  exact ⟨b, a, HE.out⟩
 | none =>
  have hv : lookV ptrC a.sl sid = .pointer none := by unfold lookV; rw [hy]; rfl
  rw [hv] at hlook
  have HT := hideIt (tNew_any g.c2 w)
  have HM := hideIt hm
  have HH := hideIt h
  have HY := hideIt hy
  have HX := hideIt hx
  clear h hm hv hy hx
  go_enter Tryz.func73, Tryz.ntmps73
  go_wp2_with fail
  refine HT.out.mono ?_
  rintro e w1 ⟨b, hb, rfl, hs1, hb1⟩
  have d21 := cell_below c21 hb1
  have HS1 := hideIt hs1
  have HB1 := hideIt hb1
  clear hs1 hb1 HT c21 c2 hlook
  go_wp2_with (first
   | (at_mapUpdate; refine wpList_mput (C := ptrC) _ rfl _ _ _ 134 rfl 140 Tryz.underlying3 Tryz.underlying134 a.sm n a.sl rfl (HM.out.same (HB1.out.block a.sm HM.out.lt)) (by unfold maxLen; omega) sid b rfl rfl hwf HY.out ?_; intro w2 hm2 hg2 hs2))
  have HE := hideIt (HH.out.made h0.1 HX.out hd HY.out hb HB1.out (HS1.out _) hn hm2 hg2)
  clear hm2 hg2
  go_ret
  exact ⟨b, _, HE.out⟩
theorem pastS_set {l : List StrS} : ∀ {i : Nat} {x y : StrS}, l[i]? = some x -> x.done = false -> y.done = false -> pastS (l.set i y) = pastS l := by
 induction l with
 | nil => intro i x y h; simp at h
 | cons a t ih =>
  intro i x y h h1 h2
  cases i with
  | zero =>
   simp only [List.getElem?_cons_zero, Option.some.injEq] at h
   subst h
   simp [pastS, h1, h2]
  | succ i =>
   have := ih (i := i) (x := x) (y := y) (by simpa using h) h1 h2
   simp only [pastS, List.set_cons_succ, List.filter_cons] at this ⊢
   split <;> simp [this]
theorem doneAt_set {l : List StrS} {i : Nat} {x y : StrS} (h : l[i]? = some x) (h1 : x.done = false) (h2 : y.done = false) (id : Int) : doneAt (l.set i y) id = doneAt l id := by
 unfold doneAt
 split
 ·by_cases e : id.toNat = i
  ·subst e
   rw [getElem?_set_at h, h]
   simp [h1, h2]
  ·rw [getElem?_set_other e]
 ·rfl
theorem ConBlk.streams {w : World} {cb : Nat} {g : Cfg} {c : ConS} {plv : Value} {sm dm : Nat} {past : Int} (h : ConBlk w cb g c plv sm dm past) (l : List StrS) (hl : l.length = c.streams.length) : ConBlk w cb g { c with streams := l } plv sm dm past := by
 unfold ConBlk conC at h ⊢
 simp only
 rw [hl]
 exact h
theorem ConAt.took {N : Nat} {w w' : World} {cb : Nat} {g : Cfg} {c : ConS} {a : ConX} {sid : Int} {b : Nat} {x y : StrS} {lv' : Value} (h : ConAt N w cb g c a) (hm : (sid, b) ∈ a.sl) (hx : c.streams[sid.toNat]? = some x) (hd : x.done = false) (hyd : y.done = false)
  (hc : Chg (fun k => k = b \/ (a.lv sid).ownBlock = some k) w w') (hy : StrAt (fun k => a.u k \/ (w.heap.size <= k /\ k < w'.heap.size)) w' b lv' g.c2 y) (hat : lv'.ownBlock = (a.lv sid).ownBlock \/ ∀ k, lv'.ownBlock = some k -> w.heap.size <= k) :
  ConAt N w' cb g { c with streams := c.streams.set sid.toNat y } { a with lv := fun k => if k = sid then lv' else a.lv k, u := fun k => a.u k \/ (w.heap.size <= k /\ k < w'.heap.size) } /\ ∀ k, ConF cb { a with lv := fun k => if k = sid then lv' else a.lv k, u := fun k => a.u k \/ (w.heap.size <= k /\ k < w'.heap.size) } k -> ConF cb a k \/ w.heap.size <= k := by
 have hsx := h.str (sid, b) hm x hx
 have hblk := hsx.blk
 obtain ⟨vs0, ho0⟩ := hsx.own
 have hF : ∀ k cur e fr, w.heap[k]? = some (.cells cur e fr) -> e ≠ 204 -> e ≠ 259 -> ¬ (k = b \/ (a.lv sid).ownBlock = some k) := by
  rintro k cur e fr hk h1 h2 (e1 | e1)
  ·subst e1
   simp only at hblk
   rw [hblk] at hk
   simp only [Option.some.injEq, Obj.cells.injEq] at hk
   exact h1 hk.2.1.symm
  ·exact own_not_blockN ho0 hk (fun e => h2 e.symm) e1
 have hFm : ∀ k es ck, w.heap[k]? = some (.map es ck) -> ¬ (k = b \/ (a.lv sid).ownBlock = some k) := by
  rintro k es ck hk (e1 | e1)
  ·subst e1
   simp only at hblk
   rw [hblk] at hk
   cases hk
  ·obtain ⟨c1, e2⟩ := own_blockN ho0 e1
   rw [hk] at e2
   cases e2
 obtain ⟨n1, hn1, hm1⟩ := h.smap
 obtain ⟨n2, hn2, hm2⟩ := h.dmap
 obtain ⟨es1, ck1, hb1⟩ := hm1.is_map
 obtain ⟨es2, ck2, hb2⟩ := hm2.is_map
 obtain ⟨vs, hvs⟩ := h.pk
 have h0 := (h.mp.str (sid, b) hm).1
 have hsame : ∀ p ∈ a.sl, p.1 = sid -> p.2 = b := by
  intro p hp e
  have h1 := atK_mem h.mp.nd (show (p.1, p.2) ∈ a.sl from hp)
  have h2 := atK_mem h.mp.nd hm
  rw [e, h2] at h1
  simp only [Option.some.injEq] at h1
  exact h1.symm
 constructor
 ·refine ⟨?_, ⟨vs, own_chg hvs.own hc (fun k hk e => ?_), hvs.sh⟩, ⟨n1, hn1, hm1.same (hc.block _ hm1.lt (hFm _ _ _ hb1))⟩, ⟨n2, hn2, hm2.same (hc.block _ hm2.lt (hFm _ _ _ hb2))⟩, ?_, ?_, ?_, h.ne, ?_, fun k hk => hk.elim (fun h1 => Nat.lt_of_lt_of_le (h.ul k h1) hc.size) (fun h1 => h1.2)⟩
  ·have h1 := (h.blk.chg hc (hF _ _ _ _ h.blk (by decide) (by decide))).streams (c.streams.set sid.toNat y) (by simp)
   simp only [pastS_set hx hd hyd]
   exact h1
  ·obtain ⟨c1, e1⟩ := own_blockN hvs.own hk
   exact hF _ _ _ _ e1 (by decide) (by decide) e
  ·refine ⟨h.mp.nd, fun p hp => ?_, fun i z hz hzd hk => ?_⟩
   ·obtain ⟨p0, z, hz, hzd⟩ := h.mp.str p hp
    refine ⟨p0, ?_⟩
    by_cases e : p.1.toNat = sid.toNat
    ·rw [e]
     exact ⟨y, getElem?_set_at hx, hyd⟩
    ·exact ⟨z, by simp only; rw [getElem?_set_other e]; exact hz, hzd⟩
   ·have hi : i ≠ sid.toNat := by
     intro e
     refine hk (List.mem_map.2 ⟨(sid, b), hm, ?_⟩)
     simp only
     rw [e]
     omega
    simp only at hz
    rw [getElem?_set_other hi] at hz
    exact h.mp.non i z hz hzd hk
  ·intro p hp z hz
   by_cases e : p.1 = sid
   ·simp only [if_pos e]
    rw [hsame p hp e]
    simp only at hz
    rw [e, getElem?_set_at hx] at hz
    simp only [Option.some.injEq] at hz
    subst hz
    exact hy
   ·simp only [if_neg e]
    have hp0 := (h.mp.str p hp).1
    have e2 : p.1.toNat ≠ sid.toNat := by omega
    simp only at hz
    rw [getElem?_set_other e2] at hz
    have hap := h.apart p hp (sid, b) hm e
    refine ((h.str p hp z hz).chg hc ?_ ?_ (fun k cur fr hk => hF k cur _ fr hk (by decide) (by decide))).mono (fun k hk => Or.inl hk)
    ·rintro (e3 | e3)
     ·exact hap.1 e3
     ·have hbp := (h.str p hp z hz).blk
      exact own_not_blockN ho0 hbp (by decide) e3
    ·rintro k hk (e3 | e3)
     ·obtain ⟨vs1, ho1⟩ := (h.str p hp z hz).own
      subst e3
      exact own_not_blockN ho1 hblk (by decide) hk
     ·exact hap.2 k hk e3
  ·intro id
   rw [h.don id]
   exact (doneAt_set hx hd hyd id).symm
  ·intro p hp q hq hpq
   by_cases e1 : p.1 = sid
   ·have e2 : q.1 ≠ sid := fun e => hpq (e1.trans e.symm)
    have hap := h.apart p hp q hq hpq
    refine ⟨hap.1, fun k hk => ?_⟩
    simp only [if_pos e1] at hk
    simp only [if_neg e2]
    rcases hat with e3 | e3
    ·rw [e3, <- e1] at hk
     exact hap.2 k hk
    ·intro hk2
     obtain ⟨q0, z, hz, _⟩ := h.mp.str q hq
     obtain ⟨vs1, ho1⟩ := (h.str q hq z hz).own
     have h1 := (ho1.lt k hk2).2
     have h2 := e3 k hk
     omega
   ·by_cases e2 : q.1 = sid
    ·have hap := h.apart p hp q hq hpq
     refine ⟨hap.1, fun k hk => ?_⟩
     simp only [if_neg e1] at hk
     simp only [if_pos e2]
     rcases hat with e3 | e3
     ·rw [e3, <- e2]
      exact hap.2 k hk
     ·intro hk2
      obtain ⟨p0, z, hz, _⟩ := h.mp.str p hp
      obtain ⟨vs1, ho1⟩ := (h.str p hp z hz).own
      have h1 := (ho1.lt k hk).2
      have h2 := e3 k hk2
      omega
    ·simp only [if_neg e1, if_neg e2]
     exact h.apart p hp q hq hpq
 ·rintro k (e | e | e | e | ⟨p, hp, e⟩)
  ·exact Or.inl (Or.inl e)
  ·exact Or.inl (Or.inr (Or.inl e))
  ·exact Or.inl (Or.inr (Or.inr (Or.inl e)))
  ·exact Or.inl (Or.inr (Or.inr (Or.inr (Or.inl e))))
  ·by_cases e1 : p.1 = sid
   ·simp only [if_pos e1] at e
    rcases e with e | e
    ·exact Or.inl (Or.inr (Or.inr (Or.inr (Or.inr ⟨p, hp, Or.inl e⟩))))
    ·rcases hat with e3 | e3
     ·rw [e3, <- e1] at e
      exact Or.inl (Or.inr (Or.inr (Or.inr (Or.inr ⟨p, hp, Or.inr e⟩))))
     ·exact Or.inr (e3 k e)
   ·simp only [if_neg e1] at e
    exact Or.inl (Or.inr (Or.inr (Or.inr (Or.inr ⟨p, hp, e⟩))))
end Go.Proofs.YthmdjhlhodpbhaaGreatDoor
