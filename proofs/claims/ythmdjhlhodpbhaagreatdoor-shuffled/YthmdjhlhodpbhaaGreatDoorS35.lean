/- Shuffled, 35 -/
import Derived.Test.YthmdjhlhodpbhaaGreatDoorS34
set_option maxHeartbeats 16000000
set_option maxRecDepth 8000
namespace Go.Proofs.YthmdjhlhodpbhaaGreatDoor
structure CutInv (n : Nat) (l : List (Int × Int)) (at_ : Int) : Prop where
 upto : 0 <= at_ /\ at_ <= n
 rng : ∀ q ∈ l, 0 <= q.1 /\ q.1 <= q.2 /\ q.2 <= n
 cov : ∀ p : Nat, (p : Int) < at_ -> ∃ q ∈ l, q.1 <= (p : Int) /\ (p : Int) < q.2
 len : (l.length : Int) <= at_
theorem CutInv.nil (n : Nat) : CutInv n [] 0 := ⟨by omega, by simp, fun p h => by omega, by simp⟩
theorem CutInv.snoc {n : Nat} {l : List (Int × Int)} {at_ fr tt : Int} (h : CutInv n l at_) (hf : 0 <= fr /\ fr <= at_) (ht : at_ < tt /\ tt <= n) : CutInv n (l ++ [(fr, tt)]) tt := by
 have h0 := h.upto
 refine ⟨by omega, fun q hq => ?_, fun p hp => ?_, ?_⟩
 ·rcases List.mem_append.1 hq with hq | hq
  ·exact h.rng q hq
  ·obtain rfl := List.mem_singleton.1 hq
   exact ⟨by omega, by simp only; omega, by omega⟩
 ·by_cases hc : (p : Int) < at_
  ·obtain ⟨q, hq, e⟩ := h.cov p hc
   exact ⟨q, List.mem_append_left _ hq, e⟩
  ·exact ⟨(fr, tt), by simp, by simp only; omega, hp⟩
 ·have := h.len
  simp only [List.length_append, List.length_singleton]
  omega
structure SentInv (n : Nat) (l : List (Int × Int)) (i : Nat) (T : Nat -> Bool) (fin : Int) : Prop where
 rng : ∀ q ∈ l, 0 <= q.1 /\ q.1 <= q.2 /\ q.2 <= n
 cov : ∀ p : Nat, p < n -> T p = true \/ ∃ (j : Nat) (q : Int × Int), i <= j /\ l[j]? = some q /\ q.1 <= (p : Int) /\ (p : Int) < q.2
 fin : fin = n \/ ∃ (j : Nat) (q : Int × Int), i <= j /\ l[j]? = some q /\ q.2 = n
 len : l.length <= n + 1
theorem CutInv.done {n : Nat} {l : List (Int × Int)} {at_ : Int} (h : CutInv n l at_) : SentInv n (l ++ [(at_, (n : Int))]) 0 (fun _ => false) (-1) := by
 have h0 := h.upto
 refine ⟨fun q hq => ?_, fun p hp => Or.inr ?_, Or.inr ⟨l.length, (at_, (n : Int)), Nat.zero_le _, by simp, rfl⟩, ?_⟩
 ·rcases List.mem_append.1 hq with hq | hq
  ·exact h.rng q hq
  ·obtain rfl := List.mem_singleton.1 hq
   exact ⟨by omega, by simp only; omega, by simp only; omega⟩
 ·by_cases hc : (p : Int) < at_
  ·obtain ⟨q, hq, e⟩ := h.cov p hc
   obtain ⟨j, hj, hjq⟩ := List.getElem_of_mem hq
   exact ⟨j, q, Nat.zero_le _, by rw [List.getElem?_append_left hj, List.getElem?_eq_getElem hj, hjq], e⟩
  ·exact ⟨l.length, (at_, (n : Int)), Nat.zero_le _, by simp, by simp only; omega, by simp only; omega⟩
 ·have := h.len
  simp only [List.length_append, List.length_singleton]
  omega
def pairAt (l : List (Int × Int)) (j : Nat) : Int × Int := l.getD j (0, 0)
theorem pairAt_some {l : List (Int × Int)} {j : Nat} (h : j < l.length) : l[j]? = some (pairAt l j) := by
 unfold pairAt
 rw [List.getD_eq_getElem?_getD, List.getElem?_eq_getElem h]
 rfl
theorem pairAt_fst (l : List (Int × Int)) (j : Nat) : (l.map (·.1)).getD j 0 = (pairAt l j).1 := by
 unfold pairAt
 simp only [List.getD_eq_getElem?_getD, List.getElem?_map]
 cases l[j]? <;> rfl
theorem pairAt_snd (l : List (Int × Int)) (j : Nat) : (l.map (·.2)).getD j 0 = (pairAt l j).2 := by
 unfold pairAt
 simp only [List.getD_eq_getElem?_getD, List.getElem?_map]
 cases l[j]? <;> rfl
def swapL (l : List (Int × Int)) (i j : Nat) : List (Int × Int) := (l.set j (pairAt l i)).set i (pairAt l j)
theorem swapL_len (l : List (Int × Int)) (i j : Nat) : (swapL l i j).length = l.length := by simp [swapL]
theorem SentInv.step {n : Nat} {l : List (Int × Int)} {i : Nat} {T : Nat -> Bool} {fin fin' : Int} (h : SentInv n l i T fin) {j : Nat} (hij : i <= j) (hj : j < l.length) (hf : (pairAt l j).2 = n \/ fin = n -> fin' = n) : SentInv n (swapL l i j) (i + 1) (plusT T (pairAt l j).1 (pairAt l j).2) fin' := by
 have hi : i < l.length := by omega
 have away : ∀ (j' : Nat) (q : Int × Int), i <= j' -> l[j']? = some q -> q = pairAt l j \/ ∃ j2, i + 1 <= j2 /\ (swapL l i j)[j2]? = some q := by
  intro j' q h1 h2
  by_cases e1 : j' = j
  ·subst e1
   rw [pairAt_some hj] at h2
   exact Or.inl (by simpa using h2.symm)
  ·by_cases e2 : j' = i
   ·subst e2
    refine Or.inr ⟨j, by omega, ?_⟩
    unfold swapL
    rw [List.getElem?_set_ne e1, List.getElem?_set_self hj]
    rw [pairAt_some hi] at h2
    exact h2
   ·refine Or.inr ⟨j', by omega, ?_⟩
    unfold swapL
    rw [List.getElem?_set_ne (Ne.symm e2), List.getElem?_set_ne (Ne.symm e1)]
    exact h2
 refine ⟨fun q hq => ?_, fun p hp => ?_, ?_, by rw [swapL_len]; exact h.len⟩
 ·rcases List.mem_or_eq_of_mem_set hq with hq | rfl
  ·rcases List.mem_or_eq_of_mem_set hq with hq | rfl
   ·exact h.rng q hq
   ·exact h.rng _ (List.mem_of_getElem? (pairAt_some hi))
  ·exact h.rng _ (List.mem_of_getElem? (pairAt_some hj))
 ·unfold plusT
  rcases h.cov p hp with e | ⟨j', q, h1, h2, h3, h4⟩
  ·exact Or.inl (by rw [e]; rfl)
  ·rcases away j' q h1 h2 with rfl | ⟨j2, k1, k2⟩
   ·exact Or.inl (by rw [decide_eq_true h3, decide_eq_true h4]; simp)
   ·exact Or.inr ⟨j2, q, k1, k2, h3, h4⟩
 ·rcases h.fin with e | ⟨j', q, h1, h2, h3⟩
  ·exact Or.inl (hf (Or.inr e))
  ·rcases away j' q h1 h2 with rfl | ⟨j2, k1, k2⟩
   ·exact Or.inl (hf (Or.inl h3))
   ·exact Or.inr ⟨j2, q, k1, k2, h3⟩
theorem SentInv.all {n : Nat} {l : List (Int × Int)} {T : Nat -> Bool} {fin : Int} (h : SentInv n l l.length T fin) : (∀ p, p < n -> T p = true) /\ fin = n := by
 refine ⟨fun p hp => ?_, ?_⟩
 ·rcases h.cov p hp with e | ⟨j, q, h1, h2, _⟩
  ·exact e
  ·rw [List.getElem?_eq_none h1] at h2
   cases h2
 ·rcases h.fin with e | ⟨j, q, h1, h2, _⟩
  ·exact e
  ·rw [List.getElem?_eq_none h1] at h2
   cases h2
end Go.Proofs.YthmdjhlhodpbhaaGreatDoor
namespace Go.Proofs.YthmdjhlhodpbhaaGreatDoor
open Go.RowKit
theorem tdiv6_range {c : Int} (h : -9223372036854775808 <= c /\ c <= 9223372036854775807) : -9223372036854775808 <= c.tdiv 6 /\ c.tdiv 6 <= 9223372036854775807 := by
 rcases Int.lt_or_le c 0 with hc | hc
 ·have e : c.tdiv 6 = -((-c).tdiv 6) := by rw [Int.neg_tdiv, Int.neg_neg]
  rw [e, Int.tdiv_eq_ediv_of_nonneg (by omega)]
  omega
 ·rw [Int.tdiv_eq_ediv_of_nonneg hc]
  omega
theorem wrap64_tdiv {c : Int} (h : -9223372036854775808 <= c /\ c <= 9223372036854775807) : wrap64 (c.tdiv 6) = c.tdiv 6 := by
 have := tdiv6_range h
 unfold wrap64
 omega
theorem plusT_twice (T : Nat -> Bool) (a b : Int) : plusT (plusT T a b) a b = plusT T a b := by
 funext i
 unfold plusT
 rw [Bool.or_assoc, Bool.or_self]
theorem shuf_again {g : Cfg} (hg : CfgOk g) {n : Nat} {T : Nat -> Bool} {y : StrS} {a b : Int} (h : Shuf g n (plusT T a b) y) (hab : 0 <= a /\ a <= b /\ b <= n) (hn : (n : Int) <= g.c2) {got sent p : Int} {R R' : List (Int × Int)} (hp : 0 <= p /\ p <= 1073741823) (hcom : comesS 0 R p = some (0, R')) (hr : ¬ g.c4 < runsB (plusT T a b) n) :
  ∃ got' y', receiveS (shufS g got sent R y) 1 (dataL 300 p (pieceL (if b = n then 4 else 3) 0 a b)) = (shufS g got' sent R' y', []) /\ Shuf g n (plusT T a b) y' /\ (b = n \/ y.final = n -> y'.final = n) := by
 have q := (shuf_recv hg h hab hn (got := got) (sent := sent) hp hcom).2
 rw [plusT_twice] at q
 exact q hr
structure ShX where
 w : World
 w0 : World
 b1 : Nat
 sb : Nat
 xb : Nat
 mb : Nat
 fb : Nat
 fc : Nat
 tb : Nat
 tc : Nat
 K : Nat
 G : Cfg
structure ShAt (x : ShX) (N : Nat) (M L : Int) (s : SrvS) (T : Nat -> Bool) (PL : List (Int × Int)) (wx : World) : Prop where
 a1 : x.w.heap.size <= x.b1
 a2 : x.w0.heap.size <= x.b1
 a3 : x.b1 <= x.mb
 len : PL.length = x.K
 live : Live x.w0 N M L wx x.sb s
 two : TwoL x.b1 wx (.slice (some ⟨x.fb, 0, none⟩) x.K x.fc) (.slice (some ⟨x.tb, 0, none⟩) x.K x.tc) PL
 marks : MarksAt wx x.mb T
 box : wx.heap[x.xb]? = some (.cells (clientC x.sb x.G) 42 (0, 0))
 bel : Below x.w.heap.size x.w wx
theorem ShAt.below {x : ShX} {N : Nat} {M L : Int} {s : SrvS} {T : Nat -> Bool} {PL : List (Int × Int)} {wx wy : World} (h : ShAt x N M L s T PL wx) (hb : Below wx.heap.size wx wy) : ShAt x N M L s T PL wy :=
 ⟨h.a1, h.a2, h.a3, h.len, h.live.below hb, h.two.below hb, h.marks.below hb, box_below h.box hb, below_join h.bel hb⟩
theorem ShAt.mono {x : ShX} {N N' : Nat} {M M' L L' : Int} {s : SrvS} {T : Nat -> Bool} {PL : List (Int × Int)} {wx : World} (h : ShAt x N M L s T PL wx) (h1 : N <= N') (h2 : M <= M') (h3 : L <= L') : ShAt x N' M' L' s T PL wx :=
 ⟨h.a1, h.a2, h.a3, h.len, h.live.mono h1 h2 h3, h.two, h.marks, h.box, h.bel⟩
theorem below_setCell {B : Nat} {w wr : World} (h : Below B w wr) {g i : Nat} (u : Value) (hg : B <= g) : Below B w (wr.setCell ⟨g, i, none⟩ u) :=
 ⟨h.os, h.tape, h.output, by rw [World.size_setCell]; exact h.size, fun k hk => by rw [Below.heap_setCell _ _ _ _ (show k ≠ g by omega)]; exact h.block k hk⟩
theorem ShAt.lows {x : ShX} {N : Nat} {M L : Int} {s : SrvS} {T : Nat -> Bool} {PL : List (Int × Int)} {wx : World} (h : ShAt x N M L s T PL wx) : (x.b1 <= x.fb /\ ∃ cur, wx.heap[x.fb]? = some (.cells cur 3 (0, 0))) /\ (x.b1 <= x.tb /\ ∃ cur, wx.heap[x.tb]? = some (.cells cur 3 (0, 0))) /\ x.fb ≠ x.tb :=
 ⟨⟨(own_ltS h.two.f rfl).2, own_block h.two.f rfl⟩, ⟨(own_ltS h.two.t rfl).2, own_block h.two.t rfl⟩, fun e => h.two.ap x.fb rfl (by rw [e]; rfl)⟩
theorem ShAt.put {x : ShX} {N : Nat} {M L : Int} {s : SrvS} {T : Nat -> Bool} {PL : List (Int × Int)} {wx : World} (h : ShAt x N M L s T PL wx) (i : Nat) (a b : Int) : ShAt x N M L s T (PL.set i (a, b)) ((wx.setCell ⟨x.fb, i, none⟩ (.int .i64 a)).setCell ⟨x.tb, i, none⟩ (.int .i64 b)) := by
 obtain ⟨⟨hf1, cf, hf2⟩, ⟨ht1, ct, ht2⟩, hne⟩ := h.lows
 have a1 := h.a1
 have a2 := h.a2
 have hc1 := chg_setc wx x.fb i (.int .i64 a)
 have ht3 : (wx.setCell ⟨x.fb, i, none⟩ (.int .i64 a)).heap[x.tb]? = some (.cells ct 3 (0, 0)) := by
  rw [hc1.block x.tb (Array.getElem?_eq_some_iff.1 ht2).1 (Ne.symm hne)]
  exact ht2
 have hc2 := chg_setc (wx.setCell ⟨x.fb, i, none⟩ (.int .i64 a)) x.tb i (.int .i64 b)
 have hL1 := h.live.other (T := 3) (by simp [SrvT]) hc1 (fun k e => by subst e; exact ⟨by omega, cf, _, hf2⟩)
 have hL2 := hL1.other (T := 3) (by simp [SrvT]) hc2 (fun k e => by subst e; exact ⟨by omega, ct, _, ht3⟩)
 obtain ⟨cm, hm1, hm2⟩ := h.marks
 have n1 : x.mb ≠ x.fb := fun e => by rw [e, hf2] at hm1; simp at hm1
 have n2 : x.mb ≠ x.tb := fun e => by rw [e, ht2] at hm1; simp at hm1
 have n3 : x.xb ≠ x.fb := fun e => by have hb := h.box; rw [e, hf2] at hb; simp at hb
 have n4 : x.xb ≠ x.tb := fun e => by have hb := h.box; rw [e, ht2] at hb; simp at hb
 refine ⟨h.a1, h.a2, h.a3, by rw [List.length_set]; exact h.len, hL2, ?_, (h.marks.chg hc1 n1).chg hc2 n2, ?_, below_setCell (below_setCell h.bel _ (by omega)) _ (by omega)⟩
 ·have q := (h.len ▸ h.two : TwoL x.b1 wx (.slice (some ⟨x.fb, 0, none⟩) PL.length x.fc) (.slice (some ⟨x.tb, 0, none⟩) PL.length x.tc) PL).put i a b
  rw [h.len] at q
  exact q
 ·rw [hc2.block x.xb (by rw [World.size_setCell]; exact (Array.getElem?_eq_some_iff.1 h.box).1) n4, hc1.block x.xb (Array.getElem?_eq_some_iff.1 h.box).1 n3]
  exact h.box
theorem ShAt.mark {x : ShX} {N : Nat} {M L : Int} {s : SrvS} {T T' : Nat -> Bool} {PL : List (Int × Int)} {wx : World} (h : ShAt x N M L s T PL wx) (p : Nat) (hT : ∀ i, T' i = (T i || decide (i = p))) : ShAt x N M L s T' PL (wx.setCell ⟨x.mb, p, none⟩ (.bool true)) := by
 obtain ⟨⟨hf1, cf, hf2⟩, ⟨ht1, ct, ht2⟩, hne⟩ := h.lows
 have a1 := h.a1
 have a2 := h.a2
 have a3 := h.a3
 obtain ⟨cm, hm1, hm2⟩ := h.marks
 have hc := chg_setc wx x.mb p (.bool true)
 refine ⟨h.a1, h.a2, h.a3, h.len, h.live.other (T := 62) (by simp [SrvT]) hc (fun k e => by subst e; exact ⟨by omega, cm, _, hm1⟩), h.two.chg hc (fun g cur fr hg e => by subst e; rw [hm1] at hg; simp at hg), h.marks.set p hT, ?_, below_setCell h.bel _ (by omega)⟩
 rw [hc.block x.xb (Array.getElem?_eq_some_iff.1 h.box).1 (fun e => by have hb := h.box; rw [e, hm1] at hb; simp at hb)]
 exact h.box
theorem ShAt.sf {x : ShX} {N N' : Nat} {M M' L L' : Int} {s s' : SrvS} {T : Nat -> Bool} {PL : List (Int × Int)} {wx wy : World} (h : ShAt x N M L s T PL wx) (hL : Live x.w0 N' M' L' wy x.sb s') (hc : Chg (SF x.w0 wx) wx wy) (hw : x.w0.heap.size = x.w.heap.size + 1) (hb0 : Below x.w.heap.size x.w x.w0) : ShAt x N' M' L' s' T PL wy := by
 refine ⟨h.a1, h.a2, h.a3, h.len, hL, h.two.chg hc (fun g cur fr hg => SF.not hg (by simp [SrvT])), ?_, box_sf h.box (by simp [SrvT]) hc, ?_⟩
 ·obtain ⟨cm, hm1, _⟩ := h.marks
  exact h.marks.chg hc (SF.not hm1 (by simp [SrvT]))
 ·have hb1 := hL.bel
  exact ⟨hb1.os.trans hb0.os, hb1.tape.trans hb0.tape, hb1.output.trans hb0.output, Nat.le_trans hb0.size hb1.size, fun k hk => by rw [hb1.block k (by omega), hb0.block k hk]⟩
theorem ShAt.recv {x : ShX} {N : Nat} {M L : Int} {s : SrvS} {T : Nat -> Bool} {PL : List (Int × Int)} {wx : World} (h : ShAt x N M L s T PL wx) (hE : Env x.w0) (hw : x.w0.heap.size = x.w.heap.size + 1) (hb0 : Below x.w.heap.size x.w x.w0) {b : List Int} {bv : Value} (hbv : RdB wx bv b) (hl : b.length <= 140) (hM0 : 0 <= M) (hM : M <= 1000000) (hN : N <= 1000000) :
  Calls Tryz.prog 20 #[.pointer (some ⟨x.sb, 0, none⟩), .int .i64 1, bv] wx fun e w' => ∃ oa on oc, e = .returned (.slice oa on oc) /\ Hid (OutsAt w' wx.heap.size (.slice oa on oc) (receiveS s 1 b).2 /\ ShAt x (N + 150) (M + 250) (L + 2) (receiveS s 1 b).1 T PL w') /\ w'.cell? ⟨x.xb, 0, none⟩ = some (.pointer (some ⟨x.sb, 0, none⟩)) := by
 refine (h.live.receive hE 1 hbv (by omega) hM0 (by omega) (by omega)).mono ?_
 rintro e w' ⟨⟨v, rfl, ho⟩, hL, hc⟩
 obtain ⟨oa, oc, e2⟩ := ho.form
 have h2 := h.sf (hL.mono (N' := N + 150) (M' := M + 250) (L' := L + 2) (by omega) (by omega) (by omega)) hc hw hb0
 exact ⟨oa, _, oc, by rw [e2], ⟨e2 ▸ ho, h2⟩, box_cells h2.box 0⟩
end Go.Proofs.YthmdjhlhodpbhaaGreatDoor
