/- Shuffled, 4 -/
import Derived.Test.YthmdjhlhodpbhaaGreatDoorS00
import Derived.Test.YthmdjhlhodpbhaaGreatDoorS02
set_option maxHeartbeats 16000000
set_option maxRecDepth 8000
namespace Go.Proofs.YthmdjhlhodpbhaaGreatDoor
abbrev RunL := Int × List Int
def pvAt : List RunL -> Int -> Option Int
 | [], _ => none
 | r :: t, p => if r.1 <= p /\ p < r.1 + r.2.length then r.2[(p - r.1).toNat]? else pvAt t p
def RunsWf : List RunL -> Prop
 | [] => True
 | r :: t => 0 < r.2.length /\ (∀ q ∈ t, r.1 + r.2.length < q.1) /\ RunsWf t
def valL (base : Int) (l : List Int) (p : Int) : Option Int :=
 if base <= p then (match l[(p - base).toNat]? with | some x => if 0 <= x then some x else none | none => none) else none
def consRun (base : Int) (x : Int) : List RunL -> List RunL
 | [] => [(base, [x])]
 | r :: t => if r.1 = base + 1 then (base, x :: r.2) :: t else (base, [x]) :: r :: t
def runsOf (base : Int) : List Int -> List RunL
 | [] => []
 | x :: l => if 0 <= x then consRun base x (runsOf (base + 1) l) else runsOf (base + 1) l
theorem runsWf_mem {l : List RunL} (h : RunsWf l) {r : RunL} (hr : r ∈ l) : 0 < r.2.length := by
 induction l with
 | nil => cases hr
 | cons a t ih =>
  rcases List.mem_cons.1 hr with rfl | hr
  ·exact h.1
  ·exact ih h.2.2 hr
theorem pvAt_below {l : List RunL} {p : Int} (h : ∀ q ∈ l, p < q.1) : pvAt l p = none := by
 induction l with
 | nil => rfl
 | cons r t ih =>
  have h1 := h r (by simp)
  unfold pvAt
  rw [if_neg (by omega)]
  exact ih (fun q hq => h q (by simp [hq]))
theorem pvAt_some {l : List RunL} {p x : Int} (h : pvAt l p = some x) : ∃ r ∈ l, r.1 <= p /\ p < r.1 + r.2.length := by
 induction l with
 | nil => cases h
 | cons r t ih =>
  unfold pvAt at h
  split at h
  ·rename_i hc
   exact ⟨r, by simp, hc⟩
  ·obtain ⟨q, hq, hc⟩ := ih h
   exact ⟨q, by simp [hq], hc⟩
theorem pvAt_in {r : RunL} {t : List RunL} {p : Int} (h : r.1 <= p /\ p < r.1 + r.2.length) : pvAt (r :: t) p = r.2[(p - r.1).toNat]? := by
 unfold pvAt
 rw [if_pos h]
theorem pvAt_out {r : RunL} {t : List RunL} {p : Int} (h : ¬ (r.1 <= p /\ p < r.1 + r.2.length)) : pvAt (r :: t) p = pvAt t p := by
 conv => lhs; unfold pvAt
 rw [if_neg h]
theorem pvAt_in_some {r : RunL} {t : List RunL} {p : Int} (h : r.1 <= p /\ p < r.1 + r.2.length) : ∃ x, pvAt (r :: t) p = some x := by
 rw [pvAt_in h]
 exact ⟨_, List.getElem?_eq_getElem (by omega)⟩
theorem runs_ext : ∀ {a b : List RunL}, RunsWf a -> RunsWf b -> (∀ p, pvAt a p = pvAt b p) -> a = b
 | [], [], _, _, _ => rfl
 | [], r :: t, _, hb, h => by
  have := h r.1
  obtain ⟨x, hx⟩ := pvAt_in_some (r := r) (t := t) (p := r.1) ⟨by omega, by have := hb.1; omega⟩
  rw [hx] at this
  cases this
 | r :: t, [], ha, _, h => by
  have := h r.1
  obtain ⟨x, hx⟩ := pvAt_in_some (r := r) (t := t) (p := r.1) ⟨by omega, by have := ha.1; omega⟩
  rw [hx] at this
  cases this
 | r :: t, s :: u, ha, hb, h => by
  have hr := ha.1
  have hs := hb.1
  have e1 : r.1 = s.1 := by
   rcases Int.lt_trichotomy r.1 s.1 with h1 | h1 | h1
   ·have h2 := h r.1
    rw [pvAt_below (l := s :: u) (fun q hq => by
     rcases List.mem_cons.1 hq with rfl | hq
     ·exact h1
     ·have := hb.2.1 q hq; omega)] at h2
    obtain ⟨x, hx⟩ := pvAt_in_some (r := r) (t := t) (p := r.1) ⟨by omega, by omega⟩
    rw [hx] at h2
    cases h2
   ·exact h1
   ·have h2 := h s.1
    rw [pvAt_below (l := r :: t) (fun q hq => by
     rcases List.mem_cons.1 hq with rfl | hq
     ·exact h1
     ·have := ha.2.1 q hq; omega)] at h2
    obtain ⟨x, hx⟩ := pvAt_in_some (r := s) (t := u) (p := s.1) ⟨by omega, by omega⟩
    rw [hx] at h2
    cases h2
  have endsAt : ∀ {r s : RunL} {t u : List RunL}, RunsWf (r :: t) -> 0 < s.2.length -> r.1 = s.1 -> r.2.length < s.2.length -> (∀ p, pvAt (r :: t) p = pvAt (s :: u) p) -> False := by
   intro r s t u ha hs e1 hlt h
   have h2 := h (r.1 + r.2.length)
   rw [pvAt_out (by omega), pvAt_below (fun q hq => by have := ha.2.1 q hq; omega)] at h2
   obtain ⟨x, hx⟩ := pvAt_in_some (r := s) (t := u) (p := r.1 + r.2.length) ⟨by omega, by omega⟩
   rw [hx] at h2
   cases h2
  have e2 : r.2.length = s.2.length := by
   rcases Nat.lt_trichotomy r.2.length s.2.length with h1 | h1 | h1
   ·exact (endsAt ha hs e1 h1 h).elim
   ·exact h1
   ·exact (endsAt hb hr e1.symm h1 (fun p => (h p).symm)).elim
  have e3 : r.2 = s.2 := by
   apply List.ext_getElem?
   intro i
   rcases Nat.lt_or_ge i r.2.length with hi | hi
   ·have h2 := h (r.1 + i)
    rw [pvAt_in ⟨by omega, by omega⟩, pvAt_in ⟨by omega, by omega⟩] at h2
    have e4 : (r.1 + (i : Int) - r.1).toNat = i := by omega
    have e5 : (r.1 + (i : Int) - s.1).toNat = i := by omega
    rw [e4, e5] at h2
    exact h2
   ·rw [List.getElem?_eq_none hi, List.getElem?_eq_none (by omega)]
  have e4 : r = s := Prod.ext e1 e3
  subst e4
  congr 1
  refine runs_ext ha.2.2 hb.2.2 fun p => ?_
  by_cases hc : r.1 <= p /\ p < r.1 + r.2.length
  ·rw [pvAt_below (fun q hq => by have := ha.2.1 q hq; omega), pvAt_below (fun q hq => by have := hb.2.1 q hq; omega)]
  ·have h2 := h p
   rw [pvAt_out hc, pvAt_out hc] at h2
   exact h2
theorem runsOf_from (l : List Int) : ∀ (base : Int), ∀ q ∈ runsOf base l, base <= q.1 := by
 induction l with
 | nil => intro base q hq; simp [runsOf] at hq
 | cons x l ih =>
  intro base q hq
  unfold runsOf at hq
  split at hq
  ·unfold consRun at hq
   split at hq
   ·simp at hq; subst hq; simp
   ·rename_i r t he
    have h1 : ∀ q ∈ r :: t, base + 1 <= q.1 := fun q hq => ih (base + 1) q (by rw [he]; exact hq)
    split at hq
    ·rcases List.mem_cons.1 hq with rfl | hq
     ·simp
     ·have := h1 q (by simp [hq]); omega
    ·rcases List.mem_cons.1 hq with rfl | hq
     ·simp
     ·have := h1 q hq; omega
  ·have := ih (base + 1) q hq; omega
theorem runsOf_wf (l : List Int) : ∀ (base : Int), RunsWf (runsOf base l) := by
 induction l with
 | nil => intro base; exact trivial
 | cons x l ih =>
  intro base
  have h0 := ih (base + 1)
  have h1 := runsOf_from l (base + 1)
  unfold runsOf
  split
  ·unfold consRun
   split
   ·exact ⟨by simp, by simp, trivial⟩
   ·rename_i r t he
    rw [he] at h0 h1
    split
    ·rename_i e
     exact ⟨by simp, fun q hq => by have := h0.2.1 q hq; simp only [List.length_cons]; omega, h0.2.2⟩
    ·rename_i e
     refine ⟨by simp, fun q hq => ?_, h0⟩
     have h2 := h1 r (by simp)
     rcases List.mem_cons.1 hq with rfl | hq
     ·simp; omega
     ·have := h0.2.1 q hq; have := h0.1; simp; omega
  ·exact h0
theorem valL_cons (base x : Int) (l : List Int) (p : Int) : valL base (x :: l) p = if p = base then (if 0 <= x then some x else none) else valL (base + 1) l p := by
 unfold valL
 by_cases h : p = base
 ·subst h
  simp
 ·rw [if_neg h]
  by_cases h1 : base <= p
  ·rw [if_pos h1, if_pos (by omega)]
   have e : (p - base).toNat = (p - (base + 1)).toNat + 1 := by omega
   rw [e, List.getElem?_cons_succ]
  ·rw [if_neg h1, if_neg (by omega)]
theorem pvAt_consRun {base x : Int} {rs : List RunL} (h1 : ∀ q ∈ rs, base + 1 <= q.1) (p : Int) : pvAt (consRun base x rs) p = if p = base then some x else pvAt rs p := by
 by_cases hp : p = base
 ·subst hp
  rw [if_pos rfl]
  unfold consRun
  split
  ·rw [pvAt_in ⟨by simp, by simp; omega⟩]; simp
  ·split
   ·rw [pvAt_in ⟨by simp, by simp only [List.length_cons]; omega⟩]; simp
   ·rw [pvAt_in ⟨by simp, by simp; omega⟩]; simp
 ·rw [if_neg hp]
  unfold consRun
  split
  ·rw [pvAt_out (by simp; omega)]
  ·rename_i r t
   split
   ·rename_i e
    by_cases hc : r.1 <= p /\ p < r.1 + r.2.length
    ·rw [pvAt_in hc, pvAt_in (by simp only [List.length_cons]; omega)]
     have e4 : (p - base).toNat = (p - r.1).toNat + 1 := by omega
     rw [e4, List.getElem?_cons_succ]
    ·rw [pvAt_out hc, pvAt_out (by simp only [List.length_cons]; omega)]
   ·rw [pvAt_out (by simp; omega)]
theorem pvAt_runsOf (l : List Int) : ∀ (base p : Int), pvAt (runsOf base l) p = valL base l p := by
 induction l with
 | nil => intro base p; unfold valL runsOf pvAt; simp
 | cons x l ih =>
  intro base p
  have h1 := runsOf_from l (base + 1)
  rw [valL_cons, <- ih]
  conv => lhs; unfold runsOf
  by_cases hx : 0 <= x
  ·rw [if_pos hx, if_pos hx, pvAt_consRun h1]
  ·rw [if_neg hx, if_neg hx]
   by_cases hp : p = base
   ·subst hp
    rw [if_pos rfl]
    exact pvAt_below (fun q hq => by have := h1 q hq; omega)
   ·rw [if_neg hp]
def behindR (r : RunL) : Int := r.1 + r.2.length
def overlay (l : List Int) (k : Nat) (it : List Int) : List Int := l.take k ++ it ++ l.drop (k + it.length)
def loR (r : RunL) (M : List RunL) : Int := M.foldl (fun m q => min m q.1) r.1
def hiR (r : RunL) (M : List RunL) : Int := M.foldl (fun m q => max m (behindR q)) (behindR r)
def layR (lo : Int) (L : List Int) (M : List RunL) : List Int := M.foldl (fun L q => overlay L (q.1 - lo).toNat q.2) L
def joinR (r : RunL) (M : List RunL) : RunL :=
 (loR r M, layR (loR r M) (overlay (List.replicate (hiR r M - loR r M).toNat 0) (r.1 - loR r M).toNat r.2) M)
def fromR (rl : List RunL) (r : RunL) : Nat := (rl.takeWhile fun q => decide (behindR q < r.1)).length
def toR (rl : List RunL) (r : RunL) : Nat := fromR rl r + ((rl.drop (fromR rl r)).takeWhile fun q => decide (q.1 <= behindR r)).length
def fillR (rl : List RunL) (first : Int) (items : List Int) : List RunL :=
 if items = [] then rl else rl.take (fromR rl (first, items)) ++ joinR (first, items) ((rl.drop (fromR rl (first, items))).take (toR rl (first, items) - fromR rl (first, items))) :: rl.drop (toR rl (first, items))
theorem pvAt_append (a b : List RunL) (p : Int) : pvAt (a ++ b) p = (pvAt a p).or (pvAt b p) := by
 induction a with
 | nil => simp [pvAt]
 | cons r t ih =>
  rw [List.cons_append]
  by_cases hc : r.1 <= p /\ p < r.1 + r.2.length
  ·rw [pvAt_in hc, pvAt_in hc, List.getElem?_eq_getElem (by omega)]
   rfl
  ·rw [pvAt_out hc, pvAt_out hc, ih]
theorem runsWf_append {a b : List RunL} : RunsWf (a ++ b) ↔ RunsWf a /\ RunsWf b /\ ∀ r ∈ a, ∀ q ∈ b, behindR r < q.1 := by
 induction a with
 | nil => simp [RunsWf]
 | cons r t ih =>
  rw [List.cons_append]
  simp only [RunsWf, ih, List.mem_append, List.mem_cons, behindR]
  constructor
  ·rintro ⟨h1, h2, h3, h4, h5⟩
   refine ⟨⟨h1, fun q hq => h2 q (.inl hq), h3⟩, h4, ?_⟩
   rintro x (rfl | hx) q hq
   ·exact h2 q (.inr hq)
   ·exact h5 x hx q hq
  ·rintro ⟨⟨h1, h2, h3⟩, h4, h5⟩
   refine ⟨h1, ?_, h3, h4, fun x hx q hq => h5 x (.inr hx) q hq⟩
   rintro q (hq | hq)
   ·exact h2 q hq
   ·exact h5 r (.inl rfl) q hq
theorem overlay_length {l : List Int} {k : Nat} {it : List Int} (h : k + it.length <= l.length) : (overlay l k it).length = l.length := by
 unfold overlay
 simp only [List.length_append, List.length_take, List.length_drop]
 omega
theorem overlay_get {l : List Int} {k : Nat} {it : List Int} (h : k + it.length <= l.length) (i : Nat) : (overlay l k it)[i]? = if k <= i /\ i < k + it.length then it[i - k]? else l[i]? := by
 unfold overlay
 rw [List.append_assoc]
 rcases Nat.lt_or_ge i k with h1 | h1
 ·rw [if_neg (by omega), List.getElem?_append_left (by simp; omega), List.getElem?_take_of_lt h1]
 ·rw [List.getElem?_append_right (by simp; omega), List.length_take, Nat.min_eq_left (by omega)]
  rcases Nat.lt_or_ge (i - k) it.length with h2 | h2
  ·rw [if_pos (by omega), List.getElem?_append_left h2]
  ·rw [if_neg (by omega), List.getElem?_append_right h2, List.getElem?_drop]
   congr 1
   omega
theorem layR_length {lo : Int} {M : List RunL} : ∀ {L : List Int}, (∀ q ∈ M, (q.1 - lo).toNat + q.2.length <= L.length) -> (layR lo L M).length = L.length := by
 induction M with
 | nil => intro L _; rfl
 | cons r t ih =>
  intro L h
  have h0 := h r (by simp)
  have e := overlay_length h0
  unfold layR
  rw [List.foldl_cons]
  have := ih (L := overlay L (r.1 - lo).toNat r.2) (fun q hq => by rw [e]; exact h q (by simp [hq]))
  unfold layR at this
  rw [this, e]
theorem layR_get {lo : Int} {M : List RunL} : ∀ {L : List Int}, RunsWf M -> (∀ q ∈ M, lo <= q.1 /\ behindR q <= lo + L.length) -> ∀ i : Nat, (layR lo L M)[i]? = (pvAt M (lo + i)).or L[i]? := by
 induction M with
 | nil => intro L _ _ i; rfl
 | cons r t ih =>
  intro L hw h i
  have h0 := h r (by simp)
  unfold behindR at h0
  have e := overlay_length (l := L) (k := (r.1 - lo).toNat) (it := r.2) (by omega)
  have h1 := ih (L := overlay L (r.1 - lo).toNat r.2) hw.2.2 (fun q hq => by rw [e]; exact h q (by simp [hq])) i
  unfold layR at h1 ⊢
  rw [List.foldl_cons, h1, overlay_get (by omega)]
  by_cases hc : r.1 <= lo + i /\ lo + i < r.1 + r.2.length
  ·rw [pvAt_in hc, pvAt_below (fun q hq => by have := hw.2.1 q hq; omega), if_pos (by omega)]
   have e2 : i - (r.1 - lo).toNat = (lo + i - r.1).toNat := by omega
   rw [e2, List.getElem?_eq_getElem (by omega)]
   rfl
  ·rw [pvAt_out hc, if_neg (by omega)]
theorem loR_le {M : List RunL} : ∀ (r : RunL), loR r M <= r.1 /\ ∀ q ∈ M, loR r M <= q.1 := by
 have key : ∀ (M : List RunL) (m : Int), M.foldl (fun m q => min m q.1) m <= m /\ ∀ q ∈ M, M.foldl (fun m q => min m q.1) m <= q.1 := by
  intro M
  induction M with
  | nil => intro m; simp
  | cons a t ih =>
   intro m
   rw [List.foldl_cons]
   have h := ih (min m a.1)
   refine ⟨by omega, fun q hq => ?_⟩
   rcases List.mem_cons.1 hq with rfl | hq
   ·omega
   ·exact h.2 q hq
 exact fun r => key M r.1
theorem loR_is {M : List RunL} : ∀ (r : RunL), loR r M = r.1 \/ ∃ q ∈ M, loR r M = q.1 := by
 have key : ∀ (M : List RunL) (m : Int), M.foldl (fun m q => min m q.1) m = m \/ ∃ q ∈ M, M.foldl (fun m q => min m q.1) m = q.1 := by
  intro M
  induction M with
  | nil => intro m; simp
  | cons a t ih =>
   intro m
   rw [List.foldl_cons]
   rcases ih (min m a.1) with h | ⟨q, hq, h⟩
   ·rcases Int.le_total m a.1 with h1 | h1
    ·left; omega
    ·right; exact ⟨a, by simp, by omega⟩
   ·exact .inr ⟨q, by simp [hq], h⟩
 exact fun r => key M r.1
theorem hiR_ge {M : List RunL} : ∀ (r : RunL), behindR r <= hiR r M /\ ∀ q ∈ M, behindR q <= hiR r M := by
 have key : ∀ (M : List RunL) (m : Int), m <= M.foldl (fun m q => max m (behindR q)) m /\ ∀ q ∈ M, behindR q <= M.foldl (fun m q => max m (behindR q)) m := by
  intro M
  induction M with
  | nil => intro m; simp
  | cons a t ih =>
   intro m
   rw [List.foldl_cons]
   have h := ih (max m (behindR a))
   refine ⟨by omega, fun q hq => ?_⟩
   rcases List.mem_cons.1 hq with rfl | hq
   ·omega
   ·exact h.2 q hq
 exact fun r => key M (behindR r)
theorem hiR_is {M : List RunL} : ∀ (r : RunL), hiR r M = behindR r \/ ∃ q ∈ M, hiR r M = behindR q := by
 have key : ∀ (M : List RunL) (m : Int), M.foldl (fun m q => max m (behindR q)) m = m \/ ∃ q ∈ M, M.foldl (fun m q => max m (behindR q)) m = behindR q := by
  intro M
  induction M with
  | nil => intro m; simp
  | cons a t ih =>
   intro m
   rw [List.foldl_cons]
   rcases ih (max m (behindR a)) with h | ⟨q, hq, h⟩
   ·rcases Int.le_total (behindR a) m with h1 | h1
    ·left; omega
    ·right; exact ⟨a, by simp, by omega⟩
   ·exact .inr ⟨q, by simp [hq], h⟩
 exact fun r => key M (behindR r)
structure Touch (rl : List RunL) (r : RunL) (A M B : List RunL) : Prop where
 split : rl = A ++ M ++ B
 from_ : fromR rl r = A.length
 to_ : toR rl r = A.length + M.length
 low : ∀ q ∈ A, behindR q < r.1
 mid : ∀ q ∈ M, r.1 <= behindR q /\ q.1 <= behindR r
 high : ∀ q ∈ B, behindR r < q.1
theorem takeWhile_split {α : Type} (p : α -> Bool) : ∀ l : List α, l = l.takeWhile p ++ l.dropWhile p := fun l => (List.takeWhile_append_dropWhile (p := p) (l := l)).symm
theorem dropWhile_head {α : Type} {p : α -> Bool} : ∀ {l : List α} {a : α} {t : List α}, l.dropWhile p = a :: t -> p a = false
 | [], a, t, h => by simp at h
 | x :: l, a, t, h => by
  rw [List.dropWhile_cons] at h
  split at h
  ·exact dropWhile_head h
  ·rename_i hx
   cases h
   simpa using hx
theorem takeWhile_all {α : Type} {p : α -> Bool} : ∀ {l : List α} {a : α}, a ∈ l.takeWhile p -> p a = true
 | x :: l, a, h => by
  rw [List.takeWhile_cons] at h
  split at h
  ·rename_i hx
   rcases List.mem_cons.1 h with rfl | h
   ·exact hx
   ·exact takeWhile_all h
  ·cases h
theorem touch_is {rl : List RunL} (hw : RunsWf rl) (r : RunL) : ∃ A M B, Touch rl r A M B := by
 have s1 := takeWhile_split (fun q => decide (behindR q < r.1)) rl
 generalize hA : rl.takeWhile (fun q => decide (behindR q < r.1)) = A at s1
 generalize hR : rl.dropWhile (fun q => decide (behindR q < r.1)) = R at s1
 have s2 := takeWhile_split (fun q => decide (q.1 <= behindR r)) R
 generalize hM : R.takeWhile (fun q => decide (q.1 <= behindR r)) = M at s2
 generalize hB : R.dropWhile (fun q => decide (q.1 <= behindR r)) = B at s2
 have f1 : fromR rl r = A.length := by unfold fromR; rw [hA]
 have d1 : rl.drop A.length = R := by rw [s1]; simp
 have t1 : toR rl r = A.length + M.length := by unfold toR; rw [f1, d1, hM]
 have hwR : RunsWf R := (runsWf_append.1 (s1 ▸ hw)).2.1
 have hwB : RunsWf B := (runsWf_append.1 (s2 ▸ hwR)).2.1
 have upR : ∀ q ∈ R, r.1 <= behindR q := by
  cases R with
  | nil => simp
  | cons a t =>
   have ha : r.1 <= behindR a := by have := dropWhile_head hR; simpa using this
   intro q hq
   rcases List.mem_cons.1 hq with rfl | hq
   ·exact ha
   ·have := hwR.2.1 q hq
    have := runsWf_mem hwR.2.2 hq
    unfold behindR at ha ⊢
    omega
 refine ⟨A, M, B, ⟨by rw [List.append_assoc, <- s2]; exact s1, f1, t1, fun q hq => ?_, fun q hq => ⟨upR q (by rw [s2]; simp [hq]), ?_⟩, ?_⟩⟩
 ·rw [<- hA] at hq
  simpa using takeWhile_all hq
 ·rw [<- hM] at hq
  simpa using takeWhile_all hq
 ·cases B with
  | nil => simp
  | cons a t =>
   have ha : behindR r < a.1 := by have := dropWhile_head hB; simpa using this
   intro q hq
   rcases List.mem_cons.1 hq with rfl | hq
   ·exact ha
   ·have := hwB.2.1 q hq
    omega
def Agree (rl : List RunL) (first : Int) (items : List Int) : Prop := ∀ p x, first <= p -> p < first + items.length -> pvAt rl p = some x -> items[(p - first).toNat]? = some x
theorem joinR_val {r : RunL} {M : List RunL} (hr : 0 < r.2.length) (hw : RunsWf M) (hm : ∀ q ∈ M, r.1 <= behindR q /\ q.1 <= behindR r) (hag : Agree M r.1 r.2) :
  behindR (joinR r M) = hiR r M /\ (joinR r M).1 = loR r M /\ loR r M < hiR r M /\
  ∀ p, loR r M <= p -> p < hiR r M -> (joinR r M).2[(p - loR r M).toNat]? = if r.1 <= p /\ p < behindR r then r.2[(p - r.1).toNat]? else pvAt M p := by
 have h1 := loR_le (M := M) r
 have h2 := hiR_ge (M := M) r
 have hb : behindR r = r.1 + r.2.length := rfl
 have hlen : (List.replicate (hiR r M - loR r M).toNat (0 : Int)).length = (hiR r M - loR r M).toNat := List.length_replicate
 have hk : (r.1 - loR r M).toNat + r.2.length <= (List.replicate (hiR r M - loR r M).toNat (0 : Int)).length := by rw [hlen]; omega
 have e0 := overlay_length hk
 have hin : ∀ q ∈ M, loR r M <= q.1 /\ behindR q <= loR r M + ((overlay (List.replicate (hiR r M - loR r M).toNat 0) (r.1 - loR r M).toNat r.2).length : Nat) := fun q hq => by
  have a1 := h1.2 q hq
  have a2 := h2.2 q hq
  rw [e0, hlen]
  omega
 have e1 := layR_length (lo := loR r M) (M := M) (L := overlay (List.replicate (hiR r M - loR r M).toNat 0) (r.1 - loR r M).toNat r.2) (fun q hq => by
  have := hin q hq
  unfold behindR at this
  omega)
 have hfst : (joinR r M).1 = loR r M := rfl
 have hlt : loR r M < hiR r M := by omega
 refine ⟨?_, hfst, hlt, fun p hp1 hp2 => ?_⟩
 ·unfold behindR
  rw [hfst]
  unfold joinR
  simp only
  rw [e1, e0, hlen]
  omega
 ·have hg := layR_get (lo := loR r M) (M := M) (L := overlay (List.replicate (hiR r M - loR r M).toNat 0) (r.1 - loR r M).toNat r.2) hw hin (p - loR r M).toNat
  have ep : loR r M + ((p - loR r M).toNat : Int) = p := by omega
  rw [ep, overlay_get hk] at hg
  show (layR _ _ _)[_]? = _
  rw [hg]
  by_cases hc : r.1 <= p /\ p < behindR r
  ·rw [if_pos hc, if_pos (by omega)]
   have e2 : (p - loR r M).toNat - (r.1 - loR r M).toNat = (p - r.1).toNat := by omega
   rw [e2]
   cases hv : pvAt M p with
   | none => rfl
   | some x => rw [hag p x hc.1 (by rw [<- hb]; exact hc.2) hv]; rfl
  ·rw [if_neg hc]
   have : ∃ x, pvAt M p = some x := by
    have cov : ∀ q ∈ M, q.1 <= p -> p < behindR q -> ∃ x, pvAt M p = some x := by
     intro q hq a1 a2
     clear hm hag hin e1 hg h1 h2 hlen hk e0 hlt hp1 hp2 ep hc hfst
     induction M with
     | nil => cases hq
     | cons a t ih =>
      by_cases hc : a.1 <= p /\ p < a.1 + a.2.length
      ·exact pvAt_in_some hc
      ·rw [pvAt_out hc]
       rcases List.mem_cons.1 hq with rfl | hq
       ·exact (hc ⟨a1, a2⟩).elim
       ·exact ih hw.2.2 hq
    rcases (by omega : p < r.1 \/ r.1 <= p) with h3 | h3
    ·rcases loR_is (M := M) r with h4 | ⟨q, hq, h4⟩
     ·omega
     ·exact cov q hq (by omega) (by have := (hm q hq).1; omega)
    ·rcases hiR_is (M := M) r with h4 | ⟨q, hq, h4⟩
     ·omega
     ·exact cov q hq (by have := (hm q hq).2; omega) (by omega)
   obtain ⟨x, hx⟩ := this
   rw [hx]
   rfl
theorem fillR_touch {rl : List RunL} {first : Int} {items : List Int} {A M B : List RunL} (hi : items ≠ []) (ht : Touch rl (first, items) A M B) : fillR rl first items = A ++ joinR (first, items) M :: B := by
 unfold fillR
 rw [if_neg hi, ht.from_, ht.to_, ht.split]
 congr 1
 ·simp
 ·congr 1
  ·congr 1
   rw [List.append_assoc, List.drop_append_of_le_length (Nat.le_refl _), List.drop_length, List.nil_append]
   simp
  ·simp [List.drop_append]
theorem fillR_val {rl : List RunL} (hw : RunsWf rl) {first : Int} {items : List Int} (hag : Agree rl first items) :
  RunsWf (fillR rl first items) /\ ∀ p, pvAt (fillR rl first items) p = if first <= p /\ p < first + items.length then items[(p - first).toNat]? else pvAt rl p := by
 by_cases hi : items = []
 ·unfold fillR
  rw [if_pos hi]
  refine ⟨hw, fun p => ?_⟩
  rw [if_neg (by rw [hi]; simp)]
 ·have hpos : 0 < items.length := List.length_pos_iff.2 hi
  obtain ⟨A, M, B, ht⟩ := touch_is hw (first, items)
  rw [fillR_touch hi ht]
  have hw' := ht.split ▸ hw
  obtain ⟨hwAM, hwB, hAMB⟩ := runsWf_append.1 hw'
  obtain ⟨hwA, hwM, hAM⟩ := runsWf_append.1 hwAM
  have hv : ∀ p, pvAt rl p = ((pvAt A p).or (pvAt M p)).or (pvAt B p) := fun p => by rw [ht.split, pvAt_append, pvAt_append]
  have inRun : ∀ {l : List RunL} {p : Int}, (∀ q ∈ l, ¬ (q.1 <= p /\ p < behindR q)) -> pvAt l p = none := by
   intro l p h
   cases e : pvAt l p with
   | none => rfl
   | some x =>
    obtain ⟨q, hq, hc⟩ := pvAt_some e
    exact (h q hq hc).elim
  have hagM : Agree M first items := fun p x h1 h2 h3 => by
   refine hag p x h1 h2 ?_
   have : pvAt A p = none := inRun (fun q hq hc => by have := ht.low q hq; simp only at this; omega)
   rw [hv, this, h3]
   rfl
  obtain ⟨j1, j2, j3, j4⟩ := joinR_val (r := (first, items)) hpos hwM ht.mid hagM
  simp only at j4
  have hlo := loR_le (M := M) (first, items)
  have hhi := hiR_ge (M := M) (first, items)
  have hA : ∀ q ∈ A, behindR q < loR (first, items) M := fun q hq => by
   rcases loR_is (M := M) (first, items) with h | ⟨x, hx, h⟩
   ·rw [h]; exact ht.low q hq
   ·rw [h]; exact hAM q hq x hx
  have hB : ∀ q ∈ B, hiR (first, items) M < q.1 := fun q hq => by
   rcases hiR_is (M := M) (first, items) with h | ⟨x, hx, h⟩
   ·rw [h]; exact ht.high q hq
   ·rw [h]; exact hAMB x (by simp [hx]) q hq
  have hbr : behindR (first, items) = first + items.length := rfl
  generalize hJ : joinR (first, items) M = J at j1 j2 j4 ⊢
  have hJ1 : behindR J = J.1 + J.2.length := rfl
  generalize hlo' : loR (first, items) M = lo at j2 j3 j4 hlo hA
  generalize hhi' : hiR (first, items) M = hi2 at j1 j3 j4 hhi hB
  constructor
  ·rw [runsWf_append]
   refine ⟨hwA, ⟨by omega, fun q hq => ?_, hwB⟩, fun a ha q hq => ?_⟩
   ·have := hB q hq; omega
   ·rcases List.mem_cons.1 hq with rfl | hq
    ·have := hA a ha; omega
    ·exact hAMB a (by simp [ha]) q hq
  ·intro p
   rw [pvAt_append]
   by_cases hc : lo <= p /\ p < hi2
   ·have eA : pvAt A p = none := inRun (fun q hq hx => by have := hA q hq; omega)
    have eB : pvAt B p = none := inRun (fun q hq hx => by have := hB q hq; omega)
    rw [eA, pvAt_in (by omega), j2, j4 p hc.1 hc.2, hv, eA, eB, hbr]
    simp
   ·have eM : pvAt M p = none := inRun (fun q hq hx => by
     have a1 := hlo.2 q hq
     have a2 := hhi.2 q hq
     omega)
    have h3 := hlo.1
    have h4 := hhi.1
    simp only at h3
    rw [pvAt_out (by omega), if_neg (by omega), hv, eM]
    simp
theorem valL_grown (base : Int) (l : List Int) (n : Nat) (p : Int) : valL base (l ++ List.replicate n (-1)) p = valL base l p := by
 unfold valL
 by_cases h : base <= p
 ·rw [if_pos h, if_pos h]
  rcases Nat.lt_or_ge (p - base).toNat l.length with h1 | h1
  ·rw [List.getElem?_append_left h1]
  ·rw [List.getElem?_append_right h1, List.getElem?_eq_none h1, List.getElem?_replicate]
   split
   ·rename_i hx
    split at hx
    ·cases hx; simp
    ·cases hx
   ·rfl
 ·rw [if_neg h, if_neg h]
theorem valL_set (base : Int) {l : List Int} {k : Nat} (hk : k < l.length) {x : Int} (hx : 0 <= x) (p : Int) : valL base (l.set k x) p = if p = base + k then some x else valL base l p := by
 unfold valL
 by_cases h : base <= p
 ·rw [if_pos h, if_pos h, List.getElem?_set]
  by_cases h1 : p = base + k
  ·rw [if_pos h1, if_pos (by omega), if_pos hk]
   simp [hx]
  ·rw [if_neg h1, if_neg (by omega)]
 ·rw [if_neg h, if_neg h, if_neg (by omega)]
def Clash (base : Int) (l : List Int) (p x : Int) : Prop := ∃ y, valL base l p = some y /\ y ≠ x
theorem writeS_is (base : Int) (l : List Int) (k : Nat) {x : Int} (hx : 0 <= x) : (Clash base l (base + k) x /\ writeS l k x = none) \/
  (¬ Clash base l (base + k) x /\ ∃ m, writeS l k x = some m /\ ∀ p, valL base m p = if p = base + k then some x else valL base l p) := by
 have hg : ∀ p, valL base (grownTo l k) p = valL base l p := fun p => valL_grown base l _ p
 have hlen : k < (grownTo l k).length := by unfold grownTo; simp only [List.length_append, List.length_replicate]; omega
 have hat : valL base l (base + k) = if 0 <= (grownTo l k).getD k (-1) then some ((grownTo l k).getD k (-1)) else none := by
  rw [<- hg]
  unfold valL
  have e : (base + (k : Int) - base).toNat = k := by omega
  rw [if_pos (by omega), e, List.getElem?_eq_getElem hlen]
  simp [List.getD, List.getElem?_eq_getElem hlen]
 unfold writeS
 generalize hq : (grownTo l k).getD k (-1) = q at hat ⊢
 by_cases hc : 0 <= q /\ q ≠ x
 ·left
  refine ⟨⟨q, by rw [hat, if_pos hc.1], hc.2⟩, by simp [hc]⟩
 ·right
  refine ⟨?_, (grownTo l k).set k x, ?_, fun p => ?_⟩
  ·rintro ⟨y, h1, h2⟩
   rw [hat] at h1
   split at h1
   ·cases h1
    exact hc ⟨by assumption, h2⟩
   ·cases h1
  ·rw [if_neg]
   simpa using hc
  ·rw [valL_set base hlen hx, hg]
theorem recvTo_is (base : Int) (l : List Int) (d : Int) {b : List Int} (hb : Bytes b) : ∀ (k : Nat), k <= b.length ->
  (recvTo l d b k = none /\ ∃ j : Nat, j < k /\ 0 <= d + j /\ Clash base l (base + d + j) (b.getD j 0)) \/
  ((∀ j : Nat, j < k -> 0 <= d + j -> ¬ Clash base l (base + d + j) (b.getD j 0)) /\ ∃ m, recvTo l d b k = some m /\
   ∀ p, valL base m p = if base <= p /\ base + d <= p /\ p < base + d + k then b[(p - base - d).toNat]? else valL base l p)
 | 0, _ => .inr ⟨fun j hj => by omega, l, rfl, fun p => by rw [if_neg (by omega)]⟩
 | k + 1, hk => by
  have hx : 0 <= b.getD k 0 := by
   have := hb b[k] (List.getElem_mem _)
   simp only [List.getD, List.getElem?_eq_getElem (show k < b.length by omega), Option.getD_some]
   exact this.1
  have hbk : b[k]? = some (b.getD k 0) := by simp [List.getD, List.getElem?_eq_getElem (show k < b.length by omega)]
  rcases recvTo_is base l d hb k (by omega) with ⟨h1, j, hj, h2, h3⟩ | ⟨h1, m, hm, hv⟩
  ·left
   exact ⟨by simp [recvTo, h1], j, by omega, h2, h3⟩
  ·by_cases hd : d + (k : Int) < 0
   ·right
    refine ⟨fun j hj h => ?_, m, by simp [recvTo, hm, hd], fun p => ?_⟩
    ·by_cases e : j = k
     ·omega
     ·exact h1 j (by omega) h
    ·rw [hv p]
     by_cases hc : base <= p /\ base + d <= p /\ p < base + d + k
     ·rw [if_pos hc, if_pos (by omega)]
     ·rw [if_neg hc, if_neg (by omega)]
   ·have same : valL base m (base + d + k) = valL base l (base + d + k) := by rw [hv, if_neg (by omega)]
    have ek : base + ((d + (k : Int)).toNat : Int) = base + d + k := by omega
    have hcl : Clash base m (base + d + k) (b.getD k 0) ↔ Clash base l (base + d + k) (b.getD k 0) := by unfold Clash; rw [same]
    rcases writeS_is base m (d + (k : Int)).toNat hx with ⟨hc, hw⟩ | ⟨hc, m2, hw, hv2⟩
    ·rw [ek, hcl] at hc
     left
     exact ⟨by simp only [recvTo, hm, Option.bind_some, if_neg hd, hw], k, by omega, by omega, hc⟩
    ·rw [ek, hcl] at hc
     rw [ek] at hv2
     right
     refine ⟨fun j hj h => ?_, m2, by simp only [recvTo, hm, Option.bind_some, if_neg hd, hw], fun p => ?_⟩
     ·by_cases e : j = k
      ·subst e; exact hc
      ·exact h1 j (by omega) h
     ·rw [hv2 p, hv p]
      by_cases e : p = base + d + k
      ·rw [if_pos e, if_pos (by omega)]
       have : (p - base - d).toNat = k := by omega
       rw [this, hbk]
      ·rw [if_neg e]
       by_cases hc2 : base <= p /\ base + d <= p /\ p < base + d + k
       ·rw [if_pos hc2, if_pos (by omega)]
       ·rw [if_neg hc2, if_neg (by omega)]
theorem getD_cons_succ' (x : Int) (l : List Int) (k : Nat) : (x :: l).getD (k + 1) (-1) = l.getD k (-1) := by simp [List.getD]
theorem startAt_zero (l : List Int) : startAt l 0 = decide (0 <= l.getD 0 (-1)) := by simp [startAt]
theorem startAt_succ (l : List Int) (k : Nat) : startAt l (k + 1) = (decide (0 <= l.getD (k + 1) (-1)) && decide (l.getD k (-1) < 0)) := by simp [startAt]
theorem runsTo_cons (x : Int) (l : List Int) : ∀ k, runsTo (x :: l) (k + 1) = (if 0 <= x then 1 else 0) + runsTo l k - (if 0 <= x /\ 0 <= l.getD 0 (-1) /\ 0 < k then 1 else 0)
 | 0 => by
  have e : (x :: l).getD 0 (-1) = x := rfl
  rw [runsTo, runsTo, startAt_zero, e]
  by_cases hx : 0 <= x <;> simp [hx, runsTo]
 | k + 1 => by
  have h := runsTo_cons x l k
  rw [runsTo, h, startAt_succ, getD_cons_succ']
  have e0 : runsTo l (k + 1) = runsTo l k + if startAt l k then 1 else 0 := rfl
  rw [e0]
  cases k with
  | zero =>
   have e : (x :: l).getD 0 (-1) = x := rfl
   rw [startAt_zero, e]
   generalize l.getD 0 (-1) = y
   by_cases hx : 0 <= x <;> by_cases hy : 0 <= y <;> simp [hx, hy] <;> omega
  | succ k =>
   rw [startAt_succ, getD_cons_succ']
   simp only [Nat.zero_lt_succ, and_true]
   omega
theorem consRun_length (base x : Int) (rs : List RunL) : ((consRun base x rs).length : Int) = rs.length + 1 - (if (rs.head?.map (·.1)) = some (base + 1) then 1 else 0) := by
 unfold consRun
 cases rs with
 | nil => simp
 | cons r t =>
  simp only [List.head?_cons, Option.map_some, Option.some.injEq]
  split
  ·simp
  ·simp
theorem runsOf_head (base : Int) (l : List Int) : (((runsOf base l).head?.map (·.1)) = some base) ↔ 0 <= l.getD 0 (-1) := by
 cases l with
 | nil => simp [runsOf, List.getD]
 | cons x l =>
  have e : (x :: l).getD 0 (-1) = x := rfl
  rw [e]
  unfold runsOf
  by_cases hx : 0 <= x
  ·rw [if_pos hx]
   unfold consRun
   split
   ·simp [hx]
   ·split <;> simp [hx]
  ·rw [if_neg hx]
   constructor
   ·intro h
    cases hr : runsOf (base + 1) l with
    | nil => rw [hr] at h; simp at h
    | cons r t =>
     rw [hr] at h
     simp at h
     have := runsOf_from l (base + 1) r (by rw [hr]; simp)
     omega
   ·intro h; exact (hx h).elim
theorem runsOf_cons (base x : Int) (l : List Int) : runsOf base (x :: l) = if 0 <= x then consRun base x (runsOf (base + 1) l) else runsOf (base + 1) l := rfl
theorem runsOf_length (l : List Int) : ∀ base : Int, ((runsOf base l).length : Int) = runsTo l l.length := by
 induction l with
 | nil => intro base; simp [runsOf, runsTo]
 | cons x l ih =>
  intro base
  rw [List.length_cons, runsTo_cons, <- ih (base + 1), runsOf_cons]
  by_cases hx : 0 <= x
  ·rw [if_pos hx, if_pos hx, consRun_length]
   have hh := runsOf_head (base + 1) l
   by_cases hy : 0 <= l.getD 0 (-1)
   ·rw [if_pos (hh.2 hy), if_pos ⟨hx, hy, by
     cases l with
     | nil => simp [List.getD] at hy
     | cons a t => simp⟩]
    omega
   ·rw [if_neg (fun h => hy (hh.1 h)), if_neg (fun h => hy h.2.1)]
    omega
  ·rw [if_neg hx, if_neg hx, if_neg (fun h => hx h.1)]
   omega
def sizeR (rl : List RunL) : Nat := (rl.map fun r => r.2.length).sum
def fullL (l : List Int) : Nat := l.countP fun x => decide (0 <= x)
theorem sizeR_runsOf (l : List Int) : ∀ base : Int, sizeR (runsOf base l) = fullL l := by
 induction l with
 | nil => intro base; rfl
 | cons x l ih =>
  intro base
  have h := ih (base + 1)
  unfold fullL sizeR at *
  rw [List.countP_cons, runsOf_cons]
  by_cases hx : 0 <= x
  ·rw [if_pos hx]
   simp only [hx, decide_true, if_true]
   rw [<- h]
   unfold consRun
   split
   ·rename_i e; simp [e]
   ·rename_i r t e
    rw [e]
    split
    ·simp; omega
    ·simp; omega
  ·rw [if_neg hx]
   simp only [hx, decide_false]
   simpa using h
def agreeOne (first : Int) (items : List Int) (r : RunL) : Bool :=
 if max first r.1 < min (first + items.length) (behindR r) then
  decide ((r.2.drop (max first r.1 - r.1).toNat).take (min (first + items.length) (behindR r) - max first r.1).toNat = (items.drop (max first r.1 - first).toNat).take (min (first + items.length) (behindR r) - max first r.1).toNat)
 else true
def agreesR (rl : List RunL) (first : Int) (items : List Int) : Bool := rl.all (agreeOne first items)
theorem agreeOne_iff (first : Int) (items : List Int) (r : RunL) : agreeOne first items r = true ↔ ∀ p, first <= p -> p < first + items.length -> r.1 <= p -> p < behindR r -> r.2[(p - r.1).toNat]? = items[(p - first).toNat]? := by
 unfold agreeOne
 generalize hf : max first r.1 = f
 generalize ht : min (first + items.length) (behindR r) = t
 have hb : behindR r = r.1 + r.2.length := rfl
 by_cases hc : f < t
 ·rw [if_pos hc, decide_eq_true_iff]
  constructor
  ·intro h p h1 h2 h3 h4
   have h5 := congrArg (fun l => l[(p - f).toNat]?) h
   rw [List.getElem?_take_of_lt (by omega), List.getElem?_take_of_lt (by omega), List.getElem?_drop, List.getElem?_drop] at h5
   have e1 : (f - r.1).toNat + (p - f).toNat = (p - r.1).toNat := by omega
   have e2 : (f - first).toNat + (p - f).toNat = (p - first).toNat := by omega
   rw [e1, e2] at h5
   exact h5
  ·intro h
   apply List.ext_getElem?
   intro i
   rcases Nat.lt_or_ge i (t - f).toNat with hi | hi
   ·rw [List.getElem?_take_of_lt hi, List.getElem?_take_of_lt hi, List.getElem?_drop, List.getElem?_drop]
    have h5 := h (f + i) (by omega) (by omega) (by omega) (by omega)
    have e1 : (f + (i : Int) - r.1).toNat = (f - r.1).toNat + i := by omega
    have e2 : (f + (i : Int) - first).toNat = (f - first).toNat + i := by omega
    rw [e1, e2] at h5
    exact h5
   ·rw [List.getElem?_eq_none (by simp; omega), List.getElem?_eq_none (by simp; omega)]
 ·rw [if_neg hc]
  simp only [true_iff]
  intro p h1 h2 h3 h4
  omega
theorem agreesR_iff {rl : List RunL} (hw : RunsWf rl) (first : Int) (items : List Int) : agreesR rl first items = true ↔ Agree rl first items := by
 unfold agreesR
 rw [List.all_eq_true]
 have mem : ∀ {rl : List RunL}, RunsWf rl -> ∀ r ∈ rl, ∀ p, r.1 <= p -> p < behindR r -> pvAt rl p = r.2[(p - r.1).toNat]? := by
  intro rl hw r hr p h1 h2
  induction rl with
  | nil => cases hr
  | cons a t ih =>
   rcases List.mem_cons.1 hr with rfl | hr
   ·exact pvAt_in ⟨h1, h2⟩
   ·have := hw.2.1 r hr
    rw [pvAt_out (by omega)]
    exact ih hw.2.2 hr
 constructor
 ·intro h p x h1 h2 h3
  obtain ⟨r, hr, h4, h5⟩ := pvAt_some h3
  have h6 := (agreeOne_iff first items r).1 (h r hr) p h1 h2 h4 h5
  rw [<- h6, <- mem hw r hr p h4 h5]
  exact h3
 ·intro h r hr
  rw [agreeOne_iff]
  intro p h1 h2 h3 h4
  have h5 := mem hw r hr p h3 h4
  have hb : behindR r = r.1 + r.2.length := rfl
  rw [List.getElem?_eq_getElem (by omega)] at h5 ⊢
  exact (h p _ h1 h2 h5).symm
def skipN (read ofs : Int) (b : List Int) : Nat := (min (max (read - ofs) 0) b.length).toNat
theorem recv_runs (base : Int) (l : List Int) (ofs : Int) {b : List Int} (hb : Bytes b) :
  (agreesR (runsOf base l) (ofs + skipN base ofs b) (b.drop (skipN base ofs b)) = false /\ recvTo l (ofs - base) b b.length = none) \/
  (agreesR (runsOf base l) (ofs + skipN base ofs b) (b.drop (skipN base ofs b)) = true /\ ∃ m, recvTo l (ofs - base) b b.length = some m /\
   fillR (runsOf base l) (ofs + skipN base ofs b) (b.drop (skipN base ofs b)) = runsOf base m) := by
 have hw := runsOf_wf l base
 have hs : (skipN base ofs b : Int) = min (max (base - ofs) 0) b.length := by unfold skipN; omega
 generalize hk : skipN base ofs b = k at hs ⊢
 have hl : ((b.drop k).length : Int) = b.length - k := by simp only [List.length_drop]; omega
 have hag := agreesR_iff hw (ofs + k) (b.drop k)
 have hpv : ∀ p, pvAt (runsOf base l) p = valL base l p := pvAt_runsOf l base
 have getb : ∀ j : Nat, j < b.length -> b[j]? = some (b.getD j 0) := fun j hj => by simp [List.getD, List.getElem?_eq_getElem hj]
 rcases recvTo_is base l (ofs - base) hb b.length (Nat.le_refl _) with ⟨h1, j, hj, h2, y, h3, h4⟩ | ⟨h1, m, hm, hv⟩
 ·left
  refine ⟨?_, h1⟩
  rw [<- Bool.not_eq_true]
  intro h
  have h5 := (hag.1 h) (base + (ofs - base) + j) y (by omega) (by omega) (by rw [hpv]; exact h3)
  rw [List.getElem?_drop] at h5
  have e : k + (base + (ofs - base) + (j : Int) - (ofs + (k : Int))).toNat = j := by omega
  rw [e, getb j hj] at h5
  exact h4 (by simpa using h5.symm)
 ·right
  have hA : Agree (runsOf base l) (ofs + k) (b.drop k) := by
   intro p x h2 h3 h4
   rw [hpv] at h4
   have hp : base <= p := by
    unfold valL at h4
    split at h4
    ·assumption
    ·cases h4
   have h5 := h1 (p - ofs).toNat (by omega) (by omega)
   have ep : base + (ofs - base) + ((p - ofs).toNat : Int) = p := by omega
   rw [ep] at h5
   rw [List.getElem?_drop]
   have e : k + (p - (ofs + (k : Int))).toNat = (p - ofs).toNat := by omega
   rw [e, getb _ (by omega)]
   congr 1
   apply Classical.byContradiction
   intro hne
   exact h5 ⟨x, h4, fun h => hne h.symm⟩
  refine ⟨hag.2 hA, m, hm, ?_⟩
  obtain ⟨f1, f2⟩ := fillR_val hw hA
  refine runs_ext f1 (runsOf_wf m base) fun p => ?_
  rw [f2, hpv, pvAt_runsOf, hv]
  by_cases hc : ofs + k <= p /\ p < ofs + k + ((b.drop k).length : Nat)
  ·rw [if_pos hc, if_pos (by omega), List.getElem?_drop]
   congr 1
   omega
  ·rw [if_neg hc]
   by_cases hc2 : base <= p /\ base + (ofs - base) <= p /\ p < base + (ofs - base) + b.length
   ·omega
   ·rw [if_neg hc2]
end Go.Proofs.YthmdjhlhodpbhaaGreatDoor
