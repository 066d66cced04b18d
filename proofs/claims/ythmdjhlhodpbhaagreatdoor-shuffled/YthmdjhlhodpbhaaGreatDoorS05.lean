/- Shuffled, 5 -/
import Derived.Test.YthmdjhlhodpbhaaGreatDoorS03
import Derived.Test.YthmdjhlhodpbhaaGreatDoorS04
set_option maxHeartbeats 16000000
set_option maxRecDepth 8000
namespace Go.Proofs.YthmdjhlhodpbhaaGreatDoor
def coversR (rl : List RunL) (first behind : Int) : Bool := decide (behind <= first) || rl.any fun r => decide (r.1 <= first) && decide (behind <= behindR r)
def prunL (rs : List (Int × Int)) : List RunL := rs.map fun r => (r.1, List.replicate (r.2 - r.1 + 1).toNat 0)
def PWf : List (Int × Int) -> Prop
 | [] => True
 | r :: t => r.1 <= r.2 /\ (∀ q ∈ t, r.2 + 1 < q.1) /\ PWf t
def InR (rs : List (Int × Int)) (p : Int) : Prop := ∃ r ∈ rs, r.1 <= p /\ p <= r.2
theorem pwf_mem {rs : List (Int × Int)} (h : PWf rs) {r : Int × Int} (hr : r ∈ rs) : r.1 <= r.2 := by
 induction rs with
 | nil => cases hr
 | cons a t ih =>
  rcases List.mem_cons.1 hr with rfl | hr
  ·exact h.1
  ·exact ih h.2.2 hr
theorem pwf_append {a b : List (Int × Int)} : PWf (a ++ b) ↔ PWf a /\ PWf b /\ ∀ r ∈ a, ∀ q ∈ b, r.2 + 1 < q.1 := by
 induction a with
 | nil => simp [PWf]
 | cons r t ih =>
  rw [List.cons_append]
  simp only [PWf, ih, List.mem_append, List.mem_cons]
  constructor
  ·rintro ⟨h1, h2, h3, h4, h5⟩
   refine ⟨⟨h1, fun q hq => h2 q (.inl hq), h3⟩, h4, ?_⟩
   rintro x (rfl | hx) q hq
   ·exact h2 q (.inr hq)
   ·exact h5 x hx q hq
  ·rintro ⟨⟨h1, h2, h3⟩, h4, h5⟩
   refine ⟨h1, ?_, h3, h4, fun x hx q hq => h5 x (.inr hx) q hq⟩
   rintro q (hq | hq)
   ·exact h2 q hq
   ·exact h5 r (.inl rfl) q hq
theorem prun_behind {r : Int × Int} (h : r.1 <= r.2) : behindR (r.1, List.replicate (r.2 - r.1 + 1).toNat 0) = r.2 + 1 := by
 unfold behindR
 simp only [List.length_replicate]
 omega
theorem prunL_wf {rs : List (Int × Int)} (h : PWf rs) : RunsWf (prunL rs) := by
 induction rs with
 | nil => trivial
 | cons r t ih =>
  refine ⟨by simp only [List.length_replicate]; have := h.1; omega, fun q hq => ?_, ih h.2.2⟩
  obtain ⟨x, hx, rfl⟩ := List.mem_map.1 hq
  have h1 := h.2.1 x hx
  have h2 := h.1
  simp only [List.length_replicate]
  omega
theorem pvAt_prunL {rs : List (Int × Int)} (p : Int) : (InR rs p -> pvAt (prunL rs) p = some 0) /\ (¬ InR rs p -> pvAt (prunL rs) p = none) := by
 induction rs with
 | nil => exact ⟨fun h => (by obtain ⟨r, hr, _⟩ := h; exact absurd hr (by simp)), fun _ => rfl⟩
 | cons r t ih =>
  have e : prunL (r :: t) = (r.1, List.replicate (r.2 - r.1 + 1).toNat 0) :: prunL t := rfl
  rw [e]
  by_cases hc : r.1 <= p /\ p <= r.2
  ·rw [pvAt_in (by simp only [List.length_replicate]; omega)]
   refine ⟨fun _ => ?_, fun h => (h ⟨r, by simp, hc⟩).elim⟩
   simp only
   rw [List.getElem?_replicate, if_pos (by omega)]
  ·rw [pvAt_out (by simp only [List.length_replicate]; omega)]
   refine ⟨fun ⟨x, hx, h⟩ => ih.1 ?_, fun h => ih.2 fun ⟨x, hx, h'⟩ => h ⟨x, by simp [hx], h'⟩⟩
   rcases List.mem_cons.1 hx with rfl | hx
   ·exact (hc h).elim
   ·exact ⟨x, hx, h⟩
theorem covers_prunL {rs : List (Int × Int)} (hw : PWf rs) (n : Int) : coversR (prunL rs) n (n + 1) = true ↔ InR rs n := by
 unfold coversR prunL InR
 rw [List.any_map]
 simp only [Bool.or_eq_true, decide_eq_true_iff, List.any_eq_true, Function.comp, Bool.and_eq_true]
 constructor
 ·rintro (h | ⟨r, hr, h1, h2⟩)
  ·omega
  ·rw [prun_behind (pwf_mem hw hr)] at h2
   exact ⟨r, hr, h1, by omega⟩
 ·rintro ⟨r, hr, h1, h2⟩
  exact .inr ⟨r, hr, h1, by rw [prun_behind (pwf_mem hw hr)]; omega⟩
def comF (n : Int) (o : Option ComS) (rs : List (Int × Int)) : Option ComS := rs.foldl (fun o r => o.bind fun st => comStep n st r) o
theorem comTo_fold (n : Int) (rs : List (Int × Int)) : ∀ k, k <= rs.length -> comTo n rs k = comF n (some ⟨[], n, n, false⟩) (rs.take k)
 | 0, _ => by simp [comTo, comF]
 | k + 1, h => by
  rw [comTo, comTo_fold n rs k (by omega), List.take_add_one, List.getElem?_eq_getElem (by omega)]
  unfold comF
  rw [Option.toList_some, List.foldl_append]
  simp [List.getD, List.getElem?_eq_getElem (show k < rs.length by omega)]
theorem comF_append (n : Int) (o : Option ComS) (a b : List (Int × Int)) : comF n o (a ++ b) = comF n (comF n o a) b := by unfold comF; rw [List.foldl_append]
theorem comF_none (n : Int) (a : List (Int × Int)) : comF n none a = none := by
 induction a with
 | nil => rfl
 | cons r t ih => exact ih
theorem comF_low (n : Int) {A : List (Int × Int)} (h : ∀ r ∈ A, r.1 <= r.2 /\ r.2 + 1 < n) : ∀ st : ComS, comF n (some st) A = some { st with all := st.all ++ A } := by
 induction A with
 | nil => intro st; simp [comF]
 | cons r t ih =>
  intro st
  have h0 := h r (by simp)
  have e : comStep n st r = some { st with all := st.all ++ [r] } := by
   unfold comStep
   rw [if_neg (by omega), if_neg (by omega), if_neg (by omega), if_neg (by omega)]
  show comF n ((some st).bind fun st => comStep n st r) t = _
  rw [Option.bind_some, e, ih (fun q hq => h q (by simp [hq]))]
  simp
theorem comF_high (n : Int) {B : List (Int × Int)} (h : ∀ r ∈ B, r.1 <= r.2 /\ n + 1 < r.1) : ∀ st : ComS, st.inn = true -> comF n (some st) B = some { st with all := st.all ++ B } := by
 induction B with
 | nil => intro st _; simp [comF]
 | cons r t ih =>
  intro st hs
  have h0 := h r (by simp)
  have e : comStep n st r = some { st with all := st.all ++ [r] } := by
   unfold comStep
   rw [if_neg (by omega), if_neg (by omega), if_neg (by omega), if_neg (by rw [hs]; simp)]
  show comF n ((some st).bind fun st => comStep n st r) t = _
  rw [Option.bind_some, e, ih (fun q hq => h q (by simp [hq])) { st with all := st.all ++ [r] } hs]
  simp
theorem comF_last (n : Int) {B : List (Int × Int)} (h : ∀ r ∈ B, r.1 <= r.2 /\ n + 1 < r.1) (st : ComS) (hs : st.inn = false) : ∃ st', comF n (some st) B = some st' /\ comAll st' = st.all ++ (st.lo, st.hi) :: B /\ st'.lo = st.lo /\ st'.hi = st.hi := by
 cases B with
 | nil => exact ⟨st, rfl, by unfold comAll; rw [hs]; simp, rfl, rfl⟩
 | cons r t =>
  have h0 := h r (by simp)
  have e : comStep n st r = some { st with all := st.all ++ [(st.lo, st.hi)] ++ [r], inn := true } := by
   unfold comStep
   rw [if_neg (by omega), if_neg (by omega), if_neg (by omega), if_pos ⟨by omega, hs⟩]
  have e2 : comF n (some st) (r :: t) = comF n (comStep n st r) t := rfl
  rw [e2, e, comF_high n (fun q hq => h q (by simp [hq])) _ rfl]
  refine ⟨_, rfl, ?_, rfl, rfl⟩
  unfold comAll
  simp
theorem comFix_map (n lo hi : Int) (hn : lo <= n /\ n <= hi) {A B : List (Int × Int)} (hA : ∀ r ∈ A, r.2 < n) (hB : ∀ r ∈ B, n < r.1) : (A ++ (lo, hi) :: B).map (comFix n lo hi) = A ++ (lo, hi) :: B := by
 have key : ∀ l : List (Int × Int), (∀ r ∈ l, ¬ (r.1 <= n /\ n <= r.2)) -> l.map (comFix n lo hi) = l := by
  intro l h
  induction l with
  | nil => rfl
  | cons a t ih =>
   rw [List.map_cons, ih (fun r hr => h r (by simp [hr]))]
   congr 1
   unfold comFix
   rw [if_neg (h a (by simp))]
 rw [List.map_append, List.map_cons, key A (fun r hr => by have := hA r hr; omega), key B (fun r hr => by have := hB r hr; omega)]
 congr 2
 unfold comFix
 rw [if_pos hn]
theorem comes_runs {rs : List (Int × Int)} (hw : PWf rs) (n : Int) :
  (InR rs n -> comTo n rs rs.length = none) /\ (¬ InR rs n -> ∃ st rs', comTo n rs rs.length = some st /\ (comAll st).map (comFix n st.lo st.hi) = rs' /\ PWf rs' /\ fillR (prunL rs) n [0] = prunL rs' /\ 0 < rs'.length /\ rs'.length <= rs.length + 1 /\
   ∀ p, InR rs' p ↔ p = n \/ InR rs p) := by
 constructor
 ·rintro ⟨r, hr, h1, h2⟩
  rw [comTo_fold n rs _ (Nat.le_refl _), List.take_length]
  obtain ⟨a, b, rfl⟩ := List.append_of_mem hr
  rw [comF_append]
  have e : ∀ o : Option ComS, comF n o (r :: b) = none := by
   intro o
   cases o with
   | none => exact comF_none n _
   | some st =>
    show comF n (comStep n st r) b = none
    unfold comStep
    rw [if_pos ⟨h1, h2⟩]
    exact comF_none n b
  exact e _
 ·intro hn
  rw [comTo_fold n rs _ (Nat.le_refl _), List.take_length]
  have s1 := takeWhile_split (fun q : Int × Int => decide (q.2 + 1 < n)) rs
  generalize hA : rs.takeWhile (fun q => decide (q.2 + 1 < n)) = A at s1
  generalize hR : rs.dropWhile (fun q => decide (q.2 + 1 < n)) = R at s1
  have hwA := (pwf_append.1 (s1 ▸ hw)).1
  have hwR := (pwf_append.1 (s1 ▸ hw)).2.1
  have hAR := (pwf_append.1 (s1 ▸ hw)).2.2
  have hAl : ∀ r ∈ A, r.1 <= r.2 /\ r.2 + 1 < n := fun r hr => ⟨pwf_mem hwA hr, by rw [<- hA] at hr; simpa using takeWhile_all hr⟩
  have hout : ∀ r ∈ R, ¬ (r.1 <= n /\ n <= r.2) := fun r hr h => hn ⟨r, by rw [s1]; simp [hr], h⟩
  have fin : ∀ (M B : List (Int × Int)) (lo hi : Int), R = M ++ B -> lo <= n -> n <= hi -> (∀ st : ComS, st.inn = false -> st.lo = n -> st.hi = n -> comF n (some st) M = some { st with lo := lo, hi := hi }) -> (∀ r ∈ B, n + 1 < r.1) ->
    (∀ r ∈ B, hi + 1 < r.1) -> (∀ r ∈ A, r.2 + 1 < lo) -> (∀ p, (lo <= p /\ p <= hi) ↔ (p = n \/ InR M p)) ->
    ∃ st rs', comF n (some ⟨[], n, n, false⟩) rs = some st /\ (comAll st).map (comFix n st.lo st.hi) = rs' /\ PWf rs' /\ fillR (prunL rs) n [0] = prunL rs' /\ 0 < rs'.length /\ rs'.length <= rs.length + 1 /\ ∀ p, InR rs' p ↔ p = n \/ InR rs p := by
   intro M B lo hi hMB hlo hhi hM hB hB2 hA2 hin
   have c1 : comF n (some ⟨[], n, n, false⟩) rs = comF n (some ⟨A, lo, hi, false⟩) B := by
    rw [s1, hMB, comF_append, comF_low n hAl, comF_append, hM _ rfl rfl rfl]
    simp
   have hwB : PWf B := (pwf_append.1 (hMB ▸ hwR)).2.1
   obtain ⟨st', c2, c3, c4, c5⟩ := comF_last n (fun r hr => ⟨pwf_mem hwB hr, hB r hr⟩) ⟨A, lo, hi, false⟩ rfl
   have hpw : PWf (A ++ (lo, hi) :: B) := by
    rw [pwf_append]
    refine ⟨hwA, ⟨by show lo <= hi; omega, fun q hq => hB2 q hq, hwB⟩, fun r hr q hq => ?_⟩
    rcases List.mem_cons.1 hq with rfl | hq
    ·exact hA2 r hr
    ·exact hAR r hr q (by rw [hMB]; simp [hq])
   have hiff : ∀ p, InR (A ++ (lo, hi) :: B) p ↔ p = n \/ InR rs p := by
    intro p
    have h1 := hin p
    constructor
    ·rintro ⟨r, hr, h2⟩
     rcases List.mem_append.1 hr with hr | hr
     ·exact .inr ⟨r, by rw [s1]; simp [hr], h2⟩
     ·rcases List.mem_cons.1 hr with rfl | hr
      ·rcases h1.1 h2 with h3 | ⟨x, hx, h4⟩
       ·exact .inl h3
       ·exact .inr ⟨x, by rw [s1, hMB]; simp [hx], h4⟩
      ·exact .inr ⟨r, by rw [s1, hMB]; simp [hr], h2⟩
    ·rintro (h2 | ⟨r, hr, h2⟩)
     ·exact ⟨(lo, hi), by simp, by simp only; omega⟩
     ·rw [s1, hMB] at hr
      rcases List.mem_append.1 hr with hr | hr
      ·exact ⟨r, by simp [hr], h2⟩
      ·rcases List.mem_append.1 hr with hr | hr
       ·exact ⟨(lo, hi), by simp, h1.2 (.inr ⟨r, hr, h2⟩)⟩
       ·exact ⟨r, by simp [hr], h2⟩
   refine ⟨st', A ++ (lo, hi) :: B, by rw [c1, c2], ?_, hpw, ?_, by simp; omega, ?_, hiff⟩
   ·rw [c3, c4, c5]
    exact comFix_map n lo hi ⟨hlo, hhi⟩ (fun r hr => by have := hAl r hr; omega) (fun r hr => by have := hB r hr; omega)
   ·have hag : Agree (prunL rs) n [0] := fun p x h1 h2 h3 => by
     have : p = n := by simp at h2; omega
     subst this
     rw [(pvAt_prunL p).2 hn] at h3
     cases h3
    obtain ⟨f1, f2⟩ := fillR_val (prunL_wf hw) hag
    refine runs_ext f1 (prunL_wf hpw) fun p => ?_
    rw [f2]
    by_cases hp : p = n
    ·subst hp
     rw [if_pos ⟨by omega, by simp; omega⟩, (pvAt_prunL p).1 ((hiff p).2 (.inl rfl))]
     simp
    ·rw [if_neg (by simp; omega)]
     by_cases hi2 : InR rs p
     ·rw [(pvAt_prunL p).1 hi2, (pvAt_prunL p).1 ((hiff p).2 (.inr hi2))]
     ·rw [(pvAt_prunL p).2 hi2, (pvAt_prunL p).2 (fun h => by rcases (hiff p).1 h with h | h; exact hp h; exact hi2 h)]
   ·rw [s1, hMB]
    simp only [List.length_append, List.length_cons]
    omega
  have up : ∀ (R' : List (Int × Int)), PWf R' -> (∀ r ∈ R', n < r.1) -> ∃ M B hi, R' = M ++ B /\ n <= hi /\ (∀ st : ComS, st.inn = false -> st.hi = n -> comF n (some st) M = some { st with hi := hi }) /\ (∀ r ∈ B, n + 1 < r.1) /\ (∀ r ∈ B, hi + 1 < r.1) /\
    (∀ p, (n <= p /\ p <= hi) ↔ (p = n \/ InR M p)) := by
   intro R' hw' hgt
   have triv : (∀ r ∈ R', n + 1 < r.1) -> ∃ M B hi, R' = M ++ B /\ n <= hi /\ (∀ st : ComS, st.inn = false -> st.hi = n -> comF n (some st) M = some { st with hi := hi }) /\ (∀ r ∈ B, n + 1 < r.1) /\ (∀ r ∈ B, hi + 1 < r.1) /\
    (∀ p, (n <= p /\ p <= hi) ↔ (p = n \/ InR M p)) := fun h => ⟨[], R', n, rfl, Int.le_refl _, fun st _ h2 => by simp [comF, <- h2], h, h, fun p => ⟨fun h => .inl (by omega), fun h => by
     rcases h with h | ⟨r, hr, _⟩
     ·omega
     ·cases hr⟩⟩
   cases R' with
   | nil => exact triv (by simp)
   | cons a t =>
    by_cases ha : a.1 = n + 1
    ·refine ⟨[a], t, a.2, rfl, by have := hw'.1; omega, fun st h1 h2 => ?_, fun r hr => by have := hw'.2.1 r hr; have := hw'.1; omega, fun r hr => hw'.2.1 r hr, fun p => ⟨fun h => ?_, fun h => ?_⟩⟩
     ·show comStep n st a = _
      unfold comStep
      rw [if_neg (by omega), if_neg (by have := hw'.1; omega), if_pos ha]
     ·by_cases hp : p = n
      ·exact .inl hp
      ·exact .inr ⟨a, by simp, by omega⟩
     ·rcases h with h | ⟨r, hr, h⟩
      ·have := hw'.1; omega
      ·simp at hr; subst hr; omega
    ·refine triv (fun r hr => ?_)
     have h0 := hgt a (by simp)
     rcases List.mem_cons.1 hr with rfl | hr
     ·omega
     ·have := hw'.2.1 r hr; have := hw'.1; omega
  cases R with
  | nil =>
   obtain ⟨M, B, hi, h1, h2, h3, h4, h5, h6⟩ := up [] trivial (by simp)
   exact fin M B n hi h1 (Int.le_refl _) h2 (fun st a1 a2 a3 => by rw [h3 st a1 a3, <- a2]) h4 h5 (fun r hr => (hAl r hr).2) h6
  | cons a t =>
   have ha1 : n <= a.2 + 1 := by have := dropWhile_head hR; simpa using this
   have ha2 := hout a (by simp)
   by_cases hb : a.2 = n - 1
   ·obtain ⟨M, B, hi, h1, h2, h3, h4, h5, h6⟩ := up t hwR.2.2 (fun r hr => by have := hwR.2.1 r hr; omega)
    refine fin (a :: M) B a.1 hi (by rw [h1]; rfl) (by have := hwR.1; omega) h2 (fun st a1 a2 a3 => ?_) h4 h5 (fun r hr => hAR r hr a (by simp)) (fun p => ?_)
    ·show comF n (comStep n st a) M = _
     have e : comStep n st a = some { st with lo := a.1 } := by
      unfold comStep
      rw [if_neg (by omega), if_pos hb]
     rw [e, h3 { st with lo := a.1 } a1 a3]
    ·have h7 := h6 p
     constructor
     ·intro h
      by_cases hp : n <= p
      ·rcases h7.1 ⟨hp, h.2⟩ with h8 | ⟨r, hr, h8⟩
       ·exact .inl h8
       ·exact .inr ⟨r, by simp [hr], h8⟩
      ·exact .inr ⟨a, by simp, by omega⟩
     ·rintro (h | ⟨r, hr, h⟩)
      ·have := h7.2 (.inl h); have := hwR.1; omega
      ·rcases List.mem_cons.1 hr with rfl | hr
       ·omega
       ·have := h7.2 (.inr ⟨r, hr, h⟩); have := hwR.1; omega
   ·obtain ⟨M, B, hi, h1, h2, h3, h4, h5, h6⟩ := up (a :: t) hwR (fun r hr => by
     have h0 : n < a.1 := by omega
     rcases List.mem_cons.1 hr with rfl | hr
     ·exact h0
     ·have := hwR.2.1 r hr; have := hwR.1; omega)
    exact fin M B n hi h1 (Int.le_refl _) h2 (fun st a1 a2 a3 => by rw [h3 st a1 a3, <- a2]) h4 h5 (fun r hr => (hAl r hr).2) h6
theorem leadS_cons (x : Int) (l : List Int) : leadS (x :: l) = if 0 <= x then leadS l + 1 else 0 := by
 unfold leadS
 rw [List.takeWhile_cons]
 by_cases hx : 0 <= x <;> simp [hx]
theorem leadS_le (l : List Int) : leadS l <= l.length := by
 induction l with
 | nil => simp [leadS]
 | cons x l ih => rw [leadS_cons]; split <;> simp <;> omega
theorem runsOf_lead (l : List Int) : ∀ base : Int, 0 < leadS l -> runsOf base l = (base, l.take (leadS l)) :: runsOf (base + leadS l) (l.drop (leadS l)) := by
 induction l with
 | nil => intro base h; simp [leadS] at h
 | cons x l ih =>
  intro base h
  rw [leadS_cons] at h ⊢
  by_cases hx : 0 <= x
  ·rw [if_pos hx, runsOf_cons, if_pos hx]
   by_cases hl : 0 < leadS l
   ·rw [ih (base + 1) hl]
    unfold consRun
    simp only [if_true, List.take_succ_cons, List.drop_succ_cons]
    congr 2
    omega
   ·have h0 : leadS l = 0 := by omega
    rw [h0]
    have hh := runsOf_head (base + 1) l
    have hneg : ¬ 0 <= l.getD 0 (-1) := by
     cases l with
     | nil => simp [List.getD]
     | cons y t =>
      rw [leadS_cons] at h0
      split at h0
      ·omega
      ·assumption
    unfold consRun
    cases hr : runsOf (base + 1) l with
    | nil => simp [hr]
    | cons r t =>
     rw [hr] at hh
     have : r.1 ≠ base + 1 := fun e => hneg (hh.1 (by simp [e]))
     simp [this, hr]
  ·rw [if_neg hx] at h
   omega
theorem leadS_drop (l : List Int) : ∀ k, k <= leadS l -> leadS (l.drop k) = leadS l - k := by
 induction l with
 | nil => intro k _; simp [leadS]
 | cons x l ih =>
  intro k hk
  cases k with
  | zero => simp
  | succ k =>
   rw [leadS_cons] at hk ⊢
   split at hk
   ·rename_i hx
    rw [if_pos hx, List.drop_succ_cons, ih k (by omega)]
    omega
   ·omega
theorem runsOf_nolead (l : List Int) (h : leadS l = 0) (base : Int) : ∀ q ∈ runsOf base l, base < q.1 := by
 cases l with
 | nil => simp [runsOf]
 | cons x l =>
  rw [leadS_cons] at h
  split at h
  ·omega
  ·rename_i hx
   intro q hq
   rw [runsOf_cons, if_neg hx] at hq
   have := runsOf_from l (base + 1) q hq
   omega
theorem covers_lead (base : Int) (l : List Int) (tz : Int) : coversR (runsOf base l) base tz = decide (tz <= base + leadS l) := by
 unfold coversR
 rw [Bool.eq_iff_iff]
 simp only [Bool.or_eq_true, decide_eq_true_iff, List.any_eq_true, Bool.and_eq_true]
 have hl := leadS_le l
 by_cases h : 0 < leadS l
 ·have hw := runsOf_wf l base
  rw [runsOf_lead l base h] at hw ⊢
  have hb : behindR (base, l.take (leadS l)) = base + leadS l := by unfold behindR; simp only [List.length_take]; omega
  constructor
  ·rintro (h1 | ⟨r, hr, h1, h2⟩)
   ·omega
   ·rcases List.mem_cons.1 hr with rfl | hr
    ·omega
    ·have := hw.2.1 r hr
     simp only [List.length_take] at this
     omega
  ·intro h1
   exact .inr ⟨_, List.mem_cons_self, Int.le_refl _, by rw [hb]; exact h1⟩
 ·have h0 : leadS l = 0 := by omega
  constructor
  ·rintro (h1 | ⟨r, hr, h1, h2⟩)
   ·omega
   ·have := runsOf_nolead l h0 base r hr
    omega
  ·intro h1
   exact .inl (by omega)
structure StrInv (gaps : Int) (x : StrS) : Prop where
 read : 0 <= x.read
 ent : ∀ b ∈ x.bytes, -1 <= b /\ b < 256
 len : x.read + x.bytes.length <= x.highest
 fin : 0 <= x.final -> x.highest = x.final
 fin0 : -1 <= x.final
 rst : x.reset = true -> x.bytes = [] /\ 0 <= x.final
 dn : x.done = true -> x.bytes = [] /\ 0 <= x.final /\ (x.reset = false -> x.read = x.final)
 gaps : runsTo x.bytes x.bytes.length <= gaps
 cred : x.highest <= x.credit /\ x.credit <= 1073741823
theorem recvTo_len {l : List Int} {d : Int} {b : List Int} : ∀ {k : Nat} {m : List Int}, recvTo l d b k = some m -> l.length <= m.length /\ (m.length : Int) <= max (l.length : Int) (d + k)
 | 0, m, h => by
  simp only [recvTo, Option.some.injEq] at h
  subst h
  omega
 | k + 1, m, h => by
  simp only [recvTo, Option.bind_eq_some_iff] at h
  obtain ⟨m', h1, h2⟩ := h
  have ih := recvTo_len h1
  split at h2
  ·simp only [Option.some.injEq] at h2
   subst h2
   omega
  ·unfold writeS at h2
   split at h2
   ·cases h2
   ·simp only [Option.some.injEq] at h2
    subst h2
    unfold grownTo
    simp only [List.length_set, List.length_append, List.length_replicate]
    omega
theorem recvTo_ent {l : List Int} {d : Int} {b : List Int} (hb : Bytes b) (hl : ∀ x ∈ l, -1 <= x /\ x < 256) : ∀ {k : Nat} {m : List Int}, k <= b.length -> recvTo l d b k = some m -> ∀ x ∈ m, -1 <= x /\ x < 256
 | 0, m, _, h => by
  simp only [recvTo, Option.some.injEq] at h
  subst h
  exact hl
 | k + 1, m, hk, h => by
  simp only [recvTo, Option.bind_eq_some_iff] at h
  obtain ⟨m', h1, h2⟩ := h
  have ih := recvTo_ent hb hl (by omega) h1
  split at h2
  ·simp only [Option.some.injEq] at h2
   subst h2
   exact ih
  ·unfold writeS at h2
   split at h2
   ·cases h2
   ·simp only [Option.some.injEq] at h2
    subst h2
    intro x hx
    rcases List.mem_or_eq_of_mem_set hx with hx | rfl
    ·unfold grownTo at hx
     rcases List.mem_append.1 hx with hx | hx
     ·exact ih x hx
     ·have := (List.mem_replicate.1 hx).2
      omega
    ·have := hb b[k] (List.getElem_mem _)
     simp only [List.getD, List.getElem?_eq_getElem (show k < b.length by omega), Option.getD_some]
     omega
theorem strDeal_inv {gaps credit high : Int} {f : FrmS} {x : StrS} (hb : Bytes f.bytes) (ho : 0 <= f.ofs) (hg : 0 <= gaps) (hx : StrInv gaps x) : StrInv gaps (strDeal gaps credit high f x).2 := by
 unfold strDeal
 simp only
 generalize he : f.ofs + (f.bytes.length : Int) = e
 by_cases hbad : badF x e (decide (f.type ≠ 3)) = true
 ·rw [if_pos hbad]; exact hx
 rw [if_neg hbad]
 by_cases hd : x.done = true
 ·rw [if_pos hd]; exact hx
 rw [if_neg hd]
 by_cases hov : overS x e credit high = true
 ·rw [if_pos hov]; exact hx
 rw [if_neg hov]
 have hd' : x.done = false := by simpa using hd
 have pass : ∀ r : StrS, r.read = x.read -> r.highest = x.highest -> r.final = x.final -> r.reset = x.reset -> r.done = x.done -> r.credit = x.credit -> (∀ b ∈ r.bytes, -1 <= b /\ b < 256) -> r.read + r.bytes.length <= max x.highest e ->
   (r.reset = true -> r.bytes = []) -> runsTo r.bytes r.bytes.length <= gaps -> StrInv gaps (passS f x r) := by
  intro r r1 r2 r3 r4 r5 r6 r7 r8 r9 r10
  have hbad' : badF x e (decide (f.type ≠ 3)) = false := by simpa using hbad
  have hov' : overS x e credit high = false := by simpa using hov
  unfold badF at hbad'
  unfold overS at hov'
  simp only [hd', Bool.not_false, Bool.true_and, Bool.or_eq_false_iff, Bool.and_eq_false_iff, decide_eq_false_iff_not] at hbad' hov'
  have hm : x.highest + moreS x e = max x.highest e := by unfold moreS; split <;> omega
  have c1 := hx.cred
  have f1 := hx.fin
  have f0 := hx.fin0
  have y : StrInv gaps { r with highest := x.highest + moreS x e, final := if f.type ≠ 3 then e else r.final } := by
   refine ⟨by rw [r1]; exact hx.read, r7, by simp only; rw [hm]; exact r8, ?_, ?_, ?_, ?_, r10, ?_⟩
   ·simp only
    rw [hm, r3]
    by_cases ht : f.type ≠ 3
    ·rw [if_pos ht]
     intro _
     have : ¬ e < x.highest := by
      rcases hbad'.2 with h | h
      ·exact absurd h (by simpa using ht)
      ·exact h
     omega
    ·rw [if_neg ht]
     intro h0
     have h1 := f1 h0
     rcases hbad'.1 with h | h
     ·omega
     ·omega
   ·simp only
    split
    ·omega
    ·rw [r3]; exact f0
   ·simp only
    intro h
    refine ⟨r9 h, ?_⟩
    split
    ·omega
    ·rw [r3]; exact (hx.rst (r4 ▸ h)).2
   ·simp only
    intro h
    rw [r5, hd'] at h
    cases h
   ·simp only
    rw [hm, r6]
    have := hov'.1
    omega
  have key : ∀ Y : StrS, StrInv gaps Y -> (f.type = 5 -> 0 <= Y.final) -> Y.done = false -> StrInv gaps (if f.type = 5 /\ allS Y = false then { Y with reset := true, bytes := [] } else Y) := by
   intro Y hY h6 h7
   split
   ·rename_i hc
    refine ⟨hY.read, by simp, ?_, hY.fin, hY.fin0, fun _ => ⟨rfl, h6 hc.1⟩, ?_, by simpa [runsTo] using hg, hY.cred⟩
    ·have := hY.len
     simp only [List.length_nil] at this ⊢
     omega
    ·intro h
     rw [h7] at h
     cases h
   ·exact hY
  unfold passS
  simp only [he]
  refine key _ y (fun h => ?_) (by simp only; rw [r5]; exact hd')
  simp only
  rw [if_pos (by omega)]
  omega
 by_cases hr : f.type ≠ 5 /\ x.reset = false
 ·rw [if_pos hr]
  by_cases hc : (recvS gaps x f.ofs f.bytes).1 ≠ 0
  ·rw [if_pos hc]; exact hx
  ·rw [if_neg hc]
   unfold recvS at hc ⊢
   cases hm : recvTo x.bytes (f.ofs - x.read) f.bytes f.bytes.length with
   | none => rw [hm] at hc; simp at hc
   | some m =>
    rw [hm] at hc
    simp only at hc ⊢
    split at hc
    ·simp at hc
    ·rename_i hgp
     rw [if_neg hgp]
     have hl := recvTo_len hm
     refine pass _ rfl rfl rfl rfl rfl rfl (recvTo_ent hb hx.ent (Nat.le_refl _) hm) ?_ (fun h => ?_) (by simp only; omega)
     ·have := hx.len
      simp only
      omega
     ·simp only at h
      rw [hr.2] at h
      cases h
 ·rw [if_neg hr]
  exact pass x rfl rfl rfl rfl rfl rfl hx.ent (by have := hx.len; omega) (fun h => (hx.rst h).1) hx.gaps
def tellsN (ty : Int) : Bool := (ty == 4) || (ty == 5)
def finalN (ty en fi : Int) : Int := if fi < en \/ (tellsN ty = true /\ en ≠ fi) then 6 else 0
def creditN (hi cr en room : Int) : Int := if cr < en \/ room < en - hi then 3 else 0
def endN (kn : Bool) (ty en hi fi : Int) : Int := if kn = true then finalN ty en fi else if tellsN ty = true /\ en < hi then 6 else 0
def recN (rs : Bool) (rl : List RunL) (first : Int) (fresh : List Int) (gaps : Int) : Int × List RunL :=
 if rs = true then (0, rl) else if agreesR rl first fresh = false then (9, rl) else (if gaps < (fillR rl first fresh).length then 8 else 0, fillR rl first fresh)
theorem agreesR_nil (rl : List RunL) (first : Int) : agreesR rl first [] = true := by
 unfold agreesR
 rw [List.all_eq_true]
 intro r _
 rw [agreeOne_iff]
 intro p h1 h2
 simp at h2
 omega
theorem fillR_nil (rl : List RunL) (first : Int) : fillR rl first [] = rl := by
 unfold fillR
 rw [if_pos rfl]
theorem runsOf_to (l : List Int) : ∀ (base : Int), ∀ q ∈ runsOf base l, behindR q <= base + l.length := by
 induction l with
 | nil => intro base q hq; simp [runsOf] at hq
 | cons x l ih =>
  intro base q hq
  have hl : ((x :: l).length : Int) = l.length + 1 := by simp
  unfold runsOf at hq
  split at hq
  ·unfold consRun at hq
   split at hq
   ·simp at hq; subst hq; simp [behindR]; omega
   ·rename_i r t he
    have h1 : ∀ q ∈ r :: t, behindR q <= base + 1 + l.length := fun q hq => ih (base + 1) q (by rw [he]; exact hq)
    split at hq
    ·rename_i e
     rcases List.mem_cons.1 hq with rfl | hq
     ·have := h1 r (by simp)
      simp only [behindR, List.length_cons] at this ⊢
      omega
     ·have := h1 q (by simp [hq]); omega
    ·rcases List.mem_cons.1 hq with rfl | hq
     ·simp [behindR]; omega
     ·have := h1 q hq; omega
  ·have := ih (base + 1) q hq; omega
theorem tells_not3 {ty : Int} (h : ty = 3 \/ ty = 4 \/ ty = 5) : tellsN ty = decide (ty ≠ 3) := by
 rcases h with rfl | rfl | rfl <;> decide
theorem endN_bad {gaps : Int} {x : StrS} (hx : StrInv gaps x) (hd : x.done = false) {ty e : Int} (hty : ty = 3 \/ ty = 4 \/ ty = 5) :
  (badF x e (decide (ty ≠ 3)) = true /\ endN (decide (0 <= x.final)) ty e x.highest (max x.final 0) = 6) \/ (badF x e (decide (ty ≠ 3)) = false /\ endN (decide (0 <= x.final)) ty e x.highest (max x.final 0) = 0) := by
 unfold badF endN finalN
 rw [tells_not3 hty, hd]
 by_cases h0 : 0 <= x.final
 ·have hf := hx.fin h0
  have hm : max x.final 0 = x.final := by omega
  rw [hm, hf]
  by_cases a : x.final < e
  ·left; simp [h0, a]
  ·by_cases b : ty = 3
   ·right; simp [h0, a, b]
   ·by_cases c : e = x.final
    ·right; simp [h0, b, c]
    ·left
     simp [h0, b, c]
 ·by_cases b : ty = 3
  ·right; simp [h0, b]
  ·by_cases c : e < x.highest
   ·left; simp [h0, b, c]
   ·right; simp [h0, b, c]
theorem creditN_over {x : StrS} {e credit high : Int} (hch : high <= credit) :
  (overS x e credit high = true /\ creditN x.highest x.credit e (credit - high) = 3) \/ (overS x e credit high = false /\ creditN x.highest x.credit e (credit - high) = 0) := by
 unfold overS creditN moreS
 by_cases a : x.credit < e
 ·left; simp [a]
 ·by_cases b : x.highest < e
  ·by_cases c : credit < high + (e - x.highest)
   ·left; simp [a, b, c]; omega
   ·right; simp [a, b, c]; omega
  ·right; simp [a, b]; omega
theorem recN_is {gaps : Int} {x : StrS} (hx : StrInv gaps x) {f : FrmS} (hb : Bytes f.bytes) (h5 : f.type = 5 -> f.bytes = []) :
  let po := if f.type = 5 then 0 else f.ofs
  let k := skipN x.read po f.bytes
  let r := recN x.reset (runsOf x.read x.bytes) (po + k) (f.bytes.drop k) gaps
  (f.type ≠ 5 /\ x.reset = false -> r.1 = (recvS gaps x f.ofs f.bytes).1 /\ (r.1 = 0 -> r.2 = runsOf x.read (recvS gaps x f.ofs f.bytes).2.bytes)) /\ (¬ (f.type ≠ 5 /\ x.reset = false) -> r = (0, runsOf x.read x.bytes)) := by
 intro po k r
 have hcnt : ((runsOf x.read x.bytes).length : Int) <= gaps := by rw [runsOf_length]; exact hx.gaps
 constructor
 ·rintro ⟨h1, h2⟩
  have hpo : po = f.ofs := if_neg h1
  have hr : r = recN x.reset (runsOf x.read x.bytes) (f.ofs + skipN x.read f.ofs f.bytes) (f.bytes.drop (skipN x.read f.ofs f.bytes)) gaps := by
   show recN x.reset (runsOf x.read x.bytes) (po + skipN x.read po f.bytes) (f.bytes.drop (skipN x.read po f.bytes)) gaps = _
   rw [hpo]
  rw [hr]
  unfold recN recvS
  rw [if_neg (by rw [h2]; decide)]
  rcases recv_runs x.read x.bytes f.ofs hb with ⟨e1, e2⟩ | ⟨e1, m, e2, e3⟩
  ·rw [if_pos e1, e2]
   exact ⟨rfl, fun h => absurd (show (9 : Int) = 0 from h) (by decide)⟩
  ·rw [if_neg (by rw [e1]; decide), e2, e3]
   simp only
   rw [runsOf_length]
   split
   ·rename_i h
    exact ⟨rfl, fun h => absurd (show (8 : Int) = 0 from h) (by decide)⟩
   ·exact ⟨rfl, fun _ => rfl⟩
 ·intro h
  show recN _ _ _ _ _ = _
  unfold recN
  by_cases h2 : x.reset = true
  ·rw [if_pos h2]
  ·have h3 : f.type = 5 := Classical.byContradiction fun h3 => h ⟨h3, by simpa using h2⟩
   have hbn := h5 h3
   rw [if_neg h2]
   have hd : f.bytes.drop k = [] := by rw [hbn]; simp
   rw [hd, agreesR_nil, fillR_nil, if_neg (by decide), if_neg (by omega)]
theorem strDeal_prog {gaps credit high : Int} {f : FrmS} {x : StrS} (hb : Bytes f.bytes) (hx : StrInv gaps x) (hd : x.done = false) (hch : high <= credit) (hty : f.type = 3 \/ f.type = 4 \/ f.type = 5) (h5 : f.type = 5 -> f.bytes = []) (ho : 0 <= f.ofs) :
  let e := f.ofs + f.bytes.length
  let po := if f.type = 5 then 0 else f.ofs
  let c1 := endN (decide (0 <= x.final)) f.type e x.highest (max x.final 0)
  let c2 := creditN x.highest x.credit e (credit - high)
  let k := skipN x.read po f.bytes
  let r := recN x.reset (runsOf x.read x.bytes) (po + k) (f.bytes.drop k) gaps
  (strDeal gaps credit high f x).1 = (if c1 ≠ 0 then c1 else if c2 ≠ 0 then c2 else r.1) /\
  (c1 = 0 -> c2 = 0 -> r.1 = 0 -> ∀ x', (strDeal gaps credit high f x).2 = x' -> x'.read = x.read /\ x'.highest = max x.highest e /\ x'.credit = x.credit /\ x'.final = (if tellsN f.type = true then e else x.final) /\ x'.done = false /\
   (f.type = 5 -> coversR r.2 x.read e = false -> x'.reset = true /\ x'.bytes = []) /\ (¬ (f.type = 5 /\ coversR r.2 x.read e = false) -> x'.reset = x.reset /\ runsOf x.read x'.bytes = r.2)) := by
 intro e po c1 c2 k r
 have hrec := recN_is hx hb h5
 have he0 : 0 <= e := by show 0 <= f.ofs + f.bytes.length; omega
 have ht := tells_not3 hty
 rcases endN_bad hx hd (ty := f.type) (e := e) hty with ⟨b1, d1⟩ | ⟨b1, d1⟩
 ·have hs : strDeal gaps credit high f x = (6, x) := by unfold strDeal; rw [if_pos b1]
  have hc : c1 = 6 := d1
  rw [hs, hc]
  exact ⟨rfl, fun h => absurd h (by decide)⟩
 ·have hc : c1 = 0 := d1
  rw [hc]
  rcases creditN_over (x := x) (e := e) hch with ⟨b2, d2⟩ | ⟨b2, d2⟩
  ·have hs : strDeal gaps credit high f x = (3, x) := by
    unfold strDeal
    rw [if_neg (by rw [b1]; decide), if_neg (by rw [hd]; decide), if_pos b2]
   have hc2 : c2 = 3 := d2
   rw [hs, hc2]
   exact ⟨rfl, fun _ h => absurd h (by decide)⟩
  ·have hc2 : c2 = 0 := d2
   rw [hc2]
   have hhi : x.highest + moreS x e = max x.highest e := by unfold moreS; split <;> omega
   have hpass : ∀ y : StrS, y.read = x.read -> y.credit = x.credit -> y.done = false -> y.final = x.final -> y.reset = x.reset -> runsOf x.read y.bytes = r.2 -> ∀ x', passS f x y = x' -> x'.read = x.read /\ x'.highest = max x.highest e /\ x'.credit = x.credit /\ x'.final = (if tellsN f.type = true then e else x.final) /\ x'.done = false /\
     (f.type = 5 -> coversR r.2 x.read e = false -> x'.reset = true /\ x'.bytes = []) /\ (¬ (f.type = 5 /\ coversR r.2 x.read e = false) -> x'.reset = x.reset /\ runsOf x.read x'.bytes = r.2) := by
    intro y y1 y2 y3 y4 y5 y6 x' hx'
    have hcov : ∀ z : StrS, z.read = x.read -> z.bytes = y.bytes -> z.final = e -> (allS z = false ↔ coversR r.2 x.read e = false) := by
     intro z z1 z2 z3
     rw [<- y6, covers_lead]
     unfold allS
     rw [z1, z2, z3]
     simp [he0]
    have hfin : (if f.type ≠ 3 then e else y.final) = (if tellsN f.type = true then e else x.final) := by
     rw [ht, y4]
     by_cases h3 : f.type = 3 <;> simp [h3]
    rw [<- hx']
    unfold passS
    simp only
    by_cases h5' : f.type = 5
    ·have hn3 : f.type ≠ 3 := by omega
     have hf5 : (if f.type ≠ 3 then f.ofs + (f.bytes.length : Int) else y.final) = e := if_pos hn3
     by_cases hc5 : coversR r.2 x.read e = false
     ·rw [if_pos ⟨h5', (hcov { y with highest := x.highest + moreS x e, final := if f.type ≠ 3 then e else y.final } y1 rfl hf5).2 hc5⟩]
      refine ⟨y1, hhi, y2, hfin, y3, fun _ _ => ⟨rfl, rfl⟩, fun h => absurd ⟨h5', hc5⟩ h⟩
     ·rw [if_neg (fun h => hc5 ((hcov { y with highest := x.highest + moreS x e, final := if f.type ≠ 3 then e else y.final } y1 rfl hf5).1 h.2))]
      exact ⟨y1, hhi, y2, hfin, y3, fun _ h => absurd h hc5, fun _ => ⟨y5, y6⟩⟩
    ·rw [if_neg (fun h => h5' h.1)]
     exact ⟨y1, hhi, y2, hfin, y3, fun h => absurd h h5', fun _ => ⟨y5, y6⟩⟩
   by_cases hr : f.type ≠ 5 /\ x.reset = false
   ·obtain ⟨hr1, hr2⟩ := hrec.1 hr
    have hs : strDeal gaps credit high f x = if (recvS gaps x f.ofs f.bytes).1 ≠ 0 then ((recvS gaps x f.ofs f.bytes).1, x) else (0, passS f x (recvS gaps x f.ofs f.bytes).2) := by
     conv => lhs; unfold strDeal
     rw [if_neg (by rw [b1]; decide), if_neg (by rw [hd]; decide), if_neg (by rw [b2]; decide), if_pos hr]
    have hr1' : r.1 = (recvS gaps x f.ofs f.bytes).1 := hr1
    have hr2' : r.1 = 0 -> r.2 = runsOf x.read (recvS gaps x f.ofs f.bytes).2.bytes := hr2
    by_cases hz : (recvS gaps x f.ofs f.bytes).1 ≠ 0
    ·rw [hs, if_pos hz]
     refine ⟨by rw [hr1']; rfl, fun _ _ h => absurd (hr1'.symm.trans h) hz⟩
    ·rw [hs, if_neg hz]
     have hz' : (recvS gaps x f.ofs f.bytes).1 = 0 := Classical.byContradiction hz
     refine ⟨by rw [hr1', hz']; rfl, fun _ _ h x' hx' => ?_⟩
     have hrs : ∃ l, (recvS gaps x f.ofs f.bytes).2 = { x with bytes := l } := by
      unfold recvS
      split
      ·exact ⟨x.bytes, rfl⟩
      ·split
       ·exact ⟨x.bytes, rfl⟩
       ·exact ⟨_, rfl⟩
     obtain ⟨l, hl⟩ := hrs
     have h6 := hr2' h
     refine hpass _ ?_ ?_ ?_ ?_ ?_ h6.symm x' hx' <;> rw [hl]
     exact hd
   ·have hr0 : r = (0, runsOf x.read x.bytes) := hrec.2 hr
    have hs : strDeal gaps credit high f x = (0, passS f x x) := by
     conv => lhs; unfold strDeal
     rw [if_neg (by rw [b1]; decide), if_neg (by rw [hd]; decide), if_neg (by rw [b2]; decide), if_neg hr]
    rw [hs]
    refine ⟨by rw [hr0]; rfl, fun _ _ _ x' hx' => hpass x rfl rfl hd rfl rfl (by rw [hr0]) x' hx'⟩
end Go.Proofs.YthmdjhlhodpbhaaGreatDoor
namespace Go.Proofs.YthmdjhlhodpbhaaGreatDoor
open Go.RowKit
def pfrmV (ty id ofs : Int) (bv : Value) (en pf : Int) : Value := .agg #[.int .i64 ty, .int .i64 id, .int .i64 ofs, bv, .int .i64 en, .int .i64 pf]
theorem wTellsFinal_any (ty id ofs : Int) (bv : Value) (en pf : Int) (w : World) :
  Calls Tryz.prog 230 #[pfrmV ty id ofs bv en pf] w fun e w' => e = .returned (.bool (tellsN ty)) /\ Below w.heap.size w w' := by
 unfold pfrmV tellsN
 by_cases h4 : ty = 4
 ·subst h4
  go_enter Tryz.func230, Tryz.ntmps230
  go_wp2_with fail
  go_ret
  exact ⟨rfl, below_alloc _ _⟩
 ·have hd2 : (ty == 4) = false := by simpa using h4
  rw [hd2]
  go_enter Tryz.func230, Tryz.ntmps230
  go_wp2_with fail
  go_ret
  exact ⟨by simp, below_alloc _ _⟩
theorem tBytesRead_any (b : Nat) (rd : Int) (w : World) (hc : w.cell? ⟨b, 1, none⟩ = some (.int .i64 rd)) :
  Calls Tryz.prog 134 #[.pointer (some ⟨b, 0, none⟩)] w fun e w' => e = .returned (.int .i64 rd) /\ w' = w := by
 go_enter Tryz.func134, Tryz.ntmps134
 go_wp2_with fail
 go_ret
 exact ⟨rfl, rfl⟩
theorem tHighest_any (b : Nat) (hi : Int) (w : World) (hc : w.cell? ⟨b, 2, none⟩ = some (.int .i64 hi)) :
  Calls Tryz.prog 225 #[.pointer (some ⟨b, 0, none⟩)] w fun e w' => e = .returned (.int .i64 hi) /\ w' = w := by
 go_enter Tryz.func225, Tryz.ntmps225
 go_wp2_with fail
 go_ret
 exact ⟨rfl, rfl⟩
theorem tCredit_any (b : Nat) (cr ah : Int) (w : World) (hc : w.cell? ⟨b, 3, none⟩ = some (.int .i64 cr)) (hd : w.cell? ⟨b, 4, none⟩ = some (.int .i64 ah)) :
  Calls Tryz.prog 79 #[.pointer (some ⟨b, 0, none⟩)] w fun e w' => e = .returned (.int .i64 cr) /\ Below w.heap.size w w' := by
 have HX := hideIt (kBytes_any cr ah w)
 go_enter Tryz.func79, Tryz.ntmps79
 go_wp2_with fail
 refine HX.out.mono ?_
 rintro e w1 ⟨rfl, hb1⟩
 go_wp2_with fail
 go_ret
 exact ⟨rfl, hb1⟩
theorem tcheckFinal_any (ty id ofs : Int) (bv : Value) (en pf fi : Int) (w : World) :
  Calls Tryz.prog 224 #[pfrmV ty id ofs bv en pf, .int .i64 fi] w fun e w' => e = .returned (.int .i64 (finalN ty en fi)) /\ Below w.heap.size w w' := by
 have HX : Hid (∀ W, Calls Tryz.prog 230 #[.agg #[.int .i64 ty, .int .i64 id, .int .i64 ofs, bv, .int .i64 en, .int .i64 pf]] W fun e w' => e = .returned (.bool (tellsN ty)) /\ Below W.heap.size W w') := fun W => wTellsFinal_any ty id ofs bv en pf W
 unfold pfrmV finalN
 by_cases h1 : fi < en
 ·rw [if_pos (Or.inl h1)]
  have hd : decide (fi < en) = true := by simpa using h1
  go_enter Tryz.func224, Tryz.ntmps224
  go_wp2_with fail
  go_ret
  exact ⟨rfl, below_alloc _ _⟩
 ·have hd : decide (fi < en) = false := by simpa using h1
  have hcode : ∀ t : Bool, tellsN ty = t -> (if fi < en \/ (tellsN ty = true /\ en ≠ fi) then (6 : Int) else 0) = if (t && (en != fi)) = true then 6 else 0 := by
   intro t ht
   rw [ht]
   cases t <;> simp [h1, bne]
  replace hcode := hideIt hcode
  have HC : Hid (∀ W : World, Below (w.alloc (.cells #[.int .i64 ty, .int .i64 id, .int .i64 ofs, bv, .int .i64 en, .int .i64 pf] 286)).heap.size (w.alloc (.cells #[.int .i64 ty, .int .i64 id, .int .i64 ofs, bv, .int .i64 en, .int .i64 pf] 286)) W -> W.cell? ⟨w.heap.size, 4, none⟩ = some (.int .i64 en) /\ Below w.heap.size w W) := by
   intro W hW
   refine ⟨cell_below ?_ hW, below_join (below_alloc _ _) hW⟩
   simp only [World.cell?, heap_alloc_new]
   rfl
  cases ht : tellsN ty with
  | false =>
   have hc := hideIt (hcode.out _ ht)
   rw [ht] at HX hc
   rw [hc.out]
   go_enter Tryz.func224, Tryz.ntmps224
   go_wp2_with fail
   refine (HX.out _).mono ?_
   rintro e w1 ⟨rfl, hb1⟩
   obtain ⟨c4, hbw⟩ := HC.out w1 hb1
   clear hb1 HC HX hc hcode
   go_wp2_with fail
   go_ret
   exact ⟨rfl, hbw⟩
  | true =>
   have hc := hideIt (hcode.out _ ht)
   rw [ht] at HX hc
   rw [hc.out]
   by_cases hn : en = fi
   ·subst hn
    rw [if_neg (by simp)]
    have hne : (en != en) = false := by simp
    go_enter Tryz.func224, Tryz.ntmps224
    go_wp2_with fail
    refine (HX.out _).mono ?_
    rintro e w1 ⟨rfl, hb1⟩
    obtain ⟨c4, hbw⟩ := HC.out w1 hb1
    clear hb1 HC HX hc hcode
    go_wp2_with fail
    go_ret
    exact ⟨rfl, hbw⟩
   ·have hne : (en != fi) = true := by simpa using hn
    have hne2 : (en == fi) = false := by simpa using hn
    rw [hne, if_pos (by decide)]
    go_enter Tryz.func224, Tryz.ntmps224
    go_wp2_with fail
    refine (HX.out _).mono ?_
    rintro e w1 ⟨rfl, hb1⟩
    obtain ⟨c4, hbw⟩ := HC.out w1 hb1
    clear hb1 HC HX hc hcode
    go_wp2_with fail
    go_ret
    exact ⟨rfl, hbw⟩
end Go.Proofs.YthmdjhlhodpbhaaGreatDoor
