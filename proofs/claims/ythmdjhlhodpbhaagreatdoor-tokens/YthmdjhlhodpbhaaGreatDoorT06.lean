/- Tokens, 6 -/
import Derived.Test.YthmdjhlhodpbhaaGreatDoorT04
import Derived.Test.YthmdjhlhodpbhaaGreatDoorT05
set_option maxHeartbeats 16000000
set_option maxRecDepth 8000
namespace Go.Proofs.YthmdjhlhodpbhaaGreatDoor
def tellsN (ty : Int) : Bool := (ty == 4) || (ty == 5)
def finalN (ty en fi : Int) : Int := if fi < en \/ (tellsN ty = true /\ en ≠ fi) then 6 else 0
def creditN (hi cr en room : Int) : Int := if cr < en \/ room < en - hi then 3 else 0
def endN (kn : Bool) (ty en hi fi : Int) : Int := if kn = true then finalN ty en fi else if tellsN ty = true /\ en < hi then 6 else 0
def recN (rs : Bool) (rl : List RunL) (first : Int) (fresh : List Int) (gaps : Int) : Int × List RunL :=
  if rs = true then (0, rl) else if agreesR rl first fresh = false then (9, rl) else (if gaps < (fillR rl first fresh).length then 8 else 0, fillR rl first fresh)
theorem agreesR_nil (rl : List RunL) (first : Int) : agreesR rl first [] = true := by
  unfold agreesR
  rw [List.all_eq_true]
  intro r _
  rw [agreeOne_iff]
  intro p h1 h2
  simp at h2
  omega
theorem fillR_nil (rl : List RunL) (first : Int) : fillR rl first [] = rl := by
  unfold fillR
  rw [if_pos rfl]
theorem runsOf_to (l : List Int) : ∀ (base : Int), ∀ q ∈ runsOf base l, behindR q <= base + l.length := by
  induction l with
  | nil => intro base q hq; simp [runsOf] at hq
  | cons x l ih =>
    intro base q hq
    have hl : ((x :: l).length : Int) = l.length + 1 := by simp
    unfold runsOf at hq
    split at hq
    . unfold consRun at hq
      split at hq
      . simp at hq; subst hq; simp [behindR]; omega
      . rename_i r t he
        have h1 : ∀ q ∈ r :: t, behindR q <= base + 1 + l.length := fun q hq => ih (base + 1) q (by rw [he]; exact hq)
        split at hq
        . rename_i e
          rcases List.mem_cons.1 hq with rfl | hq
          . have := h1 r (by simp)
            simp only [behindR, List.length_cons] at this ⊢
            omega
          . have := h1 q (by simp [hq]); omega
        . rcases List.mem_cons.1 hq with rfl | hq
          . simp [behindR]; omega
          . have := h1 q hq; omega
    . have := ih (base + 1) q hq; omega
theorem tells_not3 {ty : Int} (h : ty = 3 \/ ty = 4 \/ ty = 5) : tellsN ty = decide (ty ≠ 3) := by
  rcases h with rfl | rfl | rfl <;> decide
theorem endN_bad {gaps : Int} {x : StrS} (hx : StrInv gaps x) (hd : x.done = false) {ty e : Int} (hty : ty = 3 \/ ty = 4 \/ ty = 5) :
    (badF x e (decide (ty ≠ 3)) = true /\ endN (decide (0 <= x.final)) ty e x.highest (max x.final 0) = 6) \/ (badF x e (decide (ty ≠ 3)) = false /\ endN (decide (0 <= x.final)) ty e x.highest (max x.final 0) = 0) := by
  unfold badF endN finalN
  rw [tells_not3 hty, hd]
  by_cases h0 : 0 <= x.final
  . have hf := hx.fin h0
    have hm : max x.final 0 = x.final := by omega
    rw [hm, hf]
    by_cases a : x.final < e
    . left; simp [h0, a]
    . by_cases b : ty = 3
      . right; simp [h0, a, b]
      . by_cases c : e = x.final
        . right; simp [h0, b, c]
        . left
          simp [h0, b, c]
  . by_cases b : ty = 3
    . right; simp [h0, b]
    . by_cases c : e < x.highest
      . left; simp [h0, b, c]
      . right; simp [h0, b, c]
theorem creditN_over {x : StrS} {e credit high : Int} (hch : high <= credit) :
    (overS x e credit high = true /\ creditN x.highest x.credit e (credit - high) = 3) \/ (overS x e credit high = false /\ creditN x.highest x.credit e (credit - high) = 0) := by
  unfold overS creditN moreS
  by_cases a : x.credit < e
  . left; simp [a]
  . by_cases b : x.highest < e
    . by_cases c : credit < high + (e - x.highest)
      . left; simp [a, b, c]; omega
      . right; simp [a, b, c]; omega
    . right; simp [a, b]; omega
theorem recN_is {gaps : Int} {x : StrS} (hx : StrInv gaps x) {f : FrmS} (hb : Bytes f.bytes) (h5 : f.type = 5 -> f.bytes = []) :
    let po := if f.type = 5 then 0 else f.ofs
    let k := skipN x.read po f.bytes
    let r := recN x.reset (runsOf x.read x.bytes) (po + k) (f.bytes.drop k) gaps
    (f.type ≠ 5 /\ x.reset = false -> r.1 = (recvS gaps x f.ofs f.bytes).1 /\ (r.1 = 0 -> r.2 = runsOf x.read (recvS gaps x f.ofs f.bytes).2.bytes)) /\ (¬ (f.type ≠ 5 /\ x.reset = false) -> r = (0, runsOf x.read x.bytes)) := by
  intro po k r
  have hcnt : ((runsOf x.read x.bytes).length : Int) <= gaps := by rw [runsOf_length]; exact hx.gaps
  constructor
  . rintro ⟨h1, h2⟩
    have hpo : po = f.ofs := if_neg h1
    have hr : r = recN x.reset (runsOf x.read x.bytes) (f.ofs + skipN x.read f.ofs f.bytes) (f.bytes.drop (skipN x.read f.ofs f.bytes)) gaps := by
      show recN x.reset (runsOf x.read x.bytes) (po + skipN x.read po f.bytes) (f.bytes.drop (skipN x.read po f.bytes)) gaps = _
      rw [hpo]
    rw [hr]
    unfold recN recvS
    rw [if_neg (by rw [h2]; decide)]
    rcases recv_runs x.read x.bytes f.ofs hb with ⟨e1, e2⟩ | ⟨e1, m, e2, e3⟩
    . rw [if_pos e1, e2]
      exact ⟨rfl, fun h => absurd (show (9 : Int) = 0 from h) (by decide)⟩
    . rw [if_neg (by rw [e1]; decide), e2, e3]
      simp only
      rw [runsOf_length]
      split
      . rename_i h
        exact ⟨rfl, fun h => absurd (show (8 : Int) = 0 from h) (by decide)⟩
      . exact ⟨rfl, fun _ => rfl⟩
  . intro h
    show recN _ _ _ _ _ = _
    unfold recN
    by_cases h2 : x.reset = true
    . rw [if_pos h2]
    . have h3 : f.type = 5 := Classical.byContradiction fun h3 => h ⟨h3, by simpa using h2⟩
      have hbn := h5 h3
      rw [if_neg h2]
      have hd : f.bytes.drop k = [] := by rw [hbn]; simp
      rw [hd, agreesR_nil, fillR_nil, if_neg (by decide), if_neg (by omega)]
theorem strDeal_prog {gaps credit high : Int} {f : FrmS} {x : StrS} (hb : Bytes f.bytes) (hx : StrInv gaps x) (hd : x.done = false) (hch : high <= credit) (hty : f.type = 3 \/ f.type = 4 \/ f.type = 5) (h5 : f.type = 5 -> f.bytes = []) (ho : 0 <= f.ofs) :
    let e := f.ofs + f.bytes.length
    let po := if f.type = 5 then 0 else f.ofs
    let c1 := endN (decide (0 <= x.final)) f.type e x.highest (max x.final 0)
    let c2 := creditN x.highest x.credit e (credit - high)
    let k := skipN x.read po f.bytes
    let r := recN x.reset (runsOf x.read x.bytes) (po + k) (f.bytes.drop k) gaps
    (strDeal gaps credit high f x).1 = (if c1 ≠ 0 then c1 else if c2 ≠ 0 then c2 else r.1) /\
    (c1 = 0 -> c2 = 0 -> r.1 = 0 -> ∀ x', (strDeal gaps credit high f x).2 = x' -> x'.read = x.read /\ x'.highest = max x.highest e /\ x'.credit = x.credit /\ x'.final = (if tellsN f.type = true then e else x.final) /\ x'.done = false /\
      (f.type = 5 -> coversR r.2 x.read e = false -> x'.reset = true /\ x'.bytes = []) /\ (¬ (f.type = 5 /\ coversR r.2 x.read e = false) -> x'.reset = x.reset /\ runsOf x.read x'.bytes = r.2)) := by
  intro e po c1 c2 k r
  have hrec := recN_is hx hb h5
  have he0 : 0 <= e := by show 0 <= f.ofs + f.bytes.length; omega
  have ht := tells_not3 hty
  rcases endN_bad hx hd (ty := f.type) (e := e) hty with ⟨b1, d1⟩ | ⟨b1, d1⟩
  . have hs : strDeal gaps credit high f x = (6, x) := by unfold strDeal; rw [if_pos b1]
    have hc : c1 = 6 := d1
    rw [hs, hc]
    exact ⟨rfl, fun h => absurd h (by decide)⟩
  . have hc : c1 = 0 := d1
    rw [hc]
    rcases creditN_over (x := x) (e := e) hch with ⟨b2, d2⟩ | ⟨b2, d2⟩
    . have hs : strDeal gaps credit high f x = (3, x) := by
        unfold strDeal
        rw [if_neg (by rw [b1]; decide), if_neg (by rw [hd]; decide), if_pos b2]
      have hc2 : c2 = 3 := d2
      rw [hs, hc2]
      exact ⟨rfl, fun _ h => absurd h (by decide)⟩
    . have hc2 : c2 = 0 := d2
      rw [hc2]
      have hhi : x.highest + moreS x e = max x.highest e := by unfold moreS; split <;> omega
      have hpass : ∀ y : StrS, y.read = x.read -> y.credit = x.credit -> y.done = false -> y.final = x.final -> y.reset = x.reset -> runsOf x.read y.bytes = r.2 -> ∀ x', passS f x y = x' -> x'.read = x.read /\ x'.highest = max x.highest e /\ x'.credit = x.credit /\ x'.final = (if tellsN f.type = true then e else x.final) /\ x'.done = false /\
          (f.type = 5 -> coversR r.2 x.read e = false -> x'.reset = true /\ x'.bytes = []) /\ (¬ (f.type = 5 /\ coversR r.2 x.read e = false) -> x'.reset = x.reset /\ runsOf x.read x'.bytes = r.2) := by
        intro y y1 y2 y3 y4 y5 y6 x' hx'
        have hcov : ∀ z : StrS, z.read = x.read -> z.bytes = y.bytes -> z.final = e -> (allS z = false ↔ coversR r.2 x.read e = false) := by
          intro z z1 z2 z3
          rw [<- y6, covers_lead]
          unfold allS
          rw [z1, z2, z3]
          simp [he0]
        have hfin : (if f.type ≠ 3 then e else y.final) = (if tellsN f.type = true then e else x.final) := by
          rw [ht, y4]
          by_cases h3 : f.type = 3 <;> simp [h3]
        rw [<- hx']
        unfold passS
        simp only
        by_cases h5' : f.type = 5
        . have hn3 : f.type ≠ 3 := by omega
          have hf5 : (if f.type ≠ 3 then f.ofs + (f.bytes.length : Int) else y.final) = e := if_pos hn3
          by_cases hc5 : coversR r.2 x.read e = false
          . rw [if_pos ⟨h5', (hcov { y with highest := x.highest + moreS x e, final := if f.type ≠ 3 then e else y.final } y1 rfl hf5).2 hc5⟩]
            refine ⟨y1, hhi, y2, hfin, y3, fun _ _ => ⟨rfl, rfl⟩, fun h => absurd ⟨h5', hc5⟩ h⟩
          . rw [if_neg (fun h => hc5 ((hcov { y with highest := x.highest + moreS x e, final := if f.type ≠ 3 then e else y.final } y1 rfl hf5).1 h.2))]
            exact ⟨y1, hhi, y2, hfin, y3, fun _ h => absurd h hc5, fun _ => ⟨y5, y6⟩⟩
        . rw [if_neg (fun h => h5' h.1)]
          exact ⟨y1, hhi, y2, hfin, y3, fun h => absurd h h5', fun _ => ⟨y5, y6⟩⟩
      by_cases hr : f.type ≠ 5 /\ x.reset = false
      . obtain ⟨hr1, hr2⟩ := hrec.1 hr
        have hs : strDeal gaps credit high f x = if (recvS gaps x f.ofs f.bytes).1 ≠ 0 then ((recvS gaps x f.ofs f.bytes).1, x) else (0, passS f x (recvS gaps x f.ofs f.bytes).2) := by
          conv => lhs; unfold strDeal
          rw [if_neg (by rw [b1]; decide), if_neg (by rw [hd]; decide), if_neg (by rw [b2]; decide), if_pos hr]
        have hr1' : r.1 = (recvS gaps x f.ofs f.bytes).1 := hr1
        have hr2' : r.1 = 0 -> r.2 = runsOf x.read (recvS gaps x f.ofs f.bytes).2.bytes := hr2
        by_cases hz : (recvS gaps x f.ofs f.bytes).1 ≠ 0
        . rw [hs, if_pos hz]
          refine ⟨by rw [hr1']; rfl, fun _ _ h => absurd (hr1'.symm.trans h) hz⟩
        . rw [hs, if_neg hz]
          have hz' : (recvS gaps x f.ofs f.bytes).1 = 0 := Classical.byContradiction hz
          refine ⟨by rw [hr1', hz']; rfl, fun _ _ h x' hx' => ?_⟩
          have hrs : ∃ l, (recvS gaps x f.ofs f.bytes).2 = { x with bytes := l } := by
            unfold recvS
            split
            . exact ⟨x.bytes, rfl⟩
            . split
              . exact ⟨x.bytes, rfl⟩
              . exact ⟨_, rfl⟩
          obtain ⟨l, hl⟩ := hrs
          have h6 := hr2' h
          refine hpass _ ?_ ?_ ?_ ?_ ?_ h6.symm x' hx' <;> rw [hl]
          exact hd
      . have hr0 : r = (0, runsOf x.read x.bytes) := hrec.2 hr
        have hs : strDeal gaps credit high f x = (0, passS f x x) := by
          conv => lhs; unfold strDeal
          rw [if_neg (by rw [b1]; decide), if_neg (by rw [hd]; decide), if_neg (by rw [b2]; decide), if_neg hr]
        rw [hs]
        refine ⟨by rw [hr0]; rfl, fun _ _ _ x' hx' => hpass x rfl rfl hd rfl rfl (by rw [hr0]) x' hx'⟩
end Go.Proofs.YthmdjhlhodpbhaaGreatDoor
namespace Go.Proofs.YthmdjhlhodpbhaaGreatDoor
open Go.RowKit
def pfrmV (ty id ofs : Int) (bv : Value) (en pf : Int) : Value := .agg #[.int .i64 ty, .int .i64 id, .int .i64 ofs, bv, .int .i64 en, .int .i64 pf]
theorem wTellsFinal_any (ty id ofs : Int) (bv : Value) (en pf : Int) (w : World) :
    Calls Tryz.prog 230 #[pfrmV ty id ofs bv en pf] w fun e w' => e = .returned (.bool (tellsN ty)) /\ Below w.heap.size w w' := by
  unfold pfrmV tellsN
  by_cases h4 : ty = 4
  . subst h4
    go_enter Tryz.func230, Tryz.ntmps230
    go_wp2_with fail
    go_ret
    exact ⟨rfl, below_alloc _ _⟩
  . have hd2 : (ty == 4) = false := by simpa using h4
    rw [hd2]
    go_enter Tryz.func230, Tryz.ntmps230
    go_wp2_with fail
    go_ret
    exact ⟨by simp, below_alloc _ _⟩
theorem tBytesRead_any (b : Nat) (rd : Int) (w : World) (hc : w.cell? ⟨b, 1, none⟩ = some (.int .i64 rd)) :
    Calls Tryz.prog 134 #[.pointer (some ⟨b, 0, none⟩)] w fun e w' => e = .returned (.int .i64 rd) /\ w' = w := by
  go_enter Tryz.func134, Tryz.ntmps134
  go_wp2_with fail
  go_ret
  exact ⟨rfl, rfl⟩
theorem tHighest_any (b : Nat) (hi : Int) (w : World) (hc : w.cell? ⟨b, 2, none⟩ = some (.int .i64 hi)) :
    Calls Tryz.prog 225 #[.pointer (some ⟨b, 0, none⟩)] w fun e w' => e = .returned (.int .i64 hi) /\ w' = w := by
  go_enter Tryz.func225, Tryz.ntmps225
  go_wp2_with fail
  go_ret
  exact ⟨rfl, rfl⟩
theorem tCredit_any (b : Nat) (cr ah : Int) (w : World) (hc : w.cell? ⟨b, 3, none⟩ = some (.int .i64 cr)) (hd : w.cell? ⟨b, 4, none⟩ = some (.int .i64 ah)) :
    Calls Tryz.prog 79 #[.pointer (some ⟨b, 0, none⟩)] w fun e w' => e = .returned (.int .i64 cr) /\ Below w.heap.size w w' := by
  have HX := hideIt (kBytes_any cr ah w)
  go_enter Tryz.func79, Tryz.ntmps79
  go_wp2_with fail
  refine HX.out.mono ?_
  rintro e w1 ⟨rfl, hb1⟩
  go_wp2_with fail
  go_ret
  exact ⟨rfl, hb1⟩
theorem tcheckFinal_any (ty id ofs : Int) (bv : Value) (en pf fi : Int) (w : World) :
    Calls Tryz.prog 224 #[pfrmV ty id ofs bv en pf, .int .i64 fi] w fun e w' => e = .returned (.int .i64 (finalN ty en fi)) /\ Below w.heap.size w w' := by
  have HX : Hid (∀ W, Calls Tryz.prog 230 #[.agg #[.int .i64 ty, .int .i64 id, .int .i64 ofs, bv, .int .i64 en, .int .i64 pf]] W fun e w' => e = .returned (.bool (tellsN ty)) /\ Below W.heap.size W w') := fun W => wTellsFinal_any ty id ofs bv en pf W
  unfold pfrmV finalN
  by_cases h1 : fi < en
  . rw [if_pos (Or.inl h1)]
    have hd : decide (fi < en) = true := by simpa using h1
    go_enter Tryz.func224, Tryz.ntmps224
    go_wp2_with fail
    go_ret
    exact ⟨rfl, below_alloc _ _⟩
  . have hd : decide (fi < en) = false := by simpa using h1
    have hcode : ∀ t : Bool, tellsN ty = t -> (if fi < en \/ (tellsN ty = true /\ en ≠ fi) then (6 : Int) else 0) = if (t && (en != fi)) = true then 6 else 0 := by
      intro t ht
      rw [ht]
      cases t <;> simp [h1, bne]
    replace hcode := hideIt hcode
    have HC : Hid (∀ W : World, Below (w.alloc (.cells #[.int .i64 ty, .int .i64 id, .int .i64 ofs, bv, .int .i64 en, .int .i64 pf] 286)).heap.size (w.alloc (.cells #[.int .i64 ty, .int .i64 id, .int .i64 ofs, bv, .int .i64 en, .int .i64 pf] 286)) W -> W.cell? ⟨w.heap.size, 4, none⟩ = some (.int .i64 en) /\ Below w.heap.size w W) := by
      intro W hW
      refine ⟨cell_below ?_ hW, below_join (below_alloc _ _) hW⟩
      simp only [World.cell?, heap_alloc_new]
      rfl
    cases ht : tellsN ty with
    | false =>
      have hc := hideIt (hcode.out _ ht)
      rw [ht] at HX hc
      rw [hc.out]
      go_enter Tryz.func224, Tryz.ntmps224
      go_wp2_with fail
      refine (HX.out _).mono ?_
      rintro e w1 ⟨rfl, hb1⟩
      obtain ⟨c4, hbw⟩ := HC.out w1 hb1
      clear hb1 HC HX hc hcode
      go_wp2_with fail
      go_ret
      exact ⟨rfl, hbw⟩
    | true =>
      have hc := hideIt (hcode.out _ ht)
      rw [ht] at HX hc
      rw [hc.out]
      by_cases hn : en = fi
      . subst hn
        rw [if_neg (by simp)]
        have hne : (en != en) = false := by simp
        go_enter Tryz.func224, Tryz.ntmps224
        go_wp2_with fail
        refine (HX.out _).mono ?_
        rintro e w1 ⟨rfl, hb1⟩
        obtain ⟨c4, hbw⟩ := HC.out w1 hb1
        clear hb1 HC HX hc hcode
        go_wp2_with fail
        go_ret
        exact ⟨rfl, hbw⟩
      . have hne : (en != fi) = true := by simpa using hn
        have hne2 : (en == fi) = false := by simpa using hn
        rw [hne, if_pos (by decide)]
        go_enter Tryz.func224, Tryz.ntmps224
        go_wp2_with fail
        refine (HX.out _).mono ?_
        rintro e w1 ⟨rfl, hb1⟩
        obtain ⟨c4, hbw⟩ := HC.out w1 hb1
        clear hb1 HC HX hc hcode
        go_wp2_with fail
        go_ret
        exact ⟨rfl, hbw⟩
end Go.Proofs.YthmdjhlhodpbhaaGreatDoor
