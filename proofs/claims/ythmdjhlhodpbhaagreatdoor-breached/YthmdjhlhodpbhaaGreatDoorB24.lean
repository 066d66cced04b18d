/- Breached, part 24 -/
import Derived.Test.YthmdjhlhodpbhaaGreatDoorB10
import Derived.Test.YthmdjhlhodpbhaaGreatDoorB11
import Derived.Test.YthmdjhlhodpbhaaGreatDoorB23
namespace Go.Proofs.YthmdjhlhodpbhaaGreatDoor
def keepC (raw : Cfg) : Cfg := { cfgN raw with c8 := 100000 }
theorem keepC_ok (raw : Cfg) : CfgOk (keepC raw) := by
  have r0 := pickN_range raw.c0 (n := 8) (by decide)
  have r1 := pickN_range raw.c1 (n := 60) (by decide)
  have r2 := pickN_range raw.c2 (n := 8 + pickN raw.c1 60 - 8 + 1) (by omega)
  have r3 := pickN_range raw.c3 (n := 8) (by decide)
  have r4 := pickN_range raw.c4 (n := 8) (by decide)
  have r5 := pickN_range raw.c5 (n := 9) (by decide)
  have r6 := pickN_range raw.c6 (n := 1000) (by decide)
  have r7 := pickN_range raw.c7 (n := 1000) (by decide)
  have r9 := pickN_range raw.c9 (n := 4294967296) (by decide)
  unfold keepC cfgN
  refine ⟨?_, ?_, ?_, ?_, ?_, ?_, ?_, ?_, ?_, ?_⟩ <;> simp only <;> omega
theorem keepC_right (raw : Cfg) : (keepC raw).right = true := by
  have h := keepC_ok raw
  have h0 := h.c0
  have h1 := h.c1
  have h2 := h.c2
  have h3 := h.c3
  have h4 := h.c4
  have h5 := h.c5
  have h6 := h.c6
  have h7 := h.c7
  have h8 := h.c8
  have h9 := h.c9
  unfold Cfg.right rightB rightA rightC betw
  simp only [Bool.and_eq_true, decide_eq_true_eq]
  refine ⟨⟨?_, ?_, ?_, ?_⟩, ⟨?_, ?_, ?_, ?_⟩, ?_, ?_⟩ <;> omega
def conA (g : Cfg) (got sent : Int) (runs : List (Int × Int)) (l : List StrS) : ConS := ⟨300, 1, true, got, sent, 0, 0, runs, g.c1, l, 1⟩
def srvA (g : Cfg) (c : ConS) : SrvS := ⟨g, 0, [c], 1⟩
theorem tok_time (k : Int) : timeL (tokenL k 1 0) = 0 := by simp [timeL, tokenL, frontL, fourL]
theorem tok_len (k a t : Int) : (tokenL k a t).length = 9 := by simp [tokenL, frontL, fourL]
theorem hello300 {g : Cfg} (hg : CfgOk g) (h8 : g.c8 = 100000) : ∃ n sent B, receiveS (srvNew g) 1 (helloL 300 (tokenL g.c9 1 0) []) = (srvA g (conA g n sent [] (List.replicate g.c3.toNat (strNew g.c2))), [(1, B)]) := by
  have h0 := hg.c0
  have h1 := hg.c1
  have h3 := hg.c3
  obtain ⟨m, hm⟩ : ∃ m : Nat, (helloL 300 (tokenL g.c9 1 0) []).length = m + 1 := ⟨(helloL 300 (tokenL g.c9 1 0) []).length - 1, by simp [helloL]⟩
  have hgood : goodS g 0 1 (tokenL g.c9 1 0) = true := by
    unfold goodS
    rw [tok_time, tok_len]
    simp
  have hfull : fullS (srvNew g) = false := by
    have q1 : ¬ (srvNew g).c.c0 <= ((srvNew g).conns.length : Int) := by simp [srvNew]; omega
    have q2 : ¬ (srvNew g).c.c8 < memS (srvNew g) + costS (srvNew g).c := by simp [srvNew, memS, costS]; omega
    unfold fullS
    rw [decide_eq_false q1, decide_eq_false q2]
    rfl
  refine ⟨((m + 1 : Nat) : Int), ((newsL 300 (welcomeL g (openC ⟨g, 0, [], 0⟩ 300 1 ((m + 1 : Nat) : Int) true))).length : Int), newsL 300 (welcomeL g (openC ⟨g, 0, [], 0⟩ 300 1 ((m + 1 : Nat) : Int) true)), ?_⟩
  rw [show srvNew g = ⟨g, 0, [], 0⟩ from rfl]
  unfold receiveS
  rw [if_neg (by decide), dgram_hello (by decide) (by rw [tok_len]; decide)]
  simp only [if_true, hm]
  unfold helloS
  simp only [findI, List.findIdx?_nil]
  rw [if_pos (by rw [tok_len]; decide), if_pos hgood, if_neg (by rw [show fullS ⟨g, 0, [], 0⟩ = false from hfull]; decide)]
  unfold openP framesS
  simp only [if_true]
  have hn : ∀ f, newsC (openC ⟨g, 0, [], 0⟩ 300 1 ((m + 1 : Nat) : Int) true) f = { openC ⟨g, 0, [], 0⟩ 300 1 ((m + 1 : Nat) : Int) true with sent := (newsL 300 f).length } := by
    intro f
    unfold newsC
    rw [if_pos (by simp [newsMay, openC, conNew])]
    simp [openC, conNew]
  rw [hn]
  unfold newsO
  rw [if_pos (by simp [newsMay, openC, conNew])]
  simp [provS, provC, openC, conNew, growS, srvA, conA]
theorem conFrames_step {g : Cfg} {lw : Int} {c : ConS} {f : FrmS} {size : Nat} {b : List Int} {m : Nat} (hb : b ≠ []) (hf : frameS b = some (f, size)) (h6 : f.type ≠ 6) : conFrames g lw c b (m + 1) = if (conStep g lw c f).1 ≠ 0 then ⟨c, some (conStep g lw c f).1, true⟩ else conFrames g lw (conStep g lw c f).2 (b.drop size) m := by
  conv => lhs; unfold conFrames
  rw [if_neg hb, hf]
  simp only
  rw [if_neg h6]
theorem conFrames_none {g : Cfg} {lw : Int} {c : ConS} {b : List Int} {m : Nat} (hb : b ≠ []) (hf : frameS b = none) : conFrames g lw c b (m + 1) = ⟨c, some 7, true⟩ := by
  unfold conFrames
  rw [if_neg hb, hf]
theorem conStep_bytes {g : Cfg} {lw : Int} {c : ConS} {f : FrmS} (h : f.type = 3 \/ f.type = 4) : conStep g lw c f = conDeal g.c4 f c := by
  unfold conStep
  rw [if_neg (by omega), if_neg (by omega)]
theorem recvTo_fresh (b : List Int) : ∀ k, k <= b.length -> recvTo [] 0 b k = some (b.take k)
  | 0, _ => by simp [recvTo]
  | k + 1, hk => by
    have ih := recvTo_fresh b k (by omega)
    have hl : (b.take k).length = k := by simp; omega
    have hg : grownTo (b.take k) k = b.take k ++ [-1] := by
      unfold grownTo
      rw [hl, show k + 1 - k = 1 by omega]
      rfl
    have hd : (b.take k ++ [-1]).getD k (-1) = -1 := by simp [List.getD, hl]
    rw [recvTo, ih]
    simp only [Option.bind_some]
    rw [if_neg (by omega), show (0 + (k : Int)).toNat = k by omega]
    unfold writeS
    rw [hg, hd]
    simp only [show decide ((0 : Int) <= -1) = false from rfl, Bool.false_and, Bool.false_eq_true, if_false, Option.some.injEq]
    rw [List.take_succ_eq_append_getElem (by omega), List.set_append_right _ _ (by omega), hl]
    simp [List.getD, List.getElem?_eq_getElem (show k < b.length by omega)]
theorem leadS_all {b : List Int} (h : ∀ x ∈ b, 0 <= x) : leadS b = b.length := by
  unfold leadS
  induction b with
  | nil => rfl
  | cons a t ih =>
    have h0 := h a (List.mem_cons_self ..)
    rw [List.takeWhile_cons, if_pos (by simpa using h0), List.length_cons, ih fun x hx => h x (List.mem_cons_of_mem _ hx), List.length_cons]
theorem runsTo_one {b : List Int} (h : ∀ x ∈ b, 0 <= x) : runsTo b b.length <= 1 := by
  rw [<- runsOf_length b 0]
  have hl := leadS_all h
  rcases Nat.eq_zero_or_pos b.length with h0 | h0
  · obtain rfl := List.eq_nil_of_length_eq_zero h0
    simp [runsOf]
  · rw [runsOf_lead b 0 (by omega), hl]
    simp [runsOf]
theorem deal_first {gaps piece credit : Int} {k : Int} {bs : List Int} (hk : k = 3 \/ k = 4) (hb : ∀ x ∈ bs, 0 <= x) (hg : 1 <= gaps) (hp : (bs.length : Int) <= piece) (hc : (bs.length : Int) <= credit) (id : Int) :
    strDeal gaps credit 0 ⟨k, id, 0, 0, bs⟩ (strNew piece) = (0, ⟨bs, 0, bs.length, piece, if k = 3 then -1 else bs.length, false, false⟩) := by
  have hr : recvS gaps (strNew piece) 0 bs = (0, { strNew piece with bytes := bs }) := by
    unfold recvS
    have h1 := recvTo_fresh bs bs.length (Nat.le_refl _)
    rw [List.take_length] at h1
    simp only [strNew, Int.sub_zero, h1]
    rw [if_neg (by have := runsTo_one hb; omega)]
  have hm : moreS (strNew piece) ((0 : Int) + bs.length) = bs.length := by
    unfold moreS strNew
    simp only
    split <;> omega
  have hbad : badF (strNew piece) ((0 : Int) + bs.length) (decide (k ≠ 3)) = false := by
    unfold badF strNew
    simp
  have hov : overS (strNew piece) ((0 : Int) + bs.length) credit 0 = false := by
    unfold overS
    rw [hm, decide_eq_false (by simp only [strNew]; omega), decide_eq_false (by omega)]
    rfl
  unfold strDeal
  simp only [hbad, hov]
  rw [if_neg (by decide), if_neg (by simp [strNew]), if_neg (by decide), if_pos ⟨by omega, rfl⟩, hr]
  simp only [ne_eq, not_true_eq_false, if_false]
  unfold passS
  simp only
  rw [if_neg (fun h => by omega), hm]
  rcases hk with rfl | rfl
  · simp [strNew]
  · simp [strNew]
theorem letters_nonneg (st fr : Int) (n : Nat) : ∀ x ∈ lettersL st fr n, 0 <= x := by
  intro x hx
  obtain ⟨i, _, rfl⟩ := List.mem_map.1 hx
  exact letterN_byte.1
theorem frame_piece {k st fr tt : Int} {r : List Int} (hk : k = 3 \/ k = 4) (hs : 0 <= st /\ st <= 1073741823) (hf : 0 <= fr /\ fr <= tt) (ht : tt <= 1000000) :
    frameS (pieceL k st fr tt ++ r) = some (⟨k, st, fr, 0, lettersL st fr (tt - fr).toNat⟩, (pieceL k st fr tt).length) /\ pieceL k st fr tt ++ r ≠ [] := by
  have hl := lettersL_len st fr (tt - fr).toNat
  have e : ((lettersL st fr (tt - fr).toNat).length : Int) = tt - fr := by rw [hl]; omega
  have h := frame_bytes (k := k) (id := st) (ofs := fr) (bs := lettersL st fr (tt - fr).toNat) (r := r) hk hs (by omega) (by rw [hl]; omega)
  rw [e] at h
  exact ⟨h, by simp [pieceL]⟩
theorem highS_news (piece : Int) (n : Nat) (y : StrS) (hn : 0 < n) : highS ((List.replicate n (strNew piece)).set 0 y) = y.highest := by
  rw [highS_set (x := strNew piece) (by rw [List.getElem?_replicate]; simp [hn]), highS_new]
  simp [strNew]
def conB (g : Cfg) (got sent : Int) (y : StrS) : ConS := conA g got sent [(0, 0)] ((List.replicate g.c3.toNat (strNew g.c2)).set 0 y)
theorem piece_first {g : Cfg} (hg : CfgOk g) {lw got sent k tt : Int} {r : List Int} {m : Nat} (hk : k = 3 \/ k = 4) (ht : 0 <= tt /\ tt <= g.c2) :
    conFrames g lw (conA g got sent [(0, 0)] (List.replicate g.c3.toNat (strNew g.c2))) (pieceL k 0 0 tt ++ r) (m + 1) = conFrames g lw (conB g got sent ⟨lettersL 0 0 tt.toNat, 0, tt, g.c2, if k = 3 then -1 else tt, false, false⟩) r m := by
  have h1 := hg.c1
  have h2 := hg.c2
  have h3 := hg.c3
  have h4 := hg.c4
  obtain ⟨hf, hne⟩ := frame_piece (k := k) (st := 0) (fr := 0) (tt := tt) (r := r) hk (by decide) ⟨by omega, by omega⟩ (by omega)
  rw [Int.sub_zero] at hf
  have hl := lettersL_len 0 0 tt.toNat
  have hx : (List.replicate g.c3.toNat (strNew g.c2))[(0 : Int).toNat]? = some (strNew g.c2) := by
    rw [List.getElem?_replicate]
    simp
    omega
  have hd := deal_first (gaps := g.c4) (piece := g.c2) (credit := g.c1) (bs := lettersL 0 0 tt.toNat) hk (letters_nonneg 0 0 tt.toNat) (by omega) (by rw [hl]; omega) (by rw [hl]; omega) 0
  rw [hl, show ((tt.toNat : Nat) : Int) = tt by omega] at hd
  have hs : conStep g lw (conA g got sent [(0, 0)] (List.replicate g.c3.toNat (strNew g.c2))) ⟨k, 0, 0, 0, lettersL 0 0 tt.toNat⟩ = (0, conB g got sent ⟨lettersL 0 0 tt.toNat, 0, tt, g.c2, if k = 3 then -1 else tt, false, false⟩) := by
    rw [conStep_bytes (by exact hk), conDeal_some (x := strNew g.c2) hx]
    simp only [conA, highS_new, hd]
    rfl
  rw [conFrames_step hne hf (by simp only; omega), hs]
  simp only [ne_eq, not_true_eq_false, if_false]
  rw [List.drop_left]
theorem piece_over {g : Cfg} (hg : CfgOk g) {lw got sent : Int} {r : List Int} {m : Nat} :
    conFrames g lw (conA g got sent [(0, 0)] (List.replicate g.c3.toNat (strNew g.c2))) (pieceL 3 0 g.c2 (g.c2 + 1) ++ r) (m + 1) = ⟨conA g got sent [(0, 0)] (List.replicate g.c3.toNat (strNew g.c2)), some 3, true⟩ := by
  have h1 := hg.c1
  have h2 := hg.c2
  have h3 := hg.c3
  obtain ⟨hf, hne⟩ := frame_piece (k := 3) (st := 0) (fr := g.c2) (tt := g.c2 + 1) (r := r) (Or.inl rfl) (by decide) ⟨by omega, by omega⟩ (by omega)
  have hl := lettersL_len 0 g.c2 (g.c2 + 1 - g.c2).toNat
  have hx : (List.replicate g.c3.toNat (strNew g.c2))[(0 : Int).toNat]? = some (strNew g.c2) := by
    rw [List.getElem?_replicate]
    simp
    omega
  have hs : (conStep g lw (conA g got sent [(0, 0)] (List.replicate g.c3.toNat (strNew g.c2))) ⟨3, 0, g.c2, 0, lettersL 0 g.c2 (g.c2 + 1 - g.c2).toNat⟩).1 = 3 := by
    rw [conStep_bytes (by exact Or.inl rfl), conDeal_some (x := strNew g.c2) hx]
    simp only [conA, highS_new]
    unfold strDeal
    simp only [hl]
    rw [if_neg (by simp [badF, strNew]), if_neg (by simp [strNew]), if_pos]
    unfold overS
    rw [decide_eq_true (by simp only [strNew]; omega)]
    rfl
  rw [conFrames_step hne hf (show (3 : Int) ≠ 6 by decide), hs]
  rfl
theorem piece_stream {g : Cfg} (hg : CfgOk g) {lw got sent : Int} {r : List Int} {m : Nat} :
    conFrames g lw (conA g got sent [(0, 0)] (List.replicate g.c3.toNat (strNew g.c2))) (pieceL 3 g.c3 0 0 ++ r) (m + 1) = ⟨conA g got sent [(0, 0)] (List.replicate g.c3.toNat (strNew g.c2)), some 4, true⟩ := by
  have h3 := hg.c3
  obtain ⟨hf, hne⟩ := frame_piece (k := 3) (st := g.c3) (fr := 0) (tt := 0) (r := r) (Or.inl rfl) (by omega) ⟨by omega, by omega⟩ (by omega)
  have hs : (conStep g lw (conA g got sent [(0, 0)] (List.replicate g.c3.toNat (strNew g.c2))) ⟨3, g.c3, 0, 0, lettersL g.c3 0 ((0 : Int) - 0).toNat⟩).1 = 4 := by
    rw [conStep_bytes (by exact Or.inl rfl), conDeal_none]
    simp [conA]
  rw [conFrames_step hne hf (show (3 : Int) ≠ 6 by decide), hs]
  rfl
def strB (g : Cfg) (tt fin : Int) : StrS := ⟨lettersL 0 0 tt.toNat, 0, tt, g.c2, fin, false, false⟩
theorem conB_at {g : Cfg} (hg : CfgOk g) {got sent : Int} {y : StrS} : (conB g got sent y).streams[(0 : Int).toNat]? = some y /\ highS (conB g got sent y).streams = y.highest := by
  have h3 := hg.c3
  refine ⟨?_, highS_news _ _ _ (by omega)⟩
  show ((List.replicate g.c3.toNat (strNew g.c2)).set 0 y)[0]? = some y
  rw [List.getElem?_set_self (by simp; omega)]
theorem piece_empty {g : Cfg} (hg : CfgOk g) {lw got sent n : Int} {r : List Int} {m : Nat} (hn : 0 <= n /\ n < g.c2) :
    conFrames g lw (conB g got sent (strB g (n + 1) (-1))) (pieceL 3 0 n n ++ r) (m + 1) = conFrames g lw (conB g got sent (strB g (n + 1) (-1))) r m := by
  have h1 := hg.c1
  have h2 := hg.c2
  have h4 := hg.c4
  obtain ⟨hf, hne⟩ := frame_piece (k := 3) (st := 0) (fr := n) (tt := n) (r := r) (Or.inl rfl) (by decide) ⟨by omega, by omega⟩ (by omega)
  obtain ⟨hx, hh⟩ := conB_at hg (got := got) (sent := sent) (y := strB g (n + 1) (-1))
  have hr := runsTo_one (letters_nonneg 0 0 (n + 1).toNat)
  have hs : conStep g lw (conB g got sent (strB g (n + 1) (-1))) ⟨3, 0, n, 0, lettersL 0 n (n - n).toNat⟩ = (0, conB g got sent (strB g (n + 1) (-1))) := by
    rw [Int.sub_self, conStep_bytes (by exact Or.inl rfl), conDeal_some hx, hh]
    have hd : strDeal g.c4 (conB g got sent (strB g (n + 1) (-1))).credit (strB g (n + 1) (-1)).highest ⟨3, 0, n, 0, lettersL 0 n (0 : Int).toNat⟩ (strB g (n + 1) (-1)) = (0, strB g (n + 1) (-1)) := by
      unfold strDeal
      simp only [lettersL_len]
      have hm : moreS (strB g (n + 1) (-1)) (n + ((0 : Int).toNat : Nat)) = 0 := by
        unfold moreS strB
        simp
        omega
      rw [if_neg (by simp [badF, strB]), if_neg (by simp [strB]), if_neg, if_pos ⟨by decide, rfl⟩]
      · have hrv : recvS g.c4 (strB g (n + 1) (-1)) n (lettersL 0 n (0 : Int).toNat) = (0, strB g (n + 1) (-1)) := by
          unfold recvS
          simp only [lettersL, strB, Int.toNat_zero, List.range_zero, List.map_nil, List.length_nil, recvTo]
          rw [if_neg (by simp only [lettersL] at hr; omega)]
        rw [hrv]
        simp only [ne_eq, not_true_eq_false, if_false]
        unfold passS
        simp only [lettersL_len]
        rw [hm]
        simp [strB]
      · unfold overS
        rw [hm, decide_eq_false (by simp only [strB]; omega), decide_eq_false (by simp only [conB, conA, strB]; omega)]
        decide
    rw [hd]
    simp only
    rw [set_self hx]
  rw [conFrames_step hne hf (show (3 : Int) ≠ 6 by decide), hs]
  simp only [ne_eq, not_true_eq_false, if_false]
  rw [List.drop_left]
theorem piece_other {g : Cfg} (hg : CfgOk g) {lw got sent n x' : Int} {m : Nat} (hn : 0 <= n /\ n < g.c2) (hx' : letterN 0 n ≠ x') :
    conFrames g lw (conB g got sent (strB g (n + 1) (-1))) ([3, 0] ++ putL n ++ [1, x']) (m + 1) = ⟨conB g got sent (strB g (n + 1) (-1)), some 9, true⟩ := by
  have h1 := hg.c1
  have h2 := hg.c2
  have hf := frame_bytes (k := 3) (id := 0) (ofs := n) (bs := [x']) (r := []) (Or.inl rfl) (by decide) (by omega) (by simp)
  have e : [3] ++ putL 0 ++ putL n ++ putL (([x'] : List Int).length : Int) ++ [x'] ++ [] = [3, 0] ++ putL n ++ [1, x'] := by simp [putL]
  rw [e] at hf
  obtain ⟨hx, hh⟩ := conB_at hg (got := got) (sent := sent) (y := strB g (n + 1) (-1))
  have hs : (conStep g lw (conB g got sent (strB g (n + 1) (-1))) ⟨3, 0, n, 0, [x']⟩).1 = 9 := by
    rw [conStep_bytes (by exact Or.inl rfl), conDeal_some hx, hh]
    simp only
    unfold strDeal
    simp only [List.length_singleton]
    have hm : moreS (strB g (n + 1) (-1)) (n + ((1 : Nat) : Int)) = 0 := by
      unfold moreS strB
      simp
    rw [if_neg (by simp [badF, strB]), if_neg (by simp [strB]), if_neg, if_pos ⟨by decide, rfl⟩]
    · have hl : (lettersL 0 0 (n + 1).toNat).length = (n + 1).toNat := lettersL_len _ _ _
      have hgd : (lettersL 0 0 (n + 1).toNat).getD n.toNat (-1) = letterN 0 n := by
        have hi : n.toNat < (lettersL 0 0 (n + 1).toNat).length := by omega
        simp only [List.getD, List.getElem?_eq_getElem hi, Option.getD_some]
        simp only [lettersL, List.getElem_map, List.getElem_range]
        rw [show (0 : Int) + (n.toNat : Int) = n by omega]
      have hrv : recvS g.c4 (strB g (n + 1) (-1)) n [x'] = (9, strB g (n + 1) (-1)) := by
        unfold recvS
        have hrt : recvTo (strB g (n + 1) (-1)).bytes (n - (strB g (n + 1) (-1)).read) [x'] [x'].length = none := by
          show recvTo (lettersL 0 0 (n + 1).toNat) (n - 0) [x'] 1 = none
          rw [recvTo, recvTo]
          simp only [Option.bind_some]
          rw [if_neg (by omega), show (n - 0 + ((0 : Nat) : Int)).toNat = n.toNat by omega]
          unfold writeS
          have hgr : grownTo (lettersL 0 0 (n + 1).toNat) n.toNat = lettersL 0 0 (n + 1).toNat := by
            unfold grownTo
            rw [hl, show n.toNat + 1 - (n + 1).toNat = 0 by omega]
            simp
          rw [hgr, hgd, if_pos]
          have := (letterN_byte (st := 0) (p := n)).1
          simp [this, hx']
        rw [hrt]
      rw [hrv]
      simp
    · unfold overS
      rw [hm, decide_eq_false (by simp only [strB]; omega), decide_eq_false (by simp only [conB, conA, strB]; omega)]
      decide
  rw [conFrames_step (by simp) hf (show (3 : Int) ≠ 6 by decide), hs]
  rfl
theorem piece_behind {g : Cfg} (hg : CfgOk g) {lw got sent n : Int} {r : List Int} {m : Nat} (hn : 0 <= n /\ n < g.c2) :
    conFrames g lw (conB g got sent (strB g n n)) (pieceL 3 0 n (n + 1) ++ r) (m + 1) = ⟨conB g got sent (strB g n n), some 6, true⟩ := by
  have h1 := hg.c1
  have h2 := hg.c2
  obtain ⟨hf, hne⟩ := frame_piece (k := 3) (st := 0) (fr := n) (tt := n + 1) (r := r) (Or.inl rfl) (by decide) ⟨by omega, by omega⟩ (by omega)
  obtain ⟨hx, hh⟩ := conB_at hg (got := got) (sent := sent) (y := strB g n n)
  have hl := lettersL_len 0 n (n + 1 - n).toNat
  have hs : (conStep g lw (conB g got sent (strB g n n)) ⟨3, 0, n, 0, lettersL 0 n (n + 1 - n).toNat⟩).1 = 6 := by
    rw [conStep_bytes (by exact Or.inl rfl), conDeal_some hx, hh]
    simp only
    unfold strDeal
    simp only [hl]
    rw [if_pos]
    unfold badF
    rw [decide_eq_true (show 0 <= (strB g n n).final by simp only [strB]; omega), decide_eq_true (show (strB g n n).final < n + (((n + 1 - n).toNat : Nat) : Int) by simp only [strB]; omega)]
    rfl
  rw [conFrames_step hne hf (show (3 : Int) ≠ 6 by decide), hs]
  rfl
def breachF (g : Cfg) (q n x' : Int) : List Int × Int :=
  if q = 0 then (pieceL 3 0 g.c2 (g.c2 + 1), 3) else if q = 1 then (pieceL 3 g.c3 0 0, 4)
  else if q = 2 then ((pieceL 3 0 0 (n + 1) ++ pieceL 3 0 n n) ++ [3, 0] ++ putL n ++ [1, x'], 9)
  else if q = 3 then (pieceL 4 0 0 n ++ pieceL 3 0 n (n + 1), 6) else (pieceL 3 0 0 n ++ [200], 7)
theorem breach_con {g : Cfg} (hg : CfgOk g) {lw got sent q n x' : Int} {m : Nat} (hn : 0 <= n /\ n < g.c2) (hx' : letterN 0 n ≠ x') :
    ∃ cX, conFrames g lw (conA g got sent [(0, 0)] (List.replicate g.c3.toNat (strNew g.c2))) (breachF g q n x').1 (m + 3) = ⟨cX, some (breachF g q n x').2, true⟩ /\ cX.cid = 300 /\ cX.addr = 1 /\ cX.proven = true := by
  have h2 := hg.c2
  unfold breachF
  split
  · have h := piece_over hg (lw := lw) (got := got) (sent := sent) (r := []) (m := m + 2)
    rw [List.append_nil] at h
    exact ⟨_, h, rfl, rfl, rfl⟩
  · split
    · have h := piece_stream hg (lw := lw) (got := got) (sent := sent) (r := []) (m := m + 2)
      rw [List.append_nil] at h
      exact ⟨_, h, rfl, rfl, rfl⟩
    · split
      · have e : (pieceL 3 0 0 (n + 1) ++ pieceL 3 0 n n) ++ [3, 0] ++ putL n ++ [1, x'] = pieceL 3 0 0 (n + 1) ++ (pieceL 3 0 n n ++ ([3, 0] ++ putL n ++ [1, x'])) := by simp
        simp only [e]
        rw [piece_first hg (Or.inl rfl) (by omega)]
        simp only [if_true]
        have h := piece_empty hg (lw := lw) (got := got) (sent := sent) (r := [3, 0] ++ putL n ++ [1, x']) (m := m + 1) hn
        have h9 := piece_other hg (lw := lw) (got := got) (sent := sent) (m := m) hn hx'
        exact ⟨_, h.trans h9, rfl, rfl, rfl⟩
      · split
        · simp only
          rw [piece_first hg (Or.inr rfl) (by omega)]
          have h := piece_behind hg (lw := lw) (got := got) (sent := sent) (r := []) (m := m + 1) hn
          rw [List.append_nil] at h
          rw [if_neg (by decide)]
          exact ⟨_, h, rfl, rfl, rfl⟩
        · simp only
          rw [piece_first hg (Or.inl rfl) (by omega), conFrames_none (by simp) (by rfl)]
          exact ⟨_, rfl, rfl, rfl, rfl⟩
end Go.Proofs.YthmdjhlhodpbhaaGreatDoor
namespace Go.Proofs.YthmdjhlhodpbhaaGreatDoor
open Go.RowKit
theorem ConAt.reblk {N : Nat} {w w' : World} {cb : Nat} {g : Cfg} {c c' : ConS} {a : ConX} (h : ConAt N w cb g c a) (hc : Chg (· = cb) w w') (hb : ConBlk w' cb g c' a.plv a.sm a.dm (pastS c.streams)) (hs : c'.streams = c.streams) (hr : c'.runs = c.runs) : ConAt N w' cb g c' a := by
  have hne : ∀ k cur e fr, w.heap[k]? = some (.cells cur e fr) -> e ≠ 137 -> ¬ k = cb := by
    intro k cur e fr hk h1 e1
    have h2 := h.blk
    unfold ConBlk at h2
    rw [<- e1, hk] at h2
    simp only [Option.some.injEq, Obj.cells.injEq] at h2
    exact h1 h2.2.1
  have hnm : ∀ k es ck, w.heap[k]? = some (.map es ck) -> ¬ k = cb := by
    intro k es ck hk e1
    have h2 := h.blk
    unfold ConBlk at h2
    rw [<- e1, hk] at h2
    cases h2
  obtain ⟨n1, hn1, hm1⟩ := h.smap
  obtain ⟨n2, hn2, hm2⟩ := h.dmap
  obtain ⟨es1, ck1, hb1⟩ := hm1.is_map
  obtain ⟨es2, ck2, hb2⟩ := hm2.is_map
  obtain ⟨vs, hvs⟩ := h.pk
  refine ⟨by rw [hs]; exact hb, ⟨vs, own_chg hvs.own hc (fun k hk e => ?_), by rw [hr]; exact hvs.sh⟩, ⟨n1, hn1, hm1.same (hc.block _ hm1.lt (hnm _ _ _ hb1))⟩, ⟨n2, hn2, hm2.same (hc.block _ hm2.lt (hnm _ _ _ hb2))⟩, by rw [hs]; exact h.mp, fun p hp x hx => ?_, fun id => by rw [hs]; exact h.don id, h.ne, h.apart, fun k hk => Nat.lt_of_lt_of_le (h.ul k hk) hc.size⟩
  · obtain ⟨c1, e1⟩ := own_blockN hvs.own hk
    exact hne _ _ _ _ e1 (by decide) e
  · rw [hs] at hx
    have hsx := h.str p hp x hx
    obtain ⟨vs1, ho1⟩ := hsx.own
    refine hsx.chg hc (hne _ _ _ _ hsx.blk (by decide)) (fun k hk e => ?_) (fun k cur fr hk => hne k cur _ fr hk (by decide))
    obtain ⟨c1, e1⟩ := own_blockN ho1 hk
    exact hne _ _ _ _ e1 (by decide) e
structure OneC (N : Nat) (w : World) (cb : Nat) (g : Cfg) (c : ConS) (a : ConX) (r : Int × ConS) (e : Ending) (w' : World) : Prop where
  ret : e = .returned (.int .i64 r.1)
  chg : Chg (ConF cb a) w w'
  blk : r.1 ≠ 0 -> ConBlk w' cb g c a.plv a.sm a.dm (pastS c.streams)
  con : r.1 = 0 -> ∃ a', ConAt (N + 1) w' cb g r.2 a' /\ (∀ k, ConF cb a' k -> ConF cb a k \/ w.heap.size <= k) /\ UIn w.heap.size a a'
theorem OneC.pre {N : Nat} {w W : World} {cb : Nat} {g : Cfg} {c : ConS} {a : ConX} {r : Int × ConS} {e : Ending} {w' : World} (hW : Below w.heap.size w W) (h : OneC N W cb g c a r e w') : OneC N w cb g c a r e w' where
  ret := h.ret
  chg := (Chg.of_below hW).trans h.chg
  blk := h.blk
  con := fun h0 => by
    obtain ⟨a', h1, h2, h4⟩ := h.con h0
    exact ⟨a', h1, fun k hk => (h2 k hk).elim Or.inl (fun h3 => Or.inr (Nat.le_trans hW.size h3)), fun k hk => (h4 k hk).elim Or.inl (fun h3 => Or.inr (Nat.le_trans hW.size h3))⟩
set_option maxHeartbeats 4000000 in
set_option maxRecDepth 8000 in
theorem cdealOne_any (N cb : Nat) (g : Cfg) (c : ConS) (a : ConX) (f : FrmS) (lw : Int) (bv : Value) (w : World) (h : ConAt N w cb g c a) (hi : ConInv g c) (hg : CfgOk g) {M : Int} (hok : ConOk M c) (hN : N < 1125899906842624) (hfo : FrmOk f) (h6 : f.type ≠ 6) (h5 : f.type = 5 -> f.bytes = []) (hl : f.bytes.length <= 1073741823) (hbv : RdB w bv (frmP f).bytes) :
    Calls Tryz.prog 182 #[.pointer (some ⟨cb, 0, none⟩), .agg (frmC (frmP f) bv)] w fun e w' => OneC N w cb g c a (conStep g lw c f) e w' := by
  by_cases h01 : f.type = 0 \/ f.type = 1
  · have hcs : conStep g lw c f = (0, c) := by unfold conStep; rw [if_pos h01]
    have hp : frmP f = ⟨f.type, 0, 0, [], 0, 0⟩ := by unfold frmP; rw [if_neg (by omega), if_neg (by omega), if_neg (by omega), if_neg (by omega)]
    rw [hcs, hp]
    rw [hp] at hbv
    obtain ⟨_, _, ba, bc, rfl, _⟩ := id hbv
    have HE : Hid (∀ W : World, Below w.heap.size w W -> OneC N w cb g c a (0, c) (.returned (.int .i64 0)) W) := fun W hW => ⟨rfl, Chg.of_below hW, fun h => absurd rfl h, fun _ => ⟨a, (h.below hW).mono (Nat.le_succ _), fun k hk => Or.inl hk, fun k hk => Or.inl hk⟩⟩
    clear h hi hg hok hfo hbv hcs hp
    have b7 : (f.type == 7) = false := beq_eq_false_iff_ne.2 (by omega)
    have b3 : (f.type == 3) = false := beq_eq_false_iff_ne.2 (by omega)
    have b4 : (f.type == 4) = false := beq_eq_false_iff_ne.2 (by omega)
    have b5 : (f.type == 5) = false := beq_eq_false_iff_ne.2 (by omega)
    clear h01 h6
    unfold frmC
    go_enter Tryz.func182, Tryz.ntmps182
    go_wp2_with fail
    go_ret
    exact HE.out _ (below_alloc _ _)
  · by_cases h7 : f.type = 7
    · have hp : frmP f = ⟨7, 0, 0, [], 0, f.code⟩ := by unfold frmP; rw [if_pos h7]
      have hcs : conStep g lw c f = if f.code ≠ proofN g.c9 c.addr c.cid then (10, c) else if c.proven then (0, c) else (0, { c with proven := true, waits := lw }) := by unfold conStep; rw [if_neg h01, if_pos h7]
      rw [hp]
      rw [hp] at hbv
      obtain ⟨_, _, ba, bc, rfl, _⟩ := id hbv
      have hba : Below w.heap.size w (w.alloc (.cells #[.int .i64 7, .int .i64 0, .int .i64 0, .slice ba 0 bc, .int .i64 0, .int .i64 f.code] 286)) := below_alloc w _
      have HP := hideIt (cprove_any cb g c a.plv a.sm a.dm (pastS c.streams) f.code _ (h.blk.below hba) hg.c9 hok.addr hok.cid)
      have HE : Hid (∀ (e : Ending) (W : World), ProveOut (w.alloc (.cells #[.int .i64 7, .int .i64 0, .int .i64 0, .slice ba 0 bc, .int .i64 0, .int .i64 f.code] 286)) cb g c a.plv a.sm a.dm (pastS c.streams) f.code (proofN g.c9 c.addr c.cid) e W -> OneC N w cb g c a (conStep g lw c f) e W) := by
        rw [hcs]
        rintro e W ⟨hc, ⟨hne, rfl, hb⟩ | ⟨heq, rfl, hb⟩⟩
        · rw [if_pos hne]
          exact ⟨rfl, (Chg.of_below hba).trans (hc.mono fun k _ e => Or.inl e), fun _ => hb, fun h0 => absurd (show (10 : Int) = 0 from h0) (by decide)⟩
        · rw [if_neg (fun hn => hn heq)]
          have hA := h.below hba
          have h1 : ∀ c2 : ConS, ConBlk W cb g c2 a.plv a.sm a.dm (pastS c.streams) -> c2.streams = c.streams -> c2.runs = c.runs -> OneC N w cb g c a (0, c2) (.returned (.int .i64 0)) W := by
            intro c2 hb2 hs2 hr2
            exact ⟨rfl, (Chg.of_below hba).trans (hc.mono fun k _ e => Or.inl e), fun h => absurd rfl h, fun _ => ⟨a, (hA.reblk hc hb2 hs2 hr2).mono (Nat.le_succ _), fun k hk => Or.inl hk, fun k hk => Or.inl hk⟩⟩
          cases hpr : c.proven with
          | true =>
            simp only [if_true]
            refine h1 c ?_ rfl rfl
            have : ({ c with proven := true } : ConS) = c := by cases c; simp only at hpr ⊢; rw [hpr]
            rw [this] at hb
            exact hb
          | false =>
            simp only [Bool.false_eq_true, if_false]
            exact h1 { c with proven := true, waits := lw } hb rfl rfl
      clear h hi hg hok hfo hbv hcs hp
      generalize conStep g lw c f = R at HE ⊢
      clear h01 h6 h7
      unfold frmC
      go_enter Tryz.func182, Tryz.ntmps182
      go_wp2_with fail
      refine HP.out.mono ?_
      intro e w2 ho
      have HO := hideIt (HE.out e w2 ho)
      have hret := HO.out.ret
      subst hret
      clear ho HP HE
      go_wp2_with fail
      go_ret
      exact HO.out
    · have hty : f.type = 3 \/ f.type = 4 \/ f.type = 5 := by
        have := hfo.type
        omega
      have hp : frmP f = ⟨f.type, f.id, if f.type = 5 then 0 else f.ofs, f.bytes, f.ofs + f.bytes.length, 0⟩ := by
        unfold frmP
        rw [if_neg h7, if_neg h6]
        by_cases h5' : f.type = 5
        · rw [if_pos h5', h5', h5 h5']
          simp
        · rw [if_neg h5', if_pos (by omega), if_neg h5']
      have hcs : conStep g lw c f = conDeal g.c4 f c := by unfold conStep; rw [if_neg h01, if_neg h7]
      rw [hcs, hp]
      rw [hp] at hbv
      simp only at hbv
      obtain ⟨_, _, ba, bc, rfl, _⟩ := id hbv
      obtain ⟨po, hpo⟩ : ∃ po, (if f.type = 5 then 0 else f.ofs) = po := ⟨_, rfl⟩
      obtain ⟨en, hen⟩ : ∃ en, f.ofs + (f.bytes.length : Int) = en := ⟨_, rfl⟩
      have HT : Hid (∀ W : World, Below w.heap.size w W -> Calls Tryz.prog 205 #[.pointer (some ⟨cb, 0, none⟩), .agg #[.int .i64 f.type, .int .i64 f.id, .int .i64 po, .slice ba f.bytes.length bc, .int .i64 en, .int .i64 0]] W fun e w' => OneC N w cb g c a (conDeal g.c4 f c) e w') := by
        intro W hW
        have h9 := ctake_any N cb g c a f (.slice ba f.bytes.length bc) 0 W (h.below hW) hi hg hok hN hty h5 hfo hl (hbv.below hW)
        rw [hpo, hen] at h9
        refine h9.mono ?_
        intro e w' ho
        exact OneC.pre hW ⟨ho.ret, ho.chg, fun _ => ho.blk, ho.con⟩
      rw [hpo, hen]
      obtain ⟨bl, hbl⟩ : ∃ bl, f.bytes.length = bl := ⟨_, rfl⟩
      rw [hbl] at HT ⊢
      obtain ⟨R, hR⟩ : ∃ R, conDeal g.c4 f c = R := ⟨_, rfl⟩
      rw [hR] at HT ⊢
      have b7 : (f.type == 7) = false := beq_eq_false_iff_ne.2 h7
      have HTy := hideIt hty
      clear h hi hg hok hfo hbv hcs hp h01 h6 h7 h5 hR hbl hpo hen hl
      obtain ⟨t, ht⟩ : ∃ t, f.type = t := ⟨_, rfl⟩
      rw [ht] at HT HTy b7 hty
      unfold frmC
      simp only [ht]
      clear ht
      rcases hty with rfl | rfl | rfl
      all_goals
        go_enter Tryz.func182, Tryz.ntmps182
        go_wp2_with fail
        refine (HT.out _ (below_alloc _ _)).mono ?_
        intro e w2 ho
        have HO := hideIt ho
        have hret := ho.ret
        subst hret
        clear ho HT
        go_wp2_with fail
        go_ret
        exact HO.out
end Go.Proofs.YthmdjhlhodpbhaaGreatDoor
