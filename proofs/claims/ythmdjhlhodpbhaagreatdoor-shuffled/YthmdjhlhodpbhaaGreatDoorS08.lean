/- Shuffled, 8 -/
import Derived.Laws.BytesArg
import Derived.Test.YthmdjhlhodpbhaaGreatDoorS02
import Derived.Test.YthmdjhlhodpbhaaGreatDoorS03
import Derived.Test.YthmdjhlhodpbhaaGreatDoorS07
set_option maxHeartbeats 16000000
set_option maxRecDepth 8000
namespace Go.Proofs.YthmdjhlhodpbhaaGreatDoor
def waitK (l : List ConS) : List (Int × Int) := (l.filter fun c => decide (0 < c.waits)).map fun c => (c.waits, c.cid)
def WaitIs (l : List ConS) (cs : List Int) : Prop := ∃ ks : List (Int × Int), ks.Perm (waitK l) /\ ks.Pairwise (fun a b => a.1 < b.1) /\ cs = ks.map (·.2)
theorem waitK_append (a b : List ConS) : waitK (a ++ b) = waitK a ++ waitK b := by simp [waitK]
theorem waitK_cons (c : ConS) (l : List ConS) : waitK (c :: l) = waitK [c] ++ waitK l := by rw [<- waitK_append]; rfl
theorem waitK_one (c : ConS) : waitK [c] = if 0 < c.waits then [(c.waits, c.cid)] else [] := by
 unfold waitK
 by_cases h : 0 < c.waits <;> simp [h]
theorem split_at {α : Type} {l : List α} {i : Nat} {a : α} (h : l[i]? = some a) : l = l.take i ++ a :: l.drop (i + 1) := by
 obtain ⟨hi, rfl⟩ := List.getElem?_eq_some_iff.1 h
 rw [List.getElem_cons_drop, List.take_append_drop]
theorem set_split {α : Type} {l : List α} {i : Nat} {a b : α} (h : l[i]? = some a) : l.set i b = l.take i ++ b :: l.drop (i + 1) := by
 obtain ⟨hi, _⟩ := List.getElem?_eq_some_iff.1 h
 rw [List.set_eq_take_append_cons_drop, if_pos hi]
theorem erase_split {α : Type} {l : List α} {i : Nat} {a : α} (_h : l[i]? = some a) : l.eraseIdx i = l.take i ++ l.drop (i + 1) := List.eraseIdx_eq_take_drop_succ l i
theorem waitK_set {l : List ConS} {i : Nat} {c c' : ConS} (h : l[i]? = some c) (hw : c'.waits = c.waits) (hc : c'.cid = c.cid) : waitK (l.set i c') = waitK l := by
 conv => rhs; rw [split_at h]
 rw [set_split h, waitK_append, waitK_append, waitK_cons c', waitK_cons c, waitK_one, waitK_one, hw, hc]
theorem WaitIs.same {l l' : List ConS} {cs : List Int} (h : WaitIs l cs) (e : waitK l' = waitK l) : WaitIs l' cs := by
 obtain ⟨ks, h1, h2, h3⟩ := h
 exact ⟨ks, by rw [e]; exact h1, h2, h3⟩
theorem WaitIs.nil : WaitIs [] [] := ⟨[], by simp [waitK], List.Pairwise.nil, rfl⟩
theorem waitK_le {l : List ConS} {last : Int} (h : ∀ c ∈ l, c.waits <= last) : ∀ k ∈ waitK l, k.1 <= last := by
 intro k hk
 simp only [waitK, List.mem_map, List.mem_filter] at hk
 obtain ⟨c, ⟨hc, _⟩, rfl⟩ := hk
 exact h c hc
theorem WaitIs.more {l l' : List ConS} {cs : List Int} {lw cid : Int} (h : WaitIs l cs) (hp : (waitK l').Perm (waitK l ++ [(lw, cid)])) (hl : ∀ c ∈ l, c.waits < lw) : WaitIs l' (cs ++ [cid]) := by
 obtain ⟨ks, h1, h2, h3⟩ := h
 refine ⟨ks ++ [(lw, cid)], (List.Perm.append_right _ h1).trans hp.symm, ?_, by simp [h3]⟩
 rw [List.pairwise_append]
 refine ⟨h2, List.pairwise_singleton _ _, fun a ha b hb => ?_⟩
 rw [List.mem_singleton.1 hb]
 have hk := waitK_le (last := lw - 1) (fun c hc => by have := hl c hc; omega) a (h1.mem_iff.1 ha)
 simp only
 omega
theorem waitK_set_more {l : List ConS} {i : Nat} {c c' : ConS} {lw : Int} (h : l[i]? = some c) (h0 : c.waits <= 0) (hw : c'.waits = lw) (hl : 0 < lw) : (waitK (l.set i c')).Perm (waitK l ++ [(lw, c'.cid)]) := by
 have e2 : waitK l = waitK (l.take i) ++ waitK (l.drop (i + 1)) := by
  conv => lhs; rw [split_at h]
  rw [waitK_append, waitK_cons c, waitK_one, if_neg (by omega)]
  rfl
 rw [set_split h, waitK_append, waitK_cons c', waitK_one, hw, if_pos hl, e2, List.append_assoc]
 exact List.Perm.append_left _ (List.perm_append_comm)
theorem waitK_cid {l : List ConS} {k : Int × Int} (h : k ∈ waitK l) : ∃ c ∈ l, c.cid = k.2 /\ c.waits = k.1 /\ 0 < c.waits := by
 simp only [waitK, List.mem_map, List.mem_filter] at h
 obtain ⟨c, ⟨hc, h0⟩, rfl⟩ := h
 exact ⟨c, hc, rfl, rfl, by simpa using h0⟩
theorem WaitIs.filter {l l' : List ConS} {cs : List Int} (h : WaitIs l cs) (p : Int -> Bool) (e : waitK l' = (waitK l).filter fun k => p k.2) : WaitIs l' (cs.filter p) := by
 obtain ⟨ks, h1, h2, h3⟩ := h
 refine ⟨ks.filter fun k => p k.2, by rw [e]; exact h1.filter _, h2.filter _, ?_⟩
 rw [h3, List.filter_map]
 rfl
theorem waitK_erase {l : List ConS} {i : Nat} {c : ConS} (hn : (l.map (·.cid)).Nodup) (h : l[i]? = some c) : waitK (l.eraseIdx i) = (waitK l).filter fun k => k.2 != c.cid := by
 have hs := split_at h
 rw [hs] at hn
 simp only [List.map_append, List.map_cons] at hn
 rw [List.nodup_append] at hn
 obtain ⟨_, hn2, hn3⟩ := hn
 rw [List.nodup_cons] at hn2
 have hkeep : ∀ m : List ConS, (∀ d ∈ m, d.cid ≠ c.cid) -> (waitK m).filter (fun k => k.2 != c.cid) = waitK m := by
  intro m hm
  refine List.filter_eq_self.2 fun k hk => ?_
  obtain ⟨d, hd, e1, _⟩ := waitK_cid hk
  simp [<- e1, hm d hd]
 have hA : ∀ d ∈ l.take i, d.cid ≠ c.cid := fun d hd => hn3 d.cid (List.mem_map.2 ⟨d, hd, rfl⟩) c.cid (by simp)
 have hB : ∀ d ∈ l.drop (i + 1), d.cid ≠ c.cid := fun d hd e => hn2.1 (e ▸ List.mem_map.2 ⟨d, hd, rfl⟩)
 rw [erase_split h, waitK_append]
 conv => rhs; rw [hs]
 rw [waitK_append, waitK_cons c, List.filter_append, List.filter_append, hkeep _ hA, hkeep _ hB, waitK_one]
 split <;> simp
theorem WaitIs.erase {l : List ConS} {i : Nat} {c : ConS} {cs : List Int} (h : WaitIs l cs) (hn : (l.map (·.cid)).Nodup) (hi : l[i]? = some c) : WaitIs (l.eraseIdx i) (cs.filter fun x => x != c.cid) :=
 h.filter _ (waitK_erase hn hi)
theorem WaitIs.nodup {l : List ConS} {cs : List Int} (h : WaitIs l cs) (hn : (l.map (·.cid)).Nodup) : cs.Nodup := by
 obtain ⟨ks, h1, _, rfl⟩ := h
 refine ((h1.map _).nodup_iff).2 ?_
 unfold waitK
 rw [List.map_map]
 exact ((List.filter_sublist (p := fun c : ConS => decide (0 < c.waits)) (l := l)).map (·.cid)).nodup hn
theorem firstTo_is (l : List ConS) : ∀ k, (firstTo l k = none /\ ∀ j, j < k -> ¬ 0 < waitsAt l j) \/ ∃ j, firstTo l k = some j /\ j < k /\ 0 < waitsAt l j /\ ∀ i, i < k -> 0 < waitsAt l i -> waitsAt l j <= waitsAt l i
 | 0 => Or.inl ⟨rfl, fun j h => absurd h (by omega)⟩
 | k + 1 => by
  unfold firstTo
  rcases firstTo_is l k with ⟨e, h⟩ | ⟨j, e, h1, h2, h3⟩
  ·rw [e]
   simp only
   by_cases hk : 0 < waitsAt l k
   ·right
    rw [if_pos hk]
    refine ⟨k, rfl, by omega, hk, fun i hi hw => ?_⟩
    rcases Nat.lt_or_ge i k with h4 | h4
    ·exact absurd hw (h i h4)
    ·obtain rfl : i = k := by omega
     omega
   ·left
    rw [if_neg hk]
    refine ⟨rfl, fun i hi => ?_⟩
    rcases Nat.lt_or_ge i k with h4 | h4
    ·exact h i h4
    ·obtain rfl : i = k := by omega
     exact hk
  ·right
   rw [e]
   simp only
   by_cases hk : 0 < waitsAt l k /\ waitsAt l k < waitsAt l j
   ·rw [if_pos hk]
    refine ⟨k, rfl, by omega, hk.1, fun i hi hw => ?_⟩
    rcases Nat.lt_or_ge i k with h4 | h4
    ·have := h3 i h4 hw; omega
    ·obtain rfl : i = k := by omega
     omega
   ·rw [if_neg hk]
    refine ⟨j, rfl, by omega, h2, fun i hi hw => ?_⟩
    rcases Nat.lt_or_ge i k with h4 | h4
    ·exact h3 i h4 hw
    ·obtain rfl : i = k := by omega
     omega
theorem waitsAt_eq {l : List ConS} {j : Nat} {c : ConS} (h : l[j]? = some c) : waitsAt l j = c.waits := by simp [waitsAt, h]
theorem accept_none {s : SrvS} (h : WaitIs s.conns []) : acceptS s = (0, 4, s) := by
 obtain ⟨ks, h1, _, h3⟩ := h
 have hk : ks = [] := by simpa using h3.symm
 subst hk
 have hK : waitK s.conns = [] := h1.symm.eq_nil
 have hf : firstTo s.conns s.conns.length = none := by
  rcases firstTo_is s.conns s.conns.length with ⟨e, _⟩ | ⟨j, _, h5, h6, _⟩
  ·exact e
  ·have hj : s.conns[j]? = some s.conns[j] := List.getElem?_eq_getElem h5
   rw [waitsAt_eq hj] at h6
   have : (s.conns[j].waits, s.conns[j].cid) ∈ waitK s.conns := by
    simp only [waitK, List.mem_map, List.mem_filter]
    exact ⟨_, ⟨List.getElem_mem h5, by simpa using h6⟩, rfl⟩
   rw [hK] at this
   cases this
 unfold acceptS
 rw [hf]
theorem accept_some {s : SrvS} {x : Int} {cs : List Int} (h : WaitIs s.conns (x :: cs)) : ∃ j c, s.conns[j]? = some c /\ c.cid = x /\ 0 < c.waits /\ acceptS s = (x, 0, { s with conns := s.conns.set j { c with waits := 0 } }) /\ WaitIs (s.conns.set j { c with waits := 0 }) cs := by
 obtain ⟨ks, h1, h2, h3⟩ := h
 cases ks with
 | nil => simp at h3
 | cons k kt =>
  simp only [List.map_cons, List.cons.injEq] at h3
  obtain ⟨rfl, rfl⟩ := h3
  rw [List.pairwise_cons] at h2
  obtain ⟨h2, h2'⟩ := h2
  have hmin : ∀ c ∈ s.conns, 0 < c.waits -> k.1 < c.waits \/ (c.waits, c.cid) = k := by
   intro c hc h0
   have hm : (c.waits, c.cid) ∈ waitK s.conns := by
    simp only [waitK, List.mem_map, List.mem_filter]
    exact ⟨_, ⟨hc, by simpa using h0⟩, rfl⟩
   rcases List.mem_cons.1 (h1.mem_iff.2 hm) with e | e
   ·exact Or.inr e
   ·exact Or.inl (h2 _ e)
  obtain ⟨c0, hc0, e1, e2, e3⟩ := waitK_cid (h1.mem_iff.1 (List.mem_cons_self (a := k) (l := kt)))
  rcases firstTo_is s.conns s.conns.length with ⟨e, hno⟩ | ⟨j, e, h5, h6, h7⟩
  ·obtain ⟨i, hi, rfl⟩ := List.getElem_of_mem hc0
   have := hno i hi
   rw [waitsAt_eq (List.getElem?_eq_getElem hi)] at this
   omega
  ·have hj : s.conns[j]? = some s.conns[j] := List.getElem?_eq_getElem h5
   rw [waitsAt_eq hj] at h6
   have hjk : (s.conns[j].waits, s.conns[j].cid) = k := by
    rcases hmin _ (List.getElem_mem h5) h6 with h8 | h8
    ·obtain ⟨i, hi, rfl⟩ := List.getElem_of_mem hc0
     have h9 := h7 i hi (by rw [waitsAt_eq (List.getElem?_eq_getElem hi)]; exact e3)
     rw [waitsAt_eq (List.getElem?_eq_getElem hi), waitsAt_eq hj] at h9
     omega
    ·exact h8
   generalize hcj : s.conns[j] = c at *
   refine ⟨j, c, hj, by rw [<- hjk], h6, ?_, kt, ?_, h2', rfl⟩
   ·unfold acceptS
    rw [e]
    simp only
    rw [hj]
    simp only
    rw [<- hjk]
   ·have hK : (waitK s.conns).Perm (k :: waitK (s.conns.set j { c with waits := 0 })) := by
     conv => lhs; rw [split_at hj]
     rw [set_split hj, waitK_append, waitK_append, waitK_cons c (s.conns.drop (j + 1)), waitK_cons { c with waits := 0 } (s.conns.drop (j + 1)), waitK_one c, waitK_one { c with waits := 0 }, if_pos h6, hjk]
     simp only [Int.lt_irrefl, if_false, List.nil_append]
     exact List.perm_middle
    exact List.Perm.cons_inv (h1.trans hK)
structure ConKeep (M : Int) (g : Cfg) (lw : Int) (c c' : ConS) : Prop where
 cid : c'.cid = c.cid
 addr : c'.addr = c.addr
 got : c'.got = c.got
 sent : c'.sent = c.sent
 heard : c'.heard = c.heard
 mark : c'.mark = c.mark
 runs : c'.runs = c.runs
 credit : c'.credit = c.credit
 slen : c'.streams.length = c.streams.length
 ok : ConOk M c'
 inv : ConInv g c'
 same : c'.proven = c.proven -> c'.waits = c.waits
 stay : c.proven = true -> c'.proven = true
 new : c.proven = false -> c'.proven = true -> c'.waits = lw
theorem ConKeep.refl {M : Int} {g : Cfg} {lw : Int} {c : ConS} (h1 : ConOk M c) (h2 : ConInv g c) : ConKeep M g lw c c :=
 ⟨rfl, rfl, rfl, rfl, rfl, rfl, rfl, rfl, rfl, h1, h2, fun _ => rfl, id, fun a b => by rw [a] at b; cases b⟩
theorem ConKeep.trans {M : Int} {g : Cfg} {lw : Int} {a b c : ConS} (h : ConKeep M g lw a b) (k : ConKeep M g lw b c) : ConKeep M g lw a c where
 cid := k.cid.trans h.cid
 addr := k.addr.trans h.addr
 got := k.got.trans h.got
 sent := k.sent.trans h.sent
 heard := k.heard.trans h.heard
 mark := k.mark.trans h.mark
 runs := k.runs.trans h.runs
 credit := k.credit.trans h.credit
 slen := k.slen.trans h.slen
 ok := k.ok
 inv := k.inv
 same := fun e => by
  cases ha : a.proven with
  | true =>
   have hb := h.stay ha
   have hc := k.stay hb
   rw [k.same (by rw [hb, hc]), h.same (by rw [ha, hb])]
  | false =>
   have hc : c.proven = false := by rw [e, ha]
   have hb : b.proven = false := by
    cases hb : b.proven with
    | true => have := k.stay hb; rw [hc] at this; cases this
    | false => rfl
   rw [k.same (by rw [hb, hc]), h.same (by rw [ha, hb])]
 stay := fun e => k.stay (h.stay e)
 new := fun e1 e2 => by
  cases hb : b.proven with
  | true => rw [k.same (by rw [hb, e2]), h.new e1 hb]
  | false => exact k.new hb e2
theorem conDeal_fields {gaps : Int} {f : FrmS} {c : ConS} : (conDeal gaps f c).2 = { c with streams := (conDeal gaps f c).2.streams } /\ (conDeal gaps f c).2.streams.length = c.streams.length := by
 unfold conDeal
 split
 ·exact ⟨rfl, rfl⟩
 ·exact ⟨rfl, by simp⟩
theorem conStep_keep {M : Int} {g : Cfg} {lw : Int} {c : ConS} {f : FrmS} (h1 : ConOk M c) (h2 : ConInv g c) (hf : FrmOk f) (hb : Bytes f.bytes) (hg : 0 <= g.c4) : ConKeep M g lw c (conStep g lw c f).2 := by
 unfold conStep
 split
 ·exact ConKeep.refl h1 h2
 ·split
  ·by_cases hp : f.code ≠ proofN g.c9 c.addr c.cid
   ·rw [if_pos hp]; exact ConKeep.refl h1 h2
   ·rw [if_neg hp]
    cases hpr : c.proven with
    | true => simp only [if_true]; exact ConKeep.refl h1 h2
    | false =>
     simp only [Bool.false_eq_true, if_false]
     exact ⟨rfl, rfl, rfl, rfl, rfl, rfl, rfl, rfl, rfl, ⟨h1.cid, h1.addr, h1.got, h1.sent, h1.heard, h1.runs, h1.credit, h1.slen, h1.str⟩, ⟨h2.str, h2.high, h2.runs, h2.fol⟩, fun h => (by rw [hpr] at h; cases h), fun _ => rfl, fun _ _ => rfl⟩
  ·have e := conDeal_fields (gaps := g.c4) (f := f) (c := c)
   have e1 := e.1
   have k1 := (conDeal_ok (gaps := g.c4) hf h1).1
   have k2 := conDeal_inv h2 hb hf.ofs.1 hg
   exact ⟨by rw [e1], by rw [e1], by rw [e1], by rw [e1], by rw [e1], by rw [e1], by rw [e1], by rw [e1], e.2, k1, k2, fun _ => by rw [e1], fun h => by rw [e1]; exact h, fun a b => by rw [e1] at b; rw [a] at b; cases b⟩
theorem frameS_bytes {b : List Int} (hb : Bytes b) {f : FrmS} {size : Nat} (h : frameS b = some (f, size)) : Bytes f.bytes := by
 have hn : Bytes [] := fun x hx => by cases hx
 unfold frameS at h
 split at h
 ·cases h
 ·split at h
  ·cases h
  ·simp only [Option.some.injEq, Prod.mk.injEq] at h; rw [<- h.1]; exact hn
  ·simp only [Option.some.injEq, Prod.mk.injEq] at h; rw [<- h.1]; exact hn
  ·simp only [Option.some.injEq, Prod.mk.injEq] at h; rw [<- h.1]; exact hn
  ·split at h
   ·cases h
   ·simp only [Option.some.injEq, Prod.mk.injEq] at h
    rw [<- h.1]
    exact (hb.drop _).take _
theorem conFrames_keep {M : Int} {g : Cfg} {lw : Int} (hg : 0 <= g.c4) : ∀ (n : Nat) {c : ConS} {b : List Int}, ConOk M c -> ConInv g c -> Bytes b -> ConKeep M g lw c (conFrames g lw c b n).con
 | 0, c, b, h1, h2, hb => ConKeep.refl h1 h2
 | n + 1, c, b, h1, h2, hb => by
  unfold conFrames
  split
  ·exact ConKeep.refl h1 h2
  ·next hne =>
   split
   ·exact ConKeep.refl h1 h2
   ·next f size hf =>
    split
    ·exact ConKeep.refl h1 h2
    ·split
     ·exact ConKeep.refl h1 h2
     ·have k := conStep_keep (lw := lw) h1 h2 (frameS_ok hb (List.length_pos_iff.2 hne) hf).1 (frameS_bytes hb hf) hg
      exact k.trans (conFrames_keep hg n k.ok k.inv (hb.drop size))
def dataS (s : SrvS) (addr cid num size : Int) (b : List Int) (N : Nat) (outs : List (Int × List Int)) : SrvS × List (Int × List Int) :=
 match findI s.conns cid with
 | none => (s, outs)
 | some k => match s.conns[k]? with
  | none => (s, outs)
  | some c =>
   if c.addr ≠ addr then (s, outs) else
   match comesC { c with got := c.got + size } num with
   | none => ({ s with conns := s.conns.set k { c with got := c.got + size } }, outs)
   | some c2 => framesS { s with conns := s.conns.set k { c2 with heard := s.now } } k b outs N
def receiveS (s : SrvS) (addr : Int) (b : List Int) : SrvS × List (Int × List Int) :=
 if ¬ (0 <= addr /\ addr <= 255) then (s, []) else
 match dgramS b with
 | none => (s, [])
 | some d => if d.kind = 1 then helloS s addr d.cid b.length d.tok d.frames b.length [] else dataS s addr d.cid d.num b.length d.frames b.length []
structure SrvInv (M L : Int) (s : SrvS) : Prop where
 cfg : CfgOk s.c
 now : 0 <= s.now /\ s.now <= 1000000000
 few : (s.conns.length : Int) <= s.c.c0
 nd : (s.conns.map (·.cid)).Nodup
 ok : ∀ c ∈ s.conns, ConOk M c
 inv : ∀ c ∈ s.conns, ConInv s.c c
 waits : ∀ c ∈ s.conns, 0 <= c.waits /\ c.waits <= s.last /\ (c.proven = false -> c.waits = 0)
 last : 0 <= s.last /\ s.last <= L
theorem ConOk.mono {M M' : Int} {c : ConS} (h : ConOk M c) (hm : M <= M') : ConOk M' c := ⟨h.cid, h.addr, by have := h.got; omega, by have := h.sent; omega, h.heard, h.runs, h.credit, h.slen, h.str⟩
theorem SrvInv.mono {M M' L L' : Int} {s : SrvS} (h : SrvInv M L s) (hm : M <= M') (hl : L <= L') : SrvInv M' L' s :=
 ⟨h.cfg, h.now, h.few, h.nd, fun c hc => (h.ok c hc).mono hm, h.inv, h.waits, by have := h.last; omega⟩
theorem SrvInv.set {M L : Int} {s : SrvS} {i : Nat} {c c' : ConS} {last : Int} (h : SrvInv M L s) (hi : s.conns[i]? = some c) (hok : ConOk M c') (hinv : ConInv s.c c') (hcid : c'.cid = c.cid) (hw : 0 <= c'.waits /\ c'.waits <= last /\ (c'.proven = false -> c'.waits = 0)) (hl : s.last <= last) (hL : last <= L) :
  SrvInv M L { s with conns := s.conns.set i c', last := last } := by
 have hm : ∀ d ∈ s.conns.set i c', d ∈ s.conns \/ d = c' := fun d hd => List.mem_or_eq_of_mem_set hd
 refine ⟨h.cfg, h.now, by simp only [List.length_set]; exact h.few, by simp only; rw [map_set_cid hi hcid]; exact h.nd, fun d hd => ?_, fun d hd => ?_, fun d hd => ?_, by have := h.last; simp only; omega⟩
 ·rcases hm d hd with hd | rfl
  ·exact h.ok d hd
  ·exact hok
 ·rcases hm d hd with hd | rfl
  ·exact h.inv d hd
  ·exact hinv
 ·rcases hm d hd with hd | rfl
  ·have := h.waits d hd
   exact ⟨this.1, by simp only; omega, this.2.2⟩
  ·exact hw
theorem SrvInv.sub {M L : Int} {s : SrvS} {l : List ConS} {last now : Int} (h : SrvInv M L s) (hs : l.Sublist s.conns) (hl : s.last <= last) (hL : last <= L) (hn : 0 <= now /\ now <= 1000000000) : SrvInv M L { s with conns := l, last := last, now := now } := by
 refine ⟨h.cfg, hn, ?_, (hs.map _).nodup h.nd, fun d hd => h.ok d (hs.subset hd), fun d hd => h.inv d (hs.subset hd), fun d hd => ?_, by have := h.last; simp only; omega⟩
 ·have := hs.length_le
  have := h.few
  simp only
  omega
 ·have := h.waits d (hs.subset hd)
  exact ⟨this.1, by simp only; omega, this.2.2⟩
theorem findI_is {l : List ConS} {cid : Int} : (findI l cid = none /\ cid ∉ l.map (·.cid)) \/ ∃ k c, findI l cid = some k /\ l[k]? = some c /\ c.cid = cid := by
 unfold findI
 cases h : l.findIdx? fun c => c.cid == cid with
 | none =>
  left
  refine ⟨rfl, fun hm => ?_⟩
  rw [List.findIdx?_eq_none_iff] at h
  obtain ⟨c, hc, e⟩ := List.mem_map.1 hm
  have := h c hc
  simp [e] at this
 | some k =>
  right
  obtain ⟨hk, h1, _⟩ := List.findIdx?_eq_some_iff_getElem.1 h
  exact ⟨k, l[k], rfl, List.getElem?_eq_getElem hk, by simpa using h1⟩
theorem conS_inv {M L : Int} {s : SrvS} {i : Nat} {c : ConS} {b : List Int} (n : Nat) (h : SrvInv M L s) (hi : s.conns[i]? = some c) (hb : Bytes b) : SrvInv M (L + 1) (conS s i c (conFrames s.c (s.last + 1) c b n)) := by
 have hc := List.mem_of_getElem? hi
 have k := conFrames_keep (M := M) (lw := s.last + 1) (by have := h.cfg.c4; omega) n (h.ok c hc) (h.inv c hc) hb
 have hla := h.last
 have hw := h.waits c hc
 generalize hr : conFrames s.c (s.last + 1) c b n = r at k ⊢
 have hl : s.last <= (if r.con.proven = true /\ c.proven = false then s.last + 1 else s.last) /\ (if r.con.proven = true /\ c.proven = false then s.last + 1 else s.last) <= L + 1 := by split <;> omega
 unfold conS
 cases hg : r.gone with
 | true =>
  simp only [if_true]
  exact SrvInv.sub (now := s.now) (h.mono (Int.le_refl _) (by omega)) (List.eraseIdx_sublist _ _) hl.1 hl.2 h.now
 | false =>
  simp only [Bool.false_eq_true, if_false]
  refine SrvInv.set (h.mono (Int.le_refl _) (by omega)) hi k.ok k.inv k.cid ?_ hl.1 hl.2
  cases hp : c.proven with
  | true =>
   have h1 := k.stay hp
   rw [k.same (by rw [h1, hp])]
   exact ⟨hw.1, by simp; omega, fun h => by rw [h1] at h; cases h⟩
  | false =>
   cases hp' : r.con.proven with
   | true =>
    rw [k.new hp hp']
    exact ⟨by omega, by simp, fun h => by cases h⟩
   | false =>
    rw [k.same (by rw [hp', hp])]
    exact ⟨hw.1, by simp; omega, fun _ => hw.2.2 hp⟩
theorem frames_inv {M L : Int} {s : SrvS} {i : Nat} {c : ConS} {b : List Int} {outs : List (Int × List Int)} (n : Nat) (h : SrvInv M L s) (hi : s.conns[i]? = some c) (hb : Bytes b) : SrvInv M (L + 1) (framesS s i b outs n).1 := by
 rw [frames_con n b outs hi]
 exact conS_inv n h hi hb
theorem putL_len (n : Int) : (putL n).length <= 4 := by
 unfold putL
 repeat' split
 all_goals simp
theorem news_ok {M K : Int} {c : ConS} {f : List Int} (h : ConOk M c) (hf : (f.length : Int) + 5 <= K) : ConOk (M + K) (newsC c f) := by
 have h1 := putL_len c.cid
 have hl : ((newsL c.cid f).length : Int) <= f.length + 5 := by simp [newsL]; omega
 unfold newsC
 split
 ·have := h.got
  have := h.sent
  exact ⟨h.cid, h.addr, by simp only; omega, by simp only; omega, h.heard, h.runs, h.credit, h.slen, h.str⟩
 ·exact h.mono (by omega)
theorem news_inv {g : Cfg} {c : ConS} {f : List Int} (h : ConInv g c) : ConInv g (newsC c f) := by
 unfold newsC
 split
 ·exact ⟨h.str, h.high, h.runs, h.fol⟩
 ·exact h
theorem news_same (c : ConS) (f : List Int) : (newsC c f).cid = c.cid /\ (newsC c f).waits = c.waits /\ (newsC c f).proven = c.proven /\ (newsC c f).addr = c.addr := by
 unfold newsC
 split <;> exact ⟨rfl, rfl, rfl, rfl⟩
theorem welcome_len (g : Cfg) (c : ConS) : ((welcomeL g c).length : Int) <= 17 := by
 have h1 := putL_len (proofN g.c9 c.addr c.cid)
 have h2 := putL_len g.c1
 have h3 := putL_len g.c2
 have h4 := putL_len g.c3
 simp only [welcomeL, List.length_append, List.length_cons, List.length_nil]
 omega
theorem again_inv {M L size : Int} {s : SrvS} {k : Nat} {c : ConS} {addr : Int} {outs : List (Int × List Int)} (h : SrvInv M L s) (hk : s.conns[k]? = some c) (hs : 0 <= size) : SrvInv (M + size + 100) L (againS s k c addr size outs).1 := by
 have hc := List.mem_of_getElem? hk
 have hok := h.ok c hc
 have hwa := h.waits c hc
 have hla := h.last
 have hg := hok.got
 have hse := hok.sent
 have h1 : ConOk (M + size) { c with got := c.got + size, heard := s.now } := ⟨hok.cid, hok.addr, by simp only; omega, by simp only; omega, h.now, hok.runs, hok.credit, hok.slen, hok.str⟩
 have h2 : ConInv s.c { c with got := c.got + size, heard := s.now } := ⟨(h.inv c hc).str, (h.inv c hc).high, (h.inv c hc).runs, (h.inv c hc).fol⟩
 unfold againS
 split
 ·exact h.mono (by omega) (Int.le_refl _)
 ·simp only
  split
  ·exact SrvInv.set (h.mono (by omega) (Int.le_refl _)) hk (h1.mono (by omega)) h2 rfl hwa (Int.le_refl _) hla.2
  ·have hn := news_same { c with got := c.got + size, heard := s.now } (welcomeL s.c { c with got := c.got + size, heard := s.now })
   refine SrvInv.set (h.mono (by omega) (Int.le_refl _)) hk (news_ok (K := 100) h1 (by have := welcome_len s.c { c with got := c.got + size, heard := s.now }; omega)) (news_inv h2) hn.1 ?_ (Int.le_refl _) hla.2
   rw [hn.2.1, hn.2.2.1]
   exact hwa
theorem strNew_inv {gaps piece : Int} (hg : 0 <= gaps) (hp : 0 <= piece /\ piece <= 1073741823) : StrInv gaps (strNew piece) :=
 ⟨by simp [strNew], fun b hb => by simp [strNew] at hb, by simp [strNew], fun h => by simp [strNew] at h, by simp [strNew], fun h => by simp [strNew] at h, fun h => by simp [strNew] at h, by simp [strNew, runsTo]; exact hg, by simp [strNew]; exact hp⟩
theorem strNew_ok {piece : Int} (hp : 0 <= piece /\ piece <= 1073741823) : StrOk (strNew piece) :=
 ⟨by simp [strNew], by simp [strNew], by simp [strNew], by simp [strNew]; exact hp, by simp [strNew]⟩
theorem highS_new (piece : Int) : ∀ n, highS (List.replicate n (strNew piece)) = 0
 | 0 => rfl
 | n + 1 => by
  have := highS_new piece n
  simp [highS, List.replicate_succ, strNew] at this ⊢
theorem open_ok {M size : Int} {s : SrvS} {cid addr : Int} {ok : Bool} (h : CfgOk s.c) (hn : 0 <= s.now /\ s.now <= 1000000000) (hc : 0 <= cid /\ cid <= 1073741823) (ha : 0 <= addr /\ addr < 256) (hs : 0 <= size /\ size <= M) : ConOk M (openC s cid addr size ok) /\ ConInv s.c (openC s cid addr size ok) := by
 have h1 := h.c1
 have h2 := h.c2
 have h3 := h.c3
 have h4 := h.c4
 have hst : (openC s cid addr size ok).streams = List.replicate s.c.c3.toNat (strNew s.c.c2) := by simp [openC, growS]
 have hm : ∀ x ∈ (openC s cid addr size ok).streams, x = strNew s.c.c2 := by
  intro x hx
  rw [hst] at hx
  exact (List.mem_replicate.1 hx).2
 have hl : (openC s cid addr size ok).streams.length = s.c.c3.toNat := by rw [hst]; simp
 refine ⟨⟨hc, ha, hs, by simp [openC, conNew]; omega, hn, by simp [openC, conNew], by simp [openC, conNew]; omega, by rw [hl]; omega, fun x hx => ?_⟩, ⟨fun x hx => ?_, ?_, trivial, Or.inl ?_⟩⟩
 ·rw [hm x hx]; exact strNew_ok (by omega)
 ·rw [hm x hx]; exact strNew_inv (by omega) (by omega)
 ·rw [hst, highS_new]
  simp [openC, conNew]
  omega
 ·rw [hst, readAll_new]
  simp [openC, conNew]
  omega
theorem SrvInv.snoc {M L : Int} {s : SrvS} {c : ConS} {last : Int} (h : SrvInv M L s) (hok : ConOk M c) (hinv : ConInv s.c c) (hcid : c.cid ∉ s.conns.map (·.cid)) (hw : 0 <= c.waits /\ c.waits <= last /\ (c.proven = false -> c.waits = 0)) (hl : s.last <= last) (hL : last <= L) (hf : (s.conns.length : Int) < s.c.c0) :
  SrvInv M L { s with conns := s.conns ++ [c], last := last } := by
 have hm : ∀ d ∈ s.conns ++ [c], d ∈ s.conns \/ d = c := fun d hd => by simpa using hd
 refine ⟨h.cfg, h.now, by simp; omega, ?_, fun d hd => ?_, fun d hd => ?_, fun d hd => ?_, by have := h.last; simp only; omega⟩
 ·simp only [List.map_append, List.map_cons, List.map_nil]
  rw [List.nodup_append]
  refine ⟨h.nd, by simp, fun a ha b hb e => hcid ?_⟩
  rw [<- List.mem_singleton.1 hb, <- e]
  exact ha
 ·rcases hm d hd with hd | rfl
  ·exact h.ok d hd
  ·exact hok
 ·rcases hm d hd with hd | rfl
  ·exact h.inv d hd
  ·exact hinv
 ·rcases hm d hd with hd | rfl
  ·have := h.waits d hd
   exact ⟨this.1, by simp only; omega, this.2.2⟩
  ·exact hw
theorem set_snoc {α : Type} (l : List α) (a b : α) : (l ++ [a]).set l.length b = l ++ [b] := by simp
theorem get_snoc {α : Type} (l : List α) (a : α) : (l ++ [a])[l.length]? = some a := by simp
theorem opened_ok {M L size : Int} {s : SrvS} {cid addr : Int} (ok : Bool) (h : SrvInv M L s) (hc : 0 <= cid /\ cid <= 1073741823) (ha : 0 <= addr /\ addr < 256) (hs : 0 <= size) (hM : 0 <= M) :
  ConOk (M + size + 100) (newsC (openC s cid addr size ok) (welcomeL s.c (openC s cid addr size ok))) /\ ConInv s.c (newsC (openC s cid addr size ok) (welcomeL s.c (openC s cid addr size ok))) := by
 have hop := open_ok (M := M + size) (ok := ok) h.cfg h.now hc ha ⟨hs, by omega⟩
 refine ⟨news_ok (K := 100) hop.1 ?_, news_inv hop.2⟩
 have := welcome_len s.c (openC s cid addr size ok)
 omega
theorem hello_inv {M L size : Int} {s : SrvS} {cid addr : Int} {tok b : List Int} {N : Nat} {outs : List (Int × List Int)} (h : SrvInv M L s) (hc : 0 <= cid /\ cid <= 1073741823) (ha : 0 <= addr /\ addr < 256) (hs : 0 <= size) (hM : 0 <= M) (hb : Bytes b) : SrvInv (M + size + 100) (L + 2) (helloS s addr cid size tok b N outs).1 := by
 have h0 : SrvInv (M + size + 100) (L + 2) s := h.mono (by omega) (by omega)
 have hla := h.last
 unfold helloS
 rcases findI_is (l := s.conns) (cid := cid) with ⟨e, hno⟩ | ⟨k, c, e, hk, hcid⟩
 ·rw [e]
  simp only
  have hfull : ¬ fullS s = true -> (s.conns.length : Int) < s.c.c0 := by
   intro hf
   unfold fullS at hf
   simp at hf
   omega
  split
  ·split
   ·split
    ·exact h0
    ·next hf =>
     obtain ⟨k1, k2⟩ := opened_ok true h hc ha hs hM
     have hn := news_same (openC s cid addr size true) (welcomeL s.c (openC s cid addr size true))
     unfold openP
     simp only
     refine SrvInv.mono (M := M + size + 100) (L := L + 1 + 1) (frames_inv (c := provC (s.last + 1) (newsC (openC s cid addr size true) (welcomeL s.c (openC s cid addr size true)))) N ?_ ?_ hb) (Int.le_refl _) (by omega)
     ·unfold provS
      simp only
      rw [set_snoc, set_snoc]
      refine SrvInv.snoc (h.mono (by omega) (by omega)) ?_ ?_ (by rw [show (provC (s.last + 1) (newsC (openC s cid addr size true) (welcomeL s.c (openC s cid addr size true)))).cid = cid from hn.1]; exact hno) ⟨by simp only [provC]; omega, by simp [provC], fun h => by cases h⟩ (by omega) (by omega) (hfull hf)
      ·exact ⟨k1.cid, k1.addr, k1.got, k1.sent, k1.heard, k1.runs, k1.credit, k1.slen, k1.str⟩
      ·exact ⟨k2.str, k2.high, k2.runs, k2.fol⟩
     ·unfold provS
      simp only
      rw [set_snoc, set_snoc, get_snoc]
   ·exact h0
  ·split
   ·exact h0
   ·split
    ·exact h0
    ·next hf =>
     obtain ⟨k1, k2⟩ := opened_ok false h hc ha hs hM
     have hn := news_same (openC s cid addr size false) (welcomeL s.c (openC s cid addr size false))
     unfold openS
     simp only
     refine SrvInv.mono (M := M + size + 100) (L := L + 1 + 1) (frames_inv (c := newsC (openC s cid addr size false) (welcomeL s.c (openC s cid addr size false))) N ?_ ?_ hb) (Int.le_refl _) (by omega)
     ·rw [set_snoc]
      refine SrvInv.snoc (last := s.last) (h.mono (by omega) (by omega)) k1 k2 (by rw [hn.1]; exact hno) ?_ (Int.le_refl _) (by omega) (hfull hf)
      rw [hn.2.1, hn.2.2.1]
      exact ⟨by simp [openC, conNew], by simp [openC, conNew]; omega, fun _ => rfl⟩
     ·simp only
      rw [set_snoc, get_snoc]
 ·rw [e]
  simp only
  rw [hk]
  simp only
  exact (again_inv h hk hs).mono (by omega) (by omega)
theorem comesC_keep {M : Int} {g : Cfg} {c c' : ConS} {n : Int} (h : ConOk M c) (hi : ConInv g c) (hn : 0 <= n /\ n <= 1073741823) (hc : comesC c n = some c') : ConOk M c' /\ ConInv g c' /\ c'.cid = c.cid /\ c'.waits = c.waits /\ c'.proven = c.proven /\ c'.addr = c.addr /\ c'.got = c.got := by
 unfold comesC comesS at hc
 split at hc
 ·simp at hc
 ·simp only [Option.map_map, Option.map_eq_some_iff] at hc
  obtain ⟨st, e1, e2⟩ := hc
  have hnot : ¬ InR c.runs n := fun hin => by
   rw [(comes_runs hi.runs n).1 hin] at e1
   cases e1
  obtain ⟨st', rs', e3, e4, hpw, _, hpos, hlen, hin⟩ := (comes_runs hi.runs n).2 hnot
  rw [e1] at e3
  cases e3
  have hrl := h.runs
  have hrg : ∀ r ∈ rs', 0 <= r.1 /\ r.1 <= r.2 /\ r.2 <= 1073741823 := by
   intro r hr
   have hr0 := pwf_mem hpw hr
   have hb : ∀ p, InR rs' p -> 0 <= p /\ p <= 1073741823 := by
    intro p hp
    rcases (hin p).1 hp with rfl | ⟨q, hq, h1, h2⟩
    ·exact hn
    ·have := hrl.2 q hq; omega
   have h1 := hb r.1 ⟨r, hr, Int.le_refl _, hr0⟩
   have h2 := hb r.2 ⟨r, hr, hr0, Int.le_refl _⟩
   omega
  simp only [Function.comp] at e2
  rw [e4] at e2
  split at e2
  ·subst e2
   refine ⟨⟨h.cid, h.addr, h.got, h.sent, h.heard, ⟨?_, fun r hr => hrg r (List.mem_of_mem_drop hr)⟩, h.credit, h.slen, h.str⟩, ⟨hi.str, hi.high, ?_, hi.fol⟩, rfl, rfl, rfl, rfl, rfl⟩
   ·simp; omega
   ·have hp := hpw
    rw [<- List.take_append_drop 1 rs', pwf_append] at hp
    exact hp.2.1
  ·next hle =>
   subst e2
   exact ⟨⟨h.cid, h.addr, h.got, h.sent, h.heard, ⟨by simp only; omega, hrg⟩, h.credit, h.slen, h.str⟩, ⟨hi.str, hi.high, hpw, hi.fol⟩, rfl, rfl, rfl, rfl, rfl⟩
theorem data_inv {M L size : Int} {s : SrvS} {cid addr num : Int} {b : List Int} {N : Nat} {outs : List (Int × List Int)} (h : SrvInv M L s) (hnum : 0 <= num /\ num <= 1073741823) (hs : 0 <= size) (hb : Bytes b) : SrvInv (M + size + 100) (L + 2) (dataS s addr cid num size b N outs).1 := by
 have h0 : SrvInv (M + size + 100) (L + 2) s := h.mono (by omega) (by omega)
 have hla := h.last
 unfold dataS
 rcases findI_is (l := s.conns) (cid := cid) with ⟨e, _⟩ | ⟨k, c, e, hk, _⟩
 ·rw [e]; exact h0
 ·rw [e]
  simp only
  rw [hk]
  simp only
  have hc := List.mem_of_getElem? hk
  have hok := h.ok c hc
  have hwa := h.waits c hc
  have hg := hok.got
  have hse := hok.sent
  have h1 : ConOk (M + size + 100) { c with got := c.got + size } := ⟨hok.cid, hok.addr, by simp only; omega, by simp only; omega, hok.heard, hok.runs, hok.credit, hok.slen, hok.str⟩
  have h2 : ConInv s.c { c with got := c.got + size } := ⟨(h.inv c hc).str, (h.inv c hc).high, (h.inv c hc).runs, (h.inv c hc).fol⟩
  split
  ·exact h0
  ·split
   ·exact SrvInv.set h0 hk h1 h2 rfl hwa (Int.le_refl _) (by omega)
   ·next c2 hc2 =>
    obtain ⟨q1, q2, q3, q4, q5, _, _⟩ := comesC_keep h1 h2 hnum hc2
    refine (frames_inv (L := L + 1) N ?_ (getElem?_set_at hk) hb).mono (Int.le_refl _) (by omega)
    refine SrvInv.set (h.mono (by omega) (by omega)) hk ?_ ?_ q3 ?_ (Int.le_refl _) (by omega)
    ·exact ⟨q1.cid, q1.addr, q1.got, q1.sent, h.now, q1.runs, q1.credit, q1.slen, q1.str⟩
    ·exact ⟨q2.str, q2.high, q2.runs, q2.fol⟩
    ·simp only; rw [q4, q5]; exact hwa
theorem dgramS_ok {b : List Int} (hb : Bytes b) {d : DgS} (h : dgramS b = some d) : (d.kind = 1 \/ d.kind = 2) /\ (0 <= d.cid /\ d.cid <= 1073741823) /\ (0 <= d.num /\ d.num <= 1073741823) /\ Bytes d.tok /\ Bytes d.frames /\ d.tok.length <= b.length /\ d.frames.length <= b.length := by
 have hv : ∀ l, Bytes l -> 0 <= gval l /\ gval l <= 1073741823 := fun l hl => by have := gval_range hl; omega
 unfold dgramS at h
 simp only at h
 split at h
 ·cases h
 ·split at h
  ·cases h
  ·split at h
   ·cases h
   ·have v1 := hv _ (hb.drop 1)
    have v2 := hv _ ((hb.drop 1).drop (gsz (b.drop 1)).toNat)
    have b3 := ((hb.drop 1).drop (gsz (b.drop 1)).toNat).drop (gsz ((b.drop 1).drop (gsz (b.drop 1)).toNat)).toNat
    have l3 : (((b.drop 1).drop (gsz (b.drop 1)).toNat).drop (gsz ((b.drop 1).drop (gsz (b.drop 1)).toNat)).toNat).length <= b.length := by simp only [List.length_drop]; omega
    generalize ((b.drop 1).drop (gsz (b.drop 1)).toNat).drop (gsz ((b.drop 1).drop (gsz (b.drop 1)).toNat)).toNat = r3 at *
    split at h
    ·split at h
     ·cases h
     ·simp only [Option.some.injEq] at h
      subst h
      exact ⟨Or.inl rfl, v1, by simp, b3.take _, b3.drop _, by simp only [List.length_take]; omega, by simp only [List.length_drop]; omega⟩
    ·split at h
     ·simp only [Option.some.injEq] at h
      subst h
      exact ⟨Or.inr rfl, v1, v2, fun x hx => (by cases hx), b3, by simp, l3⟩
     ·cases h
theorem receive_inv {M L : Int} {s : SrvS} {addr : Int} {b : List Int} (h : SrvInv M L s) (hM : 0 <= M) (hb : Bytes b) : SrvInv (M + b.length + 100) (L + 2) (receiveS s addr b).1 := by
 have h0 : SrvInv (M + b.length + 100) (L + 2) s := h.mono (by omega) (by omega)
 unfold receiveS
 split
 ·exact h0
 ·next ha =>
  split
  ·exact h0
  ·next d hd =>
   obtain ⟨_, k2, k3, _, k5, _, _⟩ := dgramS_ok hb hd
   split
   ·exact hello_inv h k2 (by omega) (by omega) hM k5
   ·exact data_inv h k3 (by omega) k5
theorem accept_inv {M L : Int} {s : SrvS} (h : SrvInv M L s) : SrvInv M L (acceptS s).2.2 := by
 unfold acceptS
 split
 ·exact h
 ·split
  ·exact h
  ·next j _ c hc =>
   have hm := List.mem_of_getElem? hc
   have hok := h.ok c hm
   have hi := h.inv c hm
   exact SrvInv.set h hc ⟨hok.cid, hok.addr, hok.got, hok.sent, hok.heard, hok.runs, hok.credit, hok.slen, hok.str⟩ ⟨hi.str, hi.high, hi.runs, hi.fol⟩ rfl ⟨Int.le_refl _, h.last.1, fun _ => rfl⟩ (Int.le_refl _) h.last.2
theorem new_inv {g : Cfg} (h : CfgOk g) : SrvInv 0 0 (srvNew g) :=
 ⟨h, by simp [srvNew], by simp [srvNew]; have := h.c0; omega, by simp [srvNew], fun c hc => (by simp [srvNew] at hc), fun c hc => (by simp [srvNew] at hc), fun c hc => (by simp [srvNew] at hc), by simp [srvNew]⟩
end Go.Proofs.YthmdjhlhodpbhaaGreatDoor
namespace Go.Proofs.YthmdjhlhodpbhaaGreatDoor
open Go.RowKit
def putsL (ns : List Int) : List Int := (ns.map putL).flatten
theorem putsL_snoc (ns : List Int) (n : Int) : putsL (ns ++ [n]) = putsL ns ++ putL n := by simp [putsL]
theorem putsL_len (ns : List Int) : (putsL ns).length <= 4 * ns.length := by
 induction ns with
 | nil => simp [putsL]
 | cons a t ih =>
  have := putL_len a
  simp only [putsL, List.map_cons, List.flatten_cons, List.length_append, List.length_cons] at ih ⊢
  omega
theorem wNews_any (cid kind : Int) (ns : List Int) (nb nc : Nat) (w : World) (hc : 0 <= cid /\ cid <= 1073741823) (hn : ∀ n ∈ ns, 0 <= n /\ n <= 1073741823) (hl : ns.length <= 8) (hcell : ∀ j n, ns[j]? = some n -> w.cell? ⟨nb, j, none⟩ = some (.int .i64 n)) :
  Calls Tryz.prog 133 #[.int .i64 cid, .int .u8 kind, .slice (some ⟨nb, 0, none⟩) ns.length nc] w fun e w' => ∃ v, e = .returned v /\ w'.ownsRow w.heap.size 5 1 v (newsL cid ([kind] ++ putsL ns)).length (U8 (newsL cid ([kind] ++ putsL ns))) /\ Below w.heap.size w w' := by
 obtain ⟨i0, hi, hz0, hz1, hz2⟩ := info_parts info_u8
 have HC := hideIt hcell
 have HN := hideIt hn
 clear hcell hn
 have hpl := putL_len cid
 go_enter Tryz.func133, Tryz.ntmps133
 go_wp2_with fail
 refine (wAppendNumber_any cid hc.1 hc.2 w.heap.size _ 1 (U8 [4]) _ (own_lit w 5 (U8 [4]) (by simp [U8, maxLen])) (by simp) (by decide)).mono ?_
 rintro e w1 ⟨v1, rfl, hown1, hg1⟩
 have b1 : Below w.heap.size w w1 := (below_alloc w _).grown hg1 (by simp) (fun g hg => by simp [Value.ownBlock] at hg; omega)
 have hz := b1.size
 go_wp2_with (at_builtin; refine wpList_append_own _ rfl _ _ 44 rfl w.heap.size 5 i0 (.int .u8 0) 1 1 Tryz.underlying44 hi hz0 hz1 hz2 rfl (by decide) v1 (1 + (putL cid).length) (U8 [4] ++ U8 (putL cid)) rfl (hown1.alloc _) ⟨w1.heap.size, 0, none⟩ 1 1 (U8 [kind]) rfl rfl (lit_cells w1 5 (U8 [kind]) (by simp [U8, maxLen])) (u8_one _) (by unfold maxLen; omega) (by omega) (by simp; omega) ?_; intro v2 w2 hown2 hg2 _)
 have b2 : Below w.heap.size w w2 := (b1.alloc hz _).grown hg2 (by simp; omega) (fun g hg => (hown1.lt g hg).1)
 have h0 : w2.ownsRow w.heap.size 5 1 v2 (newsL cid ([kind] ++ putsL (ns.take 0))).length (U8 (newsL cid ([kind] ++ putsL (ns.take 0)))) := by
  have e1 : U8 (newsL cid ([kind] ++ putsL (ns.take 0))) = U8 [4] ++ U8 (putL cid) ++ U8 [kind] := by simp [newsL, putsL, U8]
  have e2 : (newsL cid ([kind] ++ putsL (ns.take 0))).length = 1 + (putL cid).length + 1 := by simp [newsL, putsL]; omega
  rw [e1, e2]
  exact hown2
 have H0 := hideIt (And.intro h0 b2)
 clear hown1 hown2 hg1 hg2 b1 h0 b2 hz
 go_loopw [7, 18] (fun v i wr => ∃ k : Nat, k <= ns.length /\ i = .int .i64 k /\ wr.ownsRow w.heap.size 5 1 v (newsL cid ([kind] ++ putsL (ns.take k))).length (U8 (newsL cid ([kind] ++ putsL (ns.take k)))) /\ Below w.heap.size w wr) (fun _ i _ => ns.length - (intOf i).toNat)
 case atStart => exact ⟨0, Nat.zero_le _, rfl, H0.out⟩
 case round =>
  obtain ⟨k, hk, rfl, ho, hb⟩ := hrel
  by_cases hlt : k < ns.length
  ·obtain ⟨n, hnk⟩ : ∃ n, ns[k]? = some n := ⟨_, List.getElem?_eq_getElem hlt⟩
   have hnr := HN.out n (List.mem_of_getElem? hnk)
   have hcl := cell_below (HC.out k n hnk) hb
   have htk : ns.take (k + 1) = ns.take k ++ [n] := by rw [List.take_add_one, hnk]; rfl
   have hlen : (newsL cid ([kind] ++ putsL (ns.take k))).length <= 70368744177664 := by
    have := putsL_len (ns.take k)
    simp [newsL] at this ⊢
    omega
   have HS := hideIt (wAppendNumber_any n hnr.1 hnr.2 w.heap.size _ _ _ _ ho hb.size hlen)
   have HB := hideIt (And.intro ho hb)
   have HT := hideIt htk
   clear ho hb htk hlen hnr hnk
   go_wp2_with fail
   refine HS.out.mono ?_
   rintro e w3 ⟨v3, rfl, ho3, hg3⟩
   have H3 := hideIt (And.intro ho3 hg3)
   clear HS ho3 hg3
   go_wp2_with fail
   go_roundw
   case rel =>
    refine ⟨k + 1, by omega, by go_num, ?_, ?_⟩
    ·have e1 : newsL cid ([kind] ++ putsL (ns.take (k + 1))) = newsL cid ([kind] ++ putsL (ns.take k)) ++ putL n := by
      rw [HT.out, putsL_snoc]
      simp [newsL]
     rw [e1, U8_append, List.length_append]
     exact H3.out.1
    ·exact HB.out.2.grown H3.out.2 HB.out.2.size (fun g hg => (HB.out.1.lt g hg).1)
   case measure => simp [intOf]; omega
  ·obtain rfl : k = ns.length := by omega
   rw [List.take_length] at ho
   have HO := hideIt (And.intro ho hb)
   clear ho hb
   go_wp2_with fail
   go_ret
   exact ⟨_, rfl, HO.out.1, HO.out.2⟩
theorem strOfNums_inj : ∀ {a b : List Int}, Bytes a -> Bytes b -> strOfNums a = strOfNums b -> a = b := by
 intro a b ha hb h
 have h1 : a.map (fun n => UInt8.ofNat n.toNat) = b.map (fun n => UInt8.ofNat n.toNat) := by
  have := congrArg (fun s => s.data.toList) h
  simpa [strOfNums_data] using this
 clear h
 induction a generalizing b with
 | nil => cases b with
  | nil => rfl
  | cons y r => simp at h1
 | cons x q ih => cases b with
  | nil => simp at h1
  | cons y r =>
   simp only [List.map_cons, List.cons.injEq] at h1
   have hx := ha x (by simp)
   have hy := hb y (by simp)
   have h2 := congrArg UInt8.toNat h1.1
   simp only [UInt8.toNat_ofNat'] at h2
   rw [ih (fun z hz => ha z (by simp [hz])) (fun z hz => hb z (by simp [hz])) h1.2]
   congr 1
   omega
theorem tokenL_bytes (k a t : Int) (a0 : 0 <= a) (a1 : a < 256) : Bytes (tokenL k a t) := by
 intro x hx
 rcases List.mem_append.1 hx with h | h
 ·rcases List.mem_cons.1 h with rfl | h
  ·exact ⟨a0, a1⟩
  ·exact fourL_bytes _ x h
 ·exact fourL_bytes _ x h
end Go.Proofs.YthmdjhlhodpbhaaGreatDoor
