/- Shuffled, 25 -/
import Derived.Test.YthmdjhlhodpbhaaGreatDoorS24
set_option maxHeartbeats 16000000
set_option maxRecDepth 8000
namespace Go.Proofs.YthmdjhlhodpbhaaGreatDoor
open Go.RowKit
theorem zip_erase : ∀ (ks : List Int) (bs : List Nat) (i : Nat) (k : Int), ks.Nodup -> ks.length = bs.length -> ks[i]? = some k -> (ks.eraseIdx i).zip (bs.eraseIdx i) = delK (ks.zip bs) k
 | [], _, _, _, _, _, h => by simp at h
 | _ :: _, [], _, _, _, h, _ => by simp at h
 | a :: ks, b :: bs, 0, k, hn, _, h => by
  simp only [List.getElem?_cons_zero, Option.some.injEq] at h
  subst h
  obtain ⟨h1, _⟩ := List.nodup_cons.1 hn
  simp only [List.eraseIdx_zero, List.tail_cons, List.zip_cons_cons, delK, List.filter_cons, beq_self_eq_true, Bool.not_true]
  rw [if_neg (by simp)]
  symm
  rw [List.filter_eq_self]
  rintro ⟨x, y⟩ hxy
  have hx : x ∈ ks := (List.of_mem_zip hxy).1
  have : x ≠ a := fun e => h1 (e ▸ hx)
  simp [this]
 | a :: ks, b :: bs, i + 1, k, hn, hl, h => by
  simp only [List.getElem?_cons_succ] at h
  obtain ⟨h1, h2⟩ := List.nodup_cons.1 hn
  have hk : a ≠ k := fun e => h1 (e ▸ List.mem_of_getElem? h)
  have ih := zip_erase ks bs i k h2 (by simpa using hl) h
  simp only [List.eraseIdx_cons_succ, List.zip_cons_cons, delK, List.filter_cons]
  rw [if_pos (by simp [hk]), ih]
  rfl
theorem map_erase {α β : Type} (f : α -> β) : ∀ (l : List α) (i : Nat), (l.eraseIdx i).map f = (l.map f).eraseIdx i
 | [], _ => rfl
 | _ :: _, 0 => rfl
 | a :: l, i + 1 => by simp [map_erase f l i]
theorem par_filter {R : Nat -> Int -> Prop} {p : Nat -> Bool} {q : Int -> Bool} : ∀ (ws : List Nat) (cs : List Int), ws.length = cs.length -> (∀ (j : Nat) b x, ws[j]? = some b -> cs[j]? = some x -> R b x /\ p b = q x) ->
  (ws.filter p).length = (cs.filter q).length /\ ∀ (j : Nat) b x, (ws.filter p)[j]? = some b -> (cs.filter q)[j]? = some x -> R b x
 | [], [], _, _ => by simp
 | [], _ :: _, h, _ => by simp at h
 | _ :: _, [], h, _ => by simp at h
 | b :: ws, x :: cs, hl, h => by
  obtain ⟨h1, h2⟩ := h 0 b x rfl rfl
  have ih := par_filter (R := R) (p := p) (q := q) ws cs (by simpa using hl) (fun j b' x' e1 e2 => h (j + 1) b' x' (by simpa using e1) (by simpa using e2))
  rw [List.filter_cons, List.filter_cons]
  cases hp : p b with
  | false =>
   rw [<- h2, hp, if_neg (by simp), if_neg (by simp)]
   exact ih
  | true =>
   rw [<- h2, hp, if_pos rfl, if_pos rfl]
   refine ⟨by simp [ih.1], fun j b' x' e1 e2 => ?_⟩
   cases j with
   | zero =>
    simp only [List.getElem?_cons_zero, Option.some.injEq] at e1 e2
    subst e1 e2
    exact h1
   | succ j => exact ih.2 j b' x' (by simpa using e1) (by simpa using e2)
def upTo (i j : Nat) : Nat := if j < i then j else j + 1
theorem erase_at {α : Type} (l : List α) (i j : Nat) : (l.eraseIdx i)[j]? = l[upTo i j]? := by
 rw [List.getElem?_eraseIdx]
 unfold upTo
 split <;> rfl
theorem upTo_ne (i j : Nat) : upTo i j ≠ i := by
 unfold upTo
 split <;> omega
theorem upTo_inj {i j k : Nat} (h : upTo i j = upTo i k) : j = k := by
 unfold upTo at h
 split at h <;> split at h <;> omega
theorem upTo_of {i k : Nat} (h : k ≠ i) : ∃ j, upTo i j = k := by
 rcases Nat.lt_or_ge k i with h1 | h1
 ·exact ⟨k, by unfold upTo; rw [if_pos h1]⟩
 ·exact ⟨k - 1, by unfold upTo; rw [if_neg (by omega)]; omega⟩
structure PBut (N : Nat) (w : World) (sb : Nat) (s : SrvS) (cm : Nat) (wv : Value) (cbs : List Nat) (xs : List ConX) (ws : List Nat) (i : Nat) (cb : Nat) (cid : Int) : Prop where
 blk : SBlk w sb s.c s.now cm wv
 map : ∃ n, n <= N /\ MapIs ptrC Tryz.prog 3 w cm n ((s.conns.map (·.cid)).zip cbs)
 len1 : cbs.length = s.conns.length
 len2 : xs.length = s.conns.length
 at1 : cbs[i]? = some cb
 at2 : ∃ c, s.conns[i]? = some c /\ c.cid = cid
 one : ∃ c plv sm dm past, ConBlk w cb s.c c plv sm dm past /\ c.cid = cid
 con : ∀ (j : Nat) c cb a, j ≠ i -> s.conns[j]? = some c -> cbs[j]? = some cb -> xs[j]? = some a -> ConAt N w cb s.c c a
 row : w.ownsRow 0 97 1 wv ws.length (ptrs ws)
 wait : ∃ cs, WaitIs s.conns cs /\ ws.length = cs.length /\ ∀ (j : Nat) b, ws[j]? = some b -> ∃ (i : Nat) (c : ConS), s.conns[i]? = some c /\ cbs[i]? = some b /\ cs[j]? = some c.cid
 apart : ∀ (i j : Nat) cb a cb' a', i ≠ j -> cbs[i]? = some cb -> xs[i]? = some a -> cbs[j]? = some cb' -> xs[j]? = some a' -> ∀ k, ConF cb a k -> ¬ ConF cb' a' k
 mne : ∀ (i : Nat) cb a, cbs[i]? = some cb -> xs[i]? = some a -> ¬ ConF cb a cm
theorem PSrv.but {N N' : Nat} {w w' : World} {sb : Nat} {s : SrvS} {cm : Nat} {wv : Value} {cbs : List Nat} {xs : List ConX} {ws : List Nat} {i : Nat} {c : ConS} {cb : Nat} {a : ConX} (h : PSrv N w sb s cm wv cbs xs ws) (hN : N <= N') (hi : s.conns[i]? = some c) (hcb : cbs[i]? = some cb) (ha : xs[i]? = some a)
  (hc : Chg (ConF cb a) w w') (hb : ∃ c2 plv sm dm past, ConBlk w' cb s.c c2 plv sm dm past /\ c2.cid = c.cid) : PBut N' w' sb s cm wv cbs xs ws i cb c.cid := by
 have hC := h.con i c cb a hi hcb ha
 obtain ⟨n, hn, hm⟩ := h.map
 have hsb : ¬ ConF cb a sb := ConF_type hC h.blk (by decide) (by decide) (by decide) (by decide)
 refine ⟨h.blk.chg hc hsb, ⟨n, Nat.le_trans hn hN, hm.same (hc.block cm hm.lt (h.mne i cb a hcb ha))⟩, h.len1, h.len2, hcb, ⟨c, hi, rfl⟩, hb, fun j d db b hji hj hdb hb' => ?_, own_chg h.row hc (fun k hk hF => ?_), h.wait, h.apart, h.mne⟩
 ·exact ((h.con j d db b hj hdb hb').chg hc (fun k hk => h.apart j i db b cb a hji hdb hb' hcb ha k hk) (fun k cur fr hk => ConF_not8 hC hk)).mono hN
 ·obtain ⟨c1, e1⟩ := own_blockN h.row hk
  exact ConF_type hC e1 (by decide) (by decide) (by decide) (by decide) hF
theorem PBut.isb {N : Nat} {w : World} {sb : Nat} {s : SrvS} {cm : Nat} {wv : Value} {cbs : List Nat} {xs : List ConX} {ws : List Nat} {i cb : Nat} {cid : Int} (h : PBut N w sb s cm wv cbs xs ws i cb cid) : IsConB w cb /\ ∀ b ∈ ws, IsConB w b := by
 obtain ⟨c1, plv, sm, dm, past, hone, _⟩ := h.one
 have h0 : IsConB w cb := ⟨_, hone⟩
 refine ⟨h0, fun b hb => ?_⟩
 obtain ⟨j, hj, e⟩ := List.getElem_of_mem hb
 obtain ⟨_, _, _, hw⟩ := h.wait
 obtain ⟨l, d, h1, h2, _⟩ := hw j b (by rw [List.getElem?_eq_getElem hj, e])
 by_cases hli : l = i
 ·subst hli
  rw [h.at1] at h2
  cases h2
  exact h0
 ·have hxl : l < xs.length := by rw [h.len2]; exact (List.getElem?_eq_some_iff.1 h1).1
  have := (h.con l d b _ hli h1 h2 (List.getElem?_eq_getElem hxl)).blk
  exact ⟨_, this⟩
theorem PBut.gone {N : Nat} {w w' : World} {sb : Nat} {s : SrvS} {cm : Nat} {wv wv' : Value} {cbs : List Nat} {xs : List ConX} {ws : List Nat} {i cb n : Nat} {cid : Int} (h : PBut N w sb s cm wv cbs xs ws i cb cid) (hnd : (s.conns.map (·.cid)).Nodup)
  (hc : Chg (fun k => k = sb \/ k = cm \/ wv.ownBlock = some k) w w') (hS : SBlk w' sb s.c s.now cm wv') (hn : n <= N) (hm : MapIs ptrC Tryz.prog 3 w' cm n (delK ((s.conns.map (·.cid)).zip cbs) cid))
  (ho : w'.ownsRow 0 97 1 wv' (ws.filter fun b => b != cb).length (ptrs (ws.filter fun b => b != cb))) :
  PSrv N w' sb { s with conns := s.conns.eraseIdx i } cm wv' (cbs.eraseIdx i) (xs.eraseIdx i) (ws.filter fun b => b != cb) := by
 obtain ⟨c, hi, hcid⟩ := h.at2
 have hil : i < s.conns.length := (List.getElem?_eq_some_iff.1 hi).1
 obtain ⟨cs, hw1, hw2, hw3⟩ := h.wait
 obtain ⟨n0, _, hm0⟩ := h.map
 have hinj : ∀ (j l : Nat) b, cbs[j]? = some b -> cbs[l]? = some b -> j = l := by
  intro j l b e1 e2
  by_cases hjl : j = l
  ·exact hjl
  ·have h1 : j < xs.length := by rw [h.len2, <- h.len1]; exact (List.getElem?_eq_some_iff.1 e1).1
   have h2 : l < xs.length := by rw [h.len2, <- h.len1]; exact (List.getElem?_eq_some_iff.1 e2).1
   exact absurd (Or.inl rfl) (h.apart j l b _ b _ hjl e1 (List.getElem?_eq_getElem h1) e2 (List.getElem?_eq_getElem h2) b (Or.inl rfl))
 have hpar := par_filter (R := fun b x => ∃ (l : Nat) (d : ConS), s.conns[l]? = some d /\ cbs[l]? = some b /\ d.cid = x) (p := fun b => b != cb) (q := fun x => x != c.cid) ws cs hw2 (fun j b x e1 e2 => by
  obtain ⟨l, d, h1, h2, h3⟩ := hw3 j b e1
  rw [h3] at e2
  cases e2
  refine ⟨⟨l, d, h1, h2, rfl⟩, ?_⟩
  by_cases hbc : b = cb
  ·subst hbc
   have := hinj l i b h2 h.at1
   subst this
   rw [hi] at h1
   cases h1
   simp
  ·have hdc : d.cid ≠ c.cid := by
    intro e
    have e3 : (s.conns.map (·.cid))[l]? = some d.cid := by simp [h1]
    have e4 : (s.conns.map (·.cid))[i]? = some d.cid := by simp [hi, e]
    have := (List.getElem?_inj (by simpa using (List.getElem?_eq_some_iff.1 h1).1) hnd).1 (e3.trans e4.symm)
    subst this
    rw [h.at1] at h2
    cases h2
    exact hbc rfl
   rw [bne_iff_ne.2 hbc, bne_iff_ne.2 hdc])
 refine ⟨hS, ⟨n, hn, ?_⟩, ?_, ?_, fun j d db b hj hdb hb => ?_, ho, ⟨cs.filter fun x => x != c.cid, hw1.erase hnd hi, hpar.1, fun j b hb => ?_⟩, fun j l cb1 a1 cb2 a2 hjl e1 e2 e3 e4 k => ?_, fun j db b hdb hb => ?_⟩
 ·have e1 : (s.conns.eraseIdx i).map (·.cid) = (s.conns.map (·.cid)).eraseIdx i := map_erase _ _ _
  show MapIs ptrC Tryz.prog 3 w' cm n (((s.conns.eraseIdx i).map (·.cid)).zip (cbs.eraseIdx i))
  rw [e1, zip_erase _ _ i cid hnd (by simp [h.len1]) (by simp [hi, hcid])]
  exact hm
 ·rw [List.length_eraseIdx, List.length_eraseIdx, h.len1]
 ·rw [List.length_eraseIdx, List.length_eraseIdx, h.len2]
 ·simp only [erase_at] at hj hdb hb
  have hD := h.con _ d db b (upTo_ne i j) hj hdb hb
  refine hD.chg hc (fun k hk => ?_) (fun k cur fr hk => ?_)
  ·rintro (e | e | e)
   ·subst e
    exact ConF_type hD h.blk (by decide) (by decide) (by decide) (by decide) hk
   ·subst e
    exact h.mne _ db b hdb hb hk
   ·obtain ⟨c1, e1⟩ := own_blockN h.row e
    exact ConF_type hD e1 (by decide) (by decide) (by decide) (by decide) hk
  ·rintro (e | e | e)
   ·subst e
    have h2 : w.heap[k]? = some (.cells (psrvC s.c s.now cm wv) 101 (0, 0)) := h.blk
    rw [h2] at hk
    simp only [Option.some.injEq, Obj.cells.injEq] at hk
    exact absurd hk.2.1 (by decide)
   ·subst e
    obtain ⟨es, ck, hb⟩ := hm0.is_map
    rw [hb] at hk
    cases hk
   ·exact own_not_blockN h.row hk (by decide) e
 ·have hbm : b ≠ cb := by
   have := (List.mem_filter.1 (List.mem_of_getElem? hb)).2
   simpa using this
  have hjl : j < (cs.filter fun x => x != c.cid).length := by rw [<- hpar.1]; exact (List.getElem?_eq_some_iff.1 hb).1
  obtain ⟨l, d, h1, h2, h3⟩ := hpar.2 j b _ hb (List.getElem?_eq_getElem hjl)
  have hli : l ≠ i := fun e => by
   subst e
   rw [h.at1] at h2
   cases h2
   exact hbm rfl
  obtain ⟨m, hm⟩ := upTo_of hli
  refine ⟨m, d, ?_, ?_, ?_⟩
  ·simp only [erase_at, hm, h1]
  ·simp only [erase_at, hm, h2]
  ·rw [List.getElem?_eq_getElem hjl, h3]
 ·rw [erase_at] at e1 e2 e3 e4
  exact h.apart _ _ cb1 a1 cb2 a2 (fun e => hjl (upTo_inj e)) e1 e2 e3 e4 k
 ·rw [erase_at] at hdb hb
  exact h.mne _ db b hdb hb
section
variable {α : Type} {C : MCode α} {P : Program} {K : TypeId}
theorem step_mdel {ops : Array Oper} {o : Oper} {a : Act} {w : World} {J : Act -> World -> Prop} {Q : Exit -> Act -> World -> Prop} {E : Prop}
  (hg : o.guard = none) (m x : Operand) (t : TypeId) (hop : o.op = Op.call { callee := Callee.builtin Builtin.delete, args := #[m, x], argTypes := #[t, K] }) (e : TypeId) (hK : P.underlying K = some (.int .i64)) (ht : P.underlying t = some (.map K e))
  (b n : Nat) (l : List (Int × α)) (hm : a.eval m = .map (some b)) (hown : MapIs C P K w b n l) (k : Int) (y : α) (hx : a.eval x = .int .i64 k) (hk : (Lit.int .i64 k).wf = true) (hy : atK l k = some y)
  (hGo : ∀ w', MapIs C P K w' b n (delK l k) -> w.grownBy w' (some b) -> w'.heap.size = w.heap.size -> J (a.put o.dst (.tuple #[])) w') :
  if Region.wanted o (yielded ops a.tmps) = true then Oper.wp P o a w J Q else E := by
 have hw : Region.wanted o (yielded ops a.tmps) = true := by simp [Region.wanted, hg]
 rw [if_pos hw]
 obtain ⟨D, hown, ok⟩ := hown
 obtain ⟨w', hr, h1, h2⟩ := hown.drop (Maps.int_keyed hK) ht (Maps.keyOf_int_mk hK hk) o.type
 unfold Oper.wp
 simp [execOp, hop, resolve, invoke, builtin, hm, hx, hr, Result.andThen]
 refine hGo w' ⟨_, h1, ok.del (hown.tidy (Maps.int_keyed hK)) hy⟩ h2.grown ?_
 obtain ⟨es, clock, es', clock', hb, rfl⟩ := h2
 simp [ChangeMaps.setBlock]
end
structure DropOut (N : Nat) (w : World) (sb : Nat) (s : SrvS) (cm : Nat) (wv : Value) (cbs : List Nat) (xs : List ConX) (ws : List Nat) (e : Ending) (w' : World) : Prop where
 ret : e = .returned (.tuple #[])
 ex : ∃ wv', PSrv N w' sb s cm wv' cbs xs ws /\ (wv'.ownBlock = wv.ownBlock \/ ∀ k, wv'.ownBlock = some k -> w.heap.size <= k)
 chg : Chg (fun k => k = sb \/ k = cm \/ wv.ownBlock = some k) w w'
set_option maxRecDepth 4000 in
theorem sdrop_any (N sb : Nat) (s : SrvS) (cm : Nat) (wv : Value) (cbs : List Nat) (xs : List ConX) (ws : List Nat) (i cb : Nat) (cid : Int) (w : World) (h : PBut N w sb s cm wv cbs xs ws i cb cid) (hnd : (s.conns.map (·.cid)).Nodup) (hn : ws.length <= 1000) (hcid : -9223372036854775808 <= cid /\ cid <= 9223372036854775807) :
  Calls Tryz.prog 54 #[.pointer (some ⟨sb, 0, none⟩), .pointer (some ⟨cb, 0, none⟩)] w fun e w' => DropOut N w sb { s with conns := s.conns.eraseIdx i } cm wv (cbs.eraseIdx i) (xs.eraseIdx i) (ws.filter fun b => b != cb) e w' := by
 obtain ⟨n, hnN, hm⟩ := h.map
 obtain ⟨c1, plv, sm, dm, past, hone, hoc⟩ := h.one
 obtain ⟨c, hi, hcc⟩ := h.at2
 have HCid := hideIt (fun W (hW : W.heap = w.heap) => cCid_any cb s.c c1 plv sm dm past W (by unfold ConBlk at hone ⊢; rw [hW]; exact hone))
 rw [hoc] at HCid
 have d11 : w.cell? ⟨sb, 11, none⟩ = some (.map (some cm)) := h.blk.cell 11
 have hat : atK ((s.conns.map (·.cid)).zip cbs) cid = some cb := by
  refine atK_mem (by rw [List.map_fst_zip (by simp [h.len1])]; exact hnd) (List.mem_of_getElem? (i := i) ?_)
  rw [List.getElem?_zip_eq_some]
  exact ⟨by simp [hi, hcc], h.at1⟩
 have HM : Hid (∀ W : World, W.heap = w.heap -> MapIs ptrC Tryz.prog 3 W cm n ((s.conns.map (·.cid)).zip cbs)) := fun W hW => hm.same (by rw [hW])
 have HWf := hideIt (wf_key hcid)
 have HAt := hideIt hat
 have hisb := h.isb
 have hmne : cm ≠ sb := fun e => by
  obtain ⟨es, ck, hb⟩ := hm.is_map
  have h2 : w.heap[sb]? = some (.cells (psrvC s.c s.now cm wv) 101 (0, 0)) := h.blk
  rw [<- e, hb] at h2
  cases h2
 have hmrow : wv.ownBlock ≠ some cm := fun e => by
  obtain ⟨es, ck, hb⟩ := hm.is_map
  obtain ⟨c2, e2⟩ := own_blockN h.row e
  rw [hb] at e2
  cases e2
 have HEnd : Hid (∀ w1 : World, MapIs ptrC Tryz.prog 3 w1 cm n (delK ((s.conns.map (·.cid)).zip cbs) cid) -> Chg (fun k => k = cm) w w1 -> Calls Tryz.prog 50 #[.pointer (some ⟨sb, 0, none⟩), .pointer (some ⟨cb, 0, none⟩)] w1 fun e w' => DropOut N w sb { s with conns := s.conns.eraseIdx i } cm wv (cbs.eraseIdx i) (xs.eraseIdx i) (ws.filter fun b => b != cb) e w') := by
  intro w1 hm1 hc1
  have hcb : ∀ b, IsConB w b -> IsConB w1 b := by
   rintro b ⟨cs, hb⟩
   refine ⟨cs, ?_⟩
   rw [hc1.block b (Array.getElem?_eq_some_iff.1 hb).1 (fun e => ?_)]
   ·exact hb
   ·obtain ⟨es, ck, h2⟩ := hm.is_map
    rw [e, h2] at hb
    cases hb
  refine (swaitNoMore_any sb s.c s.now cm wv ws cb w1 (h.blk.chg hc1 (fun e => hmne e.symm)) (own_chg h.row hc1 (fun k hk e => hmrow (e ▸ hk))) hn (fun b hb => hcb b (hisb.2 b hb)) (hcb cb hisb.1)).mono ?_
  rintro e w2 ⟨rfl, ⟨wv', hS2, ho2, hat2⟩, hc2⟩
  have hc3 : Chg (fun k => k = sb \/ k = cm \/ wv.ownBlock = some k) w w2 := (hc1.mono fun k _ e => Or.inr (Or.inl e)).trans (hc2.mono fun k _ e => e.elim Or.inl (fun e => Or.inr (Or.inr e)))
  refine ⟨rfl, ⟨wv', h.gone hnd hc3 hS2 hnN ?_ ho2, ?_⟩, hc3⟩
  ·refine hm1.same (hc2.block cm hm1.lt ?_)
   rintro (e | e)
   ·exact hmne e
   ·exact hmrow e
  ·rcases hat2 with e | e
   ·exact Or.inl e
   ·exact Or.inr fun k hk => Nat.le_trans hc1.size (e k hk)
 have HChg : Hid (∀ w1 : World, w.drew.grownBy w1 (some cm) -> Chg (fun k => k = cm) w w1 /\ w1.cell? ⟨sb, 11, none⟩ = some (.map (some cm))) := by
  intro w1 hg
  have hc : Chg (fun k => k = cm) w w1 := ⟨hg.os, hg.tape, hg.output, hg.size, fun k hk hne => hg.block k hk (fun e => hne (Option.some.inj e))⟩
  exact ⟨hc, (h.blk.chg hc (fun e => hmne e.symm)).cell 11⟩
 generalize ({ s with conns := s.conns.eraseIdx i } : SrvS) = s' at HEnd ⊢
 generalize cbs.eraseIdx i = cbs' at HEnd ⊢
 generalize xs.eraseIdx i = xs' at HEnd ⊢
 generalize ws.filter (fun b => b != cb) = ws' at HEnd ⊢
 generalize (s.conns.map (·.cid)).zip cbs = L at HEnd HM HAt
 clear h hm hone hoc hi hcc hat hisb hmne hmrow hnd hn hcid hnN
 go_enter Tryz.func54, Tryz.ntmps54
 go_wp2_with fail
 go_region_held3 (fun w' => w'.cell? ⟨sb, 11, none⟩ = some (.map (some cm))) (first | assumption | go_keep) (first
  | (go_at_call 51; refine (HCid.out w.drew rfl).mono ?_; rintro e w1 ⟨rfl, rfl⟩)
  | (refine step_mdel (C := ptrC) rfl (.tmp 7) (.tmp 9) 98 rfl 97 Tryz.underlying3 Tryz.underlying98 cm n L (by kernel_rfl) (HM.out w.drew rfl) cid cb (by kernel_rfl) HWf.out HAt.out ?_; intro w1 hm1 hg1 _; have hk1 := (HChg.out w1 hg1).2))
 have HC1 := HEnd.out w1 hm1 (HChg.out w1 hg1).1
 replace HC1 := hideIt HC1
 clear hm1 hg1 hk1 HChg HEnd HM HAt HWf HCid d11
 go_wp2_with fail
 refine HC1.out.mono ?_
 intro e w2 h2
 have h3 := h2.ret
 subst h3
 replace h2 := hideIt h2
 clear HC1
 go_wp2_with fail
 go_end0
 exact h2.out
theorem OutsAt.chg {F : Nat -> Prop} {w w' : World} {base : Nat} {v : Value} {outs : List (Int × List Int)} (h : OutsAt w base v outs) (hc : Chg F w w') (h1 : ∀ k cur fr, w.heap[k]? = some (.cells cur 60 fr) -> ¬ F k) (h2 : ∀ k cur fr, w.heap[k]? = some (.cells cur 5 fr) -> ¬ F k) : OutsAt w' base v outs := by
 obtain ⟨out, ho, hb⟩ := h
 refine ⟨out, own_chg ho hc (fun g hg => ?_), hb.chg hc h2⟩
 obtain ⟨cs, e⟩ := own_blockN ho hg
 exact h1 g cs _ e
theorem ConAt.waits {N : Nat} {w : World} {cb : Nat} {g : Cfg} {c : ConS} {a : ConX} (h : ConAt N w cb g c a) (x : Int) : ConAt N w cb g { c with waits := x } a := ⟨h.blk, h.pk, h.smap, h.dmap, h.mp, h.str, h.don, h.ne, h.apart, h.ul⟩
theorem PSrv.last {N : Nat} {w : World} {sb : Nat} {s : SrvS} {cm : Nat} {wv : Value} {cbs : List Nat} {xs : List ConX} {ws : List Nat} (h : PSrv N w sb s cm wv cbs xs ws) (x : Int) : PSrv N w sb { s with last := x } cm wv cbs xs ws := ⟨h.blk, h.map, h.len1, h.len2, h.con, h.row, h.wait, h.apart, h.mne⟩
theorem PSrv.mono {N N' : Nat} {w : World} {sb : Nat} {s : SrvS} {cm : Nat} {wv : Value} {cbs : List Nat} {xs : List ConX} {ws : List Nat} (h : PSrv N w sb s cm wv cbs xs ws) (hN : N <= N') : PSrv N' w sb s cm wv cbs xs ws := by
 obtain ⟨n, hn, hm⟩ := h.map
 exact ⟨h.blk, ⟨n, Nat.le_trans hn hN, hm⟩, h.len1, h.len2, fun i c cb a h1 h2 h3 => (h.con i c cb a h1 h2 h3).mono hN, h.row, h.wait, h.apart, h.mne⟩
def OwnF (sb cm : Nat) (wv : Value) (k : Nat) : Prop := k = sb \/ k = cm \/ wv.ownBlock = some k
theorem OwnF_not {N : Nat} {w : World} {sb : Nat} {s : SrvS} {cm : Nat} {wv : Value} {cbs : List Nat} {xs : List ConX} {ws : List Nat} (h : PSrv N w sb s cm wv cbs xs ws) {k : Nat} {cur : Array Value} {e : TypeId} {fr : Nat × Nat} (hk : w.heap[k]? = some (.cells cur e fr)) (h1 : e ≠ 101) (h2 : e ≠ 97) : ¬ OwnF sb cm wv k := by
 obtain ⟨n0, _, hm0⟩ := h.map
 rintro (e' | e' | e')
 ·subst e'
  have h3 : w.heap[k]? = some (.cells (psrvC s.c s.now cm wv) 101 (0, 0)) := h.blk
  rw [h3] at hk
  simp only [Option.some.injEq, Obj.cells.injEq] at hk
  exact h1 hk.2.1.symm
 ·subst e'
  obtain ⟨es, ck, hb⟩ := hm0.is_map
  rw [hb] at hk
  cases hk
 ·exact own_not_blockN h.row hk (fun e => h2 e.symm) e'
theorem PSrv.cons {N : Nat} {w w' : World} {sb : Nat} {s : SrvS} {cm : Nat} {wv : Value} {cbs : List Nat} {xs : List ConX} {ws : List Nat} (h : PSrv N w sb s cm wv cbs xs ws) (hc : Chg (OwnF sb cm wv) w w') {i : Nat} {c : ConS} {cb : Nat} {a : ConX} (hi : s.conns[i]? = some c) (hcb : cbs[i]? = some cb) (ha : xs[i]? = some a) : ConAt N w' cb s.c c a := by
 have hD := h.con i c cb a hi hcb ha
 refine hD.chg hc (fun k hk => ?_) (fun k cur fr hk => OwnF_not h hk (by decide) (by decide))
 rintro (e | e | e)
 ·subst e
  exact ConF_type hD h.blk (by decide) (by decide) (by decide) (by decide) hk
 ·subst e
  exact h.mne i cb a hcb ha hk
 ·obtain ⟨c1, e1⟩ := own_blockN h.row e
  exact ConF_type hD e1 (by decide) (by decide) (by decide) (by decide) hk
theorem PSrv.wlen {N : Nat} {w : World} {sb : Nat} {s : SrvS} {cm : Nat} {wv : Value} {cbs : List Nat} {xs : List ConX} {ws : List Nat} (h : PSrv N w sb s cm wv cbs xs ws) : ws.length <= s.conns.length := by
 obtain ⟨cs, ⟨ks, h1, _, h3⟩, h4, _⟩ := h.wait
 rw [h4, h3, List.length_map, h1.length_eq]
 unfold waitK
 rw [List.length_map]
 exact List.length_filter_le _ _
theorem PSrv.more {N : Nat} {w w' : World} {sb : Nat} {s : SrvS} {cm : Nat} {wv wv' : Value} {cbs : List Nat} {xs : List ConX} {ws : List Nat} {i : Nat} {c : ConS} {cb : Nat} {lw : Int} (h : PSrv N w sb s cm wv cbs xs ws) (hi : s.conns[i]? = some c) (hcb : cbs[i]? = some cb) (h0 : c.waits <= 0) (hl : ∀ d ∈ s.conns, d.waits < lw) (hlw : 0 < lw)
  (hS : SBlk w' sb s.c s.now cm wv') (ho : w'.ownsRow 0 97 1 wv' (ws ++ [cb]).length (ptrs (ws ++ [cb]))) (hc : Chg (fun k => k = sb \/ wv.ownBlock = some k) w w') :
  PSrv N w' sb { s with conns := s.conns.set i { c with waits := lw } } cm wv' cbs xs (ws ++ [cb]) := by
 obtain ⟨n, hn, hm⟩ := h.map
 have hcO : Chg (OwnF sb cm wv) w w' := hc.mono fun k _ e => e.elim Or.inl (fun e => Or.inr (Or.inr e))
 obtain ⟨cs, hw1, hw2, hw3⟩ := h.wait
 have hids : ({ s with conns := s.conns.set i { c with waits := lw } } : SrvS).conns.map (·.cid) = s.conns.map (·.cid) := map_set_cid hi rfl
 refine ⟨hS, ⟨n, hn, ?_⟩, by simp [h.len1], by simp [h.len2], fun j d db b hj hdb hb => ?_, ho, ⟨cs ++ [c.cid], hw1.more (waitK_set_more (c' := { c with waits := lw }) hi h0 rfl hlw) hl, by simp [hw2], fun j b hb => ?_⟩, h.apart, h.mne⟩
 ·rw [hids]
  refine hm.same (hc.block cm hm.lt ?_)
  obtain ⟨es, ck, hb⟩ := hm.is_map
  rintro (e | e)
  ·have h3 : w.heap[sb]? = some (.cells (psrvC s.c s.now cm wv) 101 (0, 0)) := h.blk
   rw [<- e, hb] at h3
   cases h3
  ·obtain ⟨c2, e2⟩ := own_blockN h.row e
   rw [hb] at e2
   cases e2
 ·by_cases hji : j = i
  ·subst hji
   simp only at hj
   rw [getElem?_set_at hi] at hj
   cases hj
   exact (h.cons hcO hi hdb hb).waits _
  ·simp only at hj
   rw [getElem?_set_other hji] at hj
   exact h.cons hcO hj hdb hb
 ·rcases Nat.lt_or_ge j ws.length with hj | hj
  ·rw [List.getElem?_append_left hj] at hb
   obtain ⟨l, d, h1, h2, h3⟩ := hw3 j b hb
   have hcl : (cs ++ [c.cid])[j]? = cs[j]? := List.getElem?_append_left (by rw [<- hw2]; exact hj)
   by_cases hli : l = i
   ·subst hli
    rw [hi] at h1
    cases h1
    exact ⟨l, _, getElem?_set_at hi, h2, by rw [hcl]; exact h3⟩
   ·exact ⟨l, d, by simp only; rw [getElem?_set_other hli]; exact h1, h2, by rw [hcl]; exact h3⟩
  ·have hj2 : j = ws.length := by
    have := (List.getElem?_eq_some_iff.1 hb).1
    simp at this
    omega
   subst hj2
   rw [List.getElem?_append_right (Nat.le_refl _)] at hb
   simp at hb
   subst hb
   exact ⟨i, _, getElem?_set_at hi, hcb, by rw [hw2, List.getElem?_append_right (Nat.le_refl _)]; simp⟩
theorem SrvF_erase {sb cm : Nat} {wv wv' : Value} {cbs : List Nat} {xs : List ConX} {i B : Nat} (hwv : wv'.ownBlock = wv.ownBlock \/ ∀ k, wv'.ownBlock = some k -> B <= k) : ∀ k, SrvF sb cm wv' (cbs.eraseIdx i) (xs.eraseIdx i) k -> SrvF sb cm wv cbs xs k \/ B <= k := by
 rintro k (e | e | e | ⟨j, db, b, e1, e2, e3⟩)
 ·exact Or.inl (Or.inl e)
 ·exact Or.inl (Or.inr (Or.inl e))
 ·rcases hwv with h | h
  ·rw [h] at e
   exact Or.inl (Or.inr (Or.inr (Or.inl e)))
  ·exact Or.inr (h k e)
 ·rw [erase_at] at e1 e2
  exact Or.inl (SrvF_con e1 e2 e3)
theorem SrvF_wv {sb cm : Nat} {wv wv' : Value} {cbs : List Nat} {xs : List ConX} {B : Nat} (hwv : wv'.ownBlock = wv.ownBlock \/ ∀ k, wv'.ownBlock = some k -> B <= k) : ∀ k, SrvF sb cm wv' cbs xs k -> SrvF sb cm wv cbs xs k \/ B <= k := by
 rintro k (e | e | e | e)
 ·exact Or.inl (Or.inl e)
 ·exact Or.inl (Or.inr (Or.inl e))
 ·rcases hwv with h | h
  ·rw [h] at e
   exact Or.inl (Or.inr (Or.inr (Or.inl e)))
  ·exact Or.inr (h k e)
 ·exact Or.inl (Or.inr (Or.inr (Or.inr e)))
theorem SrvF_own {sb cm : Nat} {wv : Value} {cbs : List Nat} {xs : List ConX} {k : Nat} (h : OwnF sb cm wv k) : SrvF sb cm wv cbs xs k := h.elim Or.inl (fun h => h.elim (fun h => Or.inr (Or.inl h)) (fun h => Or.inr (Or.inr (Or.inl h))))
theorem conS_gone {s : SrvS} {i : Nat} {c : ConS} {R : ConR} (hg : R.gone = true) : conS s i c R = { ({ s with conns := s.conns.eraseIdx i } : SrvS) with last := if R.con.proven = true /\ c.proven = false then s.last + 1 else s.last } := by simp [conS, hg]
theorem conS_same {s : SrvS} {i : Nat} {c : ConS} {R : ConR} (hg : R.gone = false) (hp : R.con.proven = c.proven) : conS s i c R = { s with conns := s.conns.set i R.con } := by
 have : ¬ (R.con.proven = true /\ c.proven = false) := by rw [hp]; rintro ⟨e1, e2⟩; rw [e1] at e2; cases e2
 unfold conS
 rw [if_neg this, hg]
 simp
theorem conS_new {s : SrvS} {i : Nat} {c : ConS} {R : ConR} {x : Int} (hg : R.gone = false) (hp : R.con.proven = true) (hp0 : c.proven = false) (hw : R.con.waits = s.last + 1) : conS s i c R = { ({ s with conns := (s.conns.set i { R.con with waits := x }).set i { R.con with waits := s.last + 1 } } : SrvS) with last := s.last + 1 } := by
 have h1 : s.conns.set i R.con = (s.conns.set i { R.con with waits := x }).set i { R.con with waits := s.last + 1 } := by rw [List.set_set, <- hw]
 rw [<- h1]
 simp [conS, hg, hp, hp0]
theorem conFrames_calm {g : Cfg} {lw : Int} : ∀ (n : Nat) {c : ConS} {b : List Int}, (conFrames g lw c b n).gone = false -> closedO (conFrames g lw c b n) [] = []
 | 0, c, b, _ => rfl
 | n + 1, c, b, h => by
  unfold conFrames at h ⊢
  split at h
  ·next h1 => rw [if_pos h1]; rfl
  ·next h1 =>
   rw [if_neg h1]
   split at h
   ·cases h
   ·next f size hf =>
    split at h
    ·cases h
    ·next h2 =>
     rw [if_neg h2]
     split at h
     ·cases h
     ·next h3 =>
      rw [if_neg h3]
      exact conFrames_calm n h
theorem sdeal_any (N sb : Nat) (s : SrvS) (cm : Nat) (wv : Value) (cbs : List Nat) (xs : List ConX) (ws : List Nat) (i cb : Nat) (c : ConS) (a : ConX) (b : List Int) (n : Nat) (bv : Value) (w : World) (h : PSrv N w sb s cm wv cbs xs ws) (hi : s.conns[i]? = some c) (hcb : cbs[i]? = some cb) (ha : xs[i]? = some a) {M L : Int} (hI : SrvInv M L s) (hM : M <= 1125899906842624)
  (hbv : RdB w bv b) (hby : Bytes b) (hl : b.length <= 1073741823) (hn : b.length <= n) (hN : N + b.length < 1125899906842624) (hE : ∀ W, Chg (ConF cb a) w W -> Env W) :
  Calls Tryz.prog 98 #[.pointer (some ⟨sb, 0, none⟩), .pointer (some ⟨cb, 0, none⟩), bv] w fun e w' => SOut (N + b.length) w sb cm wv cbs xs (framesS s i b [] n) e w' := by
 have hC := h.con i c cb a hi hcb ha
 have hmem := List.mem_of_getElem? hi
 have hok := hI.ok c hmem
 have hcinv := hI.inv c hmem
 have hc4 := hI.cfg.c4
 have hK := conFrames_keep (M := M) (lw := s.last + 1) (by omega : 0 <= s.c.c4) n hok hcinv hby
 have HP := hideIt (cProven_any cb s.c c _ _ _ _ w hC.blk)
 have HD := hideIt (cDeal_any N cb s.c c a (s.last + 1) b n bv w hC hcinv hI.cfg hok hM hbv hl hn hN hE)
 have hw1000 : ws.length <= 1000 := by
  have h1 := h.wlen
  have h2 := hI.few
  have h3 := hI.cfg.c0
  omega
 rw [frames_con n b [] hi]
 have hcalm := conFrames_calm (g := s.c) (lw := s.last + 1) (c := c) (b := b) n
 generalize conFrames s.c (s.last + 1) c b n = R at HD hK hcalm ⊢
 have hcid : -9223372036854775808 <= c.cid /\ c.cid <= 9223372036854775807 := by have := hok.cid; omega
 have hsrv : ∀ w1, Chg (ConF cb a) w w1 -> Chg (SrvF sb cm wv cbs xs) w w1 := fun w1 hc => hc.mono fun k _ hk => SrvF_con hcb ha hk
 have HG : Hid (R.gone = true -> ∀ (w1 : World) (sv : Value), OutsAt w1 w.heap.size sv (closedO R []) -> Chg (ConF cb a) w w1 -> (∃ c2 plv sm dm past, ConBlk w1 cb s.c c2 plv sm dm past /\ c2.cid = c.cid) -> Calls Tryz.prog 54 #[.pointer (some ⟨sb, 0, none⟩), .pointer (some ⟨cb, 0, none⟩)] w1 fun e w2 => e = .returned (.tuple #[]) /\ SOut (N + b.length) w sb cm wv cbs xs (conS s i c R, closedO R []) (.returned sv) w2) := by
  intro hg w1 sv ho hc hb
  have hB := h.but (Nat.le_add_right N b.length) hi hcb ha hc hb
  have hP1 : PSrv N w sb s cm wv cbs xs ws := h
  refine (sdrop_any _ sb s cm wv cbs xs ws i cb c.cid w1 hB hI.nd hw1000 hcid).mono ?_
  rintro e w2 ⟨rfl, ⟨wv', hS2, hat⟩, hc2⟩
  have hO2 : OutsAt w2 w.heap.size sv (closedO R []) := by
   refine ho.chg hc2 (fun k cur fr hk => ?_) (fun k cur fr hk => ?_)
   ·rintro (e | e | e)
    ·subst e
     have h3 : w1.heap[k]? = some (.cells (psrvC s.c s.now cm wv) 101 (0, 0)) := hB.blk
     rw [h3] at hk
     simp only [Option.some.injEq, Obj.cells.injEq] at hk
     exact absurd hk.2.1 (by decide)
    ·subst e
     obtain ⟨n0, _, hm0⟩ := hB.map
     obtain ⟨es, ck, hb⟩ := hm0.is_map
     rw [hb] at hk
     cases hk
    ·exact own_not_blockN hB.row hk (by decide) e
   ·rintro (e | e | e)
    ·subst e
     have h3 : w1.heap[k]? = some (.cells (psrvC s.c s.now cm wv) 101 (0, 0)) := hB.blk
     rw [h3] at hk
     simp only [Option.some.injEq, Obj.cells.injEq] at hk
     exact absurd hk.2.1 (by decide)
    ·subst e
     obtain ⟨n0, _, hm0⟩ := hB.map
     obtain ⟨es, ck, hb⟩ := hm0.is_map
     rw [hb] at hk
     cases hk
    ·exact own_not_blockN hB.row hk (by decide) e
  refine ⟨rfl, SOut.mk1 (cbs' := cbs.eraseIdx i) (xs' := xs.eraseIdx i) (ws' := ws.filter fun b => b != cb) hP1 hO2 ?_ (SrvF_erase (hat.imp id fun h k hk => Nat.le_trans hc.size (h k hk))) SrvU_erase ((hsrv w1 hc).trans (hc2.mono fun k _ hk => SrvF_own hk))⟩
  show PSrv _ _ _ (conS s i c R) _ _ _ _ _
  rw [conS_gone hg]
  exact hS2.last _
 have HS : Hid (R.gone = false -> R.con.proven = c.proven -> ∀ (w1 : World) (sv : Value) (a' : ConX), OutsAt w1 w.heap.size sv (closedO R []) -> Chg (ConF cb a) w w1 -> ConAt (N + b.length) w1 cb s.c R.con a' -> (∀ k, ConF cb a' k -> ConF cb a k \/ w.heap.size <= k) -> UIn w.heap.size a a' -> SOut (N + b.length) w sb cm wv cbs xs (conS s i c R, closedO R []) (.returned sv) w1) := by
  intro hg hp w1 sv a' ho hc hA hin hun
  refine SOut.mk0 (ws' := ws) ho (hcalm hg) ?_ (SrvF_set hcb ha hin) (SrvU_set ha hun) (hsrv w1 hc)
  show PSrv _ _ _ (conS s i c R) _ _ _ _ _
  rw [conS_same hg hp]
  exact h.step (Nat.le_add_right _ _) hi hcb ha hc hA hin hK.cid (hK.same hp)
 have HW : Hid (R.gone = false -> R.con.proven = true -> c.proven = false -> ∀ (w1 : World) (sv : Value) (a' : ConX), OutsAt w1 w.heap.size sv (closedO R []) -> Chg (ConF cb a) w w1 -> ConAt (N + b.length) w1 cb s.c R.con a' -> (∀ k, ConF cb a' k -> ConF cb a k \/ w.heap.size <= k) -> UIn w.heap.size a a' -> Calls Tryz.prog 146 #[.pointer (some ⟨sb, 0, none⟩), .pointer (some ⟨cb, 0, none⟩)] w1 fun e w2 => e = .returned (.tuple #[]) /\ SOut (N + b.length) w sb cm wv cbs xs (conS s i c R, closedO R []) (.returned sv) w2) := by
  intro hg hp hp0 w1 sv a' ho hc hA hin hun
  have hP1 := h.step (c' := { R.con with waits := c.waits }) (Nat.le_add_right _ _) hi hcb ha hc (hA.waits _) hin hK.cid rfl
  have hcw := hI.waits c hmem
  have hlw : R.con.waits = s.last + 1 := hK.new hp0 hp
  refine (swait_any sb s.c s.now cm wv ws cb w1 hP1.blk hP1.row hw1000).mono ?_
  rintro e w2 ⟨rfl, ⟨wv', hS2, ho2, hat⟩, hc2⟩
  have hi1 : ({ s with conns := s.conns.set i { R.con with waits := c.waits } } : SrvS).conns[i]? = some { R.con with waits := c.waits } := getElem?_set_at hi
  have hP2 := hP1.more (lw := s.last + 1) hi1 hcb (by have := hcw.2.2 hp0; show c.waits <= 0; omega) (fun d hd => by
   rcases List.mem_or_eq_of_mem_set hd with h1 | h1
   ·have := hI.waits d h1; omega
   ·rw [h1]; show c.waits < _; omega) (by have := hI.last; omega) hS2 ho2 hc2
  have hcO : Chg (OwnF sb cm wv) w1 w2 := hc2.mono fun k _ e => e.elim Or.inl (fun e => Or.inr (Or.inr e))
  refine ⟨rfl, SOut.mk0 (wv' := wv') (cbs' := cbs) (ws' := ws ++ [cb]) (ho.chg hcO (fun k cur fr hk => OwnF_not hP1 hk (by decide) (by decide)) (fun k cur fr hk => OwnF_not hP1 hk (by decide) (by decide))) (hcalm hg) ?_ (fun k hk => ?_) (SrvU_set ha hun) ((hsrv w1 hc).trans (hcO.mono fun k _ hk => SrvF_own hk))⟩
  ·show PSrv _ _ _ (conS s i c R) _ _ _ _ _
   rw [conS_new (x := c.waits) hg hp hp0 hlw]
   exact hP2.last _
  ·rcases SrvF_wv (hat.imp id fun h k hk => Nat.le_trans hc.size (h k hk)) k hk with h1 | h1
   ·exact SrvF_set hcb ha hin k h1
   ·exact Or.inr h1
 have HKp := hideIt hK
 obtain ⟨_, _, ba, bc, rfl, _⟩ := id hbv
 generalize (conS s i c R, closedO R []) = RES at HG HS HW ⊢
 generalize N + b.length = NN at HD HG HS HW ⊢
 clear hK h hi hcb ha hI hbv hby hE hC hmem hok hcinv hc4 hw1000 hcid hsrv hM hl hn hN
 go_enter Tryz.func98, Tryz.ntmps98
 go_wp2_with fail
 refine HP.out.mono ?_
 rintro e w1 ⟨rfl, rfl⟩
 clear HP
 go_wp2_with fail
 refine HD.out.mono ?_
 rintro e w1 ⟨⟨sv, rfl, ho⟩, hc1, hcon, hblk⟩
 obtain ⟨sa, scap, rfl⟩ := ho.form
 replace ho := hideIt ho
 replace hc1 := hideIt hc1
 replace hcon := hideIt hcon
 replace hblk := hideIt hblk
 clear HD
 generalize (closedO R []).length = sl at ho
 cases hg : R.gone with
 | true =>
  have HG1 := hideIt (HG.out hg w1 _ ho.out hc1.out hblk.out)
  clear HG HS HW ho hc1 hcon hblk
  go_wp2_with fail
  refine HG1.out.mono ?_
  rintro e w2 ⟨rfl, hS⟩
  replace hS := hideIt hS
  clear HG1
  go_wp2_with fail
  go_ret
  exact hS.out
 | false =>
  obtain ⟨a', hA, hin, hun⟩ := hcon.out hg
  have HP1 := hideIt (cProven_any cb s.c R.con _ _ _ _ w1 hA.blk)
  have HA := hideIt hA
  have HIn := hideIt hin
  have HUn := hideIt hun
  clear HG hcon hblk hA hin hun
  cases hp : R.con.proven with
  | false =>
   have hp0 : c.proven = false := by
    cases hc : c.proven with
    | false => rfl
    | true => have := HKp.out.stay hc; rw [hp] at this; cases this
   have HF := hideIt (HS.out hg (by rw [hp, hp0]) w1 _ a' ho.out hc1.out HA.out HIn.out HUn.out)
   rw [hp] at HP1
   clear HS HW ho hc1 HA HIn HKp
   go_wp2_with fail
   refine HP1.out.mono ?_
   rintro e w2 ⟨rfl, rfl⟩
   clear HP1
   go_wp2_with fail
   go_ret
   exact HF.out
  | true =>
   rw [hp] at HP1
   cases hp0 : c.proven with
   | true =>
    have HF := hideIt (HS.out hg (by rw [hp, hp0]) w1 _ a' ho.out hc1.out HA.out HIn.out HUn.out)
    clear HS HW ho hc1 HA HIn HKp
    go_wp2_with fail
    refine HP1.out.mono ?_
    rintro e w2 ⟨rfl, rfl⟩
    clear HP1
    go_wp2_with fail
    go_ret
    exact HF.out
   | false =>
    have HF := hideIt (HW.out hg hp hp0 w1 _ a' ho.out hc1.out HA.out HIn.out HUn.out)
    clear HS HW ho hc1 HA HIn HKp
    go_wp2_with fail
    refine HP1.out.mono ?_
    rintro e w2 ⟨rfl, rfl⟩
    clear HP1
    go_wp2_with fail
    refine HF.out.mono ?_
    rintro e w2 ⟨rfl, hS⟩
    replace hS := hideIt hS
    clear HF
    go_wp2_with fail
    go_ret
    exact hS.out
end Go.Proofs.YthmdjhlhodpbhaaGreatDoor
