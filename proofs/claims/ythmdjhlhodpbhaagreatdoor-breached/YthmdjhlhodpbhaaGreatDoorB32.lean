/- Breached, part 32 -/
import Derived.Test.YthmdjhlhodpbhaaGreatDoorB30
import Derived.Test.YthmdjhlhodpbhaaGreatDoorB31
namespace Go.Proofs.YthmdjhlhodpbhaaGreatDoor
open Go.RowKit
theorem receive_none {s : SrvS} {addr : Int} {b : List Int} (h : dgramS b = none \/ ¬ (0 <= addr /\ addr <= 255)) : receiveS s addr b = (s, []) := by
  unfold receiveS
  by_cases ha : 0 <= addr /\ addr <= 255
  · rw [if_neg (by simp [ha])]
    rcases h with h | h
    · rw [h]
    · exact absurd ha h
  · rw [if_pos ha]
theorem receive_hello {s : SrvS} {addr : Int} {b : List Int} {d : DgS} (h : dgramS b = some d) (ha : 0 <= addr /\ addr <= 255) (hk : d.kind = 1) : receiveS s addr b = helloS s addr d.cid b.length d.tok d.frames b.length [] := by
  unfold receiveS
  rw [if_neg (by simp [ha]), h]
  simp only
  rw [if_pos hk]
theorem receive_data {s : SrvS} {addr : Int} {b : List Int} {d : DgS} (h : dgramS b = some d) (ha : 0 <= addr /\ addr <= 255) (hk : d.kind ≠ 1) : receiveS s addr b = dataS s addr d.cid d.num b.length d.frames b.length [] := by
  unfold receiveS
  rw [if_neg (by simp [ha]), h]
  simp only
  rw [if_neg hk]
theorem argE_of {n hi : Int} : argE n hi = if 0 <= n /\ n <= hi then 0 else 2 := by
  unfold argE betw
  by_cases h : 0 <= n /\ n <= hi
  · rw [if_pos h, if_pos (decide_eq_true h)]
  · rw [if_neg h, if_neg (by simp only [decide_eq_true_eq]; exact h)]
set_option maxHeartbeats 16000000 in
set_option maxRecDepth 8000 in
theorem sReceive_any (N : Nat) (sb : Nat) (s : SrvS) (cm : Nat) (wv : Value) (cbs : List Nat) (xs : List ConX) (ws : List Nat) (addr : Int) (b : List Int) (bv : Value) (w : World) (h : PSrv N w sb s cm wv cbs xs ws) {M L : Int} (hI : SrvInv M L s) (hbv : RdB w bv b) (hl : b.length <= 1073741823) (hM0 : 0 <= M) (hM : M + b.length + 100 <= 1125899906842624) (hN : N + 1 + b.length < 1125899906842624) (hE : ∀ W, Chg (SrvF sb cm wv cbs xs) w W -> Env W) :
    Calls Tryz.prog 20 #[.pointer (some ⟨sb, 0, none⟩), .int .i64 addr, bv] w fun e w' => SOut (N + 1 + b.length) w sb cm wv cbs xs (receiveS s addr b) e w' := by
  obtain ⟨a1, a3, rfl⟩ := hello_len hbv
  have HRd := hideIt (wReadDatagram_any b _ w (hE w (Chg.refl _ _)) hbv)
  have hEb : ∀ W, Below w.heap.size w W -> Env W := fun W hW => hE W (Chg.of_below hW)
  have HE0 : Hid (∀ (W : World), Below w.heap.size w W -> (dgramS b = none \/ ¬ (0 <= addr /\ addr <= 255)) -> SOut (N + 1 + b.length) w sb cm wv cbs xs (receiveS s addr b) (.returned (.slice none 0 0)) W) := by
    intro W hW hno
    rw [receive_none hno]
    exact SOut.mk1 h (OutsAt.nil _ _) ((h.below hW).mono (by omega)) (fun k hk => Or.inl hk) (fun k hk => hk) (Chg.of_below hW)
  have hby : Bytes b := hbv.1
  rcases dgramR_is (b := b) with ⟨hd, hbad⟩ | ⟨d, hd, hdr, hbad⟩
  · have HF := hideIt (fun W hW => HE0.out W hW (Or.inl hd))
    have HEn := hideIt hEb
    clear h hI hbv hE hEb HE0 hN hM hl
    generalize receiveS s addr b = R at HF ⊢
    go_enter Tryz.func20, Tryz.ntmps20
    go_wp2_with fail
    refine HRd.out.mono ?_
    intro e w1 ho
    obtain ⟨k, cv, rfl, hk, hne⟩ := ho.bad hbad
    obtain ⟨tt, aa, rfl⟩ := hne.form01
    have hb1 := below_join ho.bel (below_alloc w1 (.cells zeroDg 107))
    have HIs := hideIt (IsNone_err k _ (w1.alloc (.cells zeroDg 107)) (HEn.out _ hb1) (by omega) (hne.below (below_alloc _ _)))
    have HB1 := hideIt hb1
    unfold zeroDg at HIs HB1
    clear ho hb1 HRd hne
    unfold zeroDg
    go_wp2_with fail
    refine HIs.out.mono ?_
    rintro e w2 ⟨rfl, hb2⟩
    have HB2 := hideIt (below_join HB1.out hb2)
    clear hb2 HB1 HIs
    go_wp2_with fail
    go_ret
    exact HF.out _ HB2.out
  · obtain ⟨hkd, hcid, hnum, hbt, hbf, hlt, hlf⟩ := dgramS_ok hby hd
    have HHe : Hid (d.kind = 1 -> (0 <= addr /\ addr <= 255) -> ∀ (W : World) (tv fv : Value), Below w.heap.size w W -> RdB W tv d.tok -> RdB W fv d.frames -> Calls Tryz.prog 48 #[.pointer (some ⟨sb, 0, none⟩), .int .i64 addr, .agg (dgC d b.length tv fv)] W fun e w' => SOut (N + 1 + b.length) w sb cm wv cbs xs (receiveS s addr b) e w') := by
      intro hk1 ha W tv fv hW htv hfv
      rw [receive_hello hd ha hk1]
      refine (shello_any N sb s cm wv cbs xs ws addr b.length d tv fv d.frames b.length W (h.below hW) hI htv hcid ⟨ha.1, by omega⟩ ⟨by omega, by omega⟩ hM0 hM hfv hbf (by omega) hlf (by omega) (fun W' hW' => hE W' ((Chg.of_below hW).trans hW'))).mono ?_
      intro e w' hS
      exact (hS.after hW).mono (by omega)
    have HDa : Hid (d.kind ≠ 1 -> (0 <= addr /\ addr <= 255) -> ∀ (W : World) (tv fv : Value), Below w.heap.size w W -> RdB W tv d.tok -> RdB W fv d.frames -> Calls Tryz.prog 49 #[.pointer (some ⟨sb, 0, none⟩), .int .i64 addr, .agg (dgC d b.length tv fv)] W fun e w' => SOut (N + 1 + b.length) w sb cm wv cbs xs (receiveS s addr b) e w') := by
      intro hk1 ha W tv fv hW htv hfv
      rw [receive_data hd ha hk1]
      obtain ⟨u1, u3, eu⟩ := hello_len htv
      refine (sdata_any N sb s cm wv cbs xs ws addr b.length d tv fv d.frames b.length W (h.below hW) hI ⟨_, _, _, eu⟩ hcid hnum ⟨by omega, by omega⟩ hM0 hM hfv hbf (by omega) hlf (by omega) (fun W' hW' => hE W' ((Chg.of_below hW).trans hW'))).mono ?_
      intro e w' hS
      exact (hS.after hW).mono (by omega)
    have HAdr := hideIt (fun W => bAddress_any addr W)
    rw [argE_of] at HAdr
    have HEn := hideIt hEb
    clear h hI hbv hE hEb hN hM hl hbt hbf hby
    generalize receiveS s addr b = R at HE0 HHe HDa ⊢
    generalize N + 1 + b.length = NN at HE0 HHe HDa ⊢
    by_cases ha : 0 <= addr /\ addr <= 255
    · rw [if_pos ha] at HAdr
      go_enter Tryz.func20, Tryz.ntmps20
      go_wp2_with fail
      refine HRd.out.mono ?_
      intro e w1 ho
      obtain ⟨tv, fv, rfl, htv, hfv⟩ := ho.ok hbad
      rw [hdr] at htv hfv
      rw [hdr]
      have hbel := ho.bel
      obtain ⟨u1, u3, eu⟩ := hello_len htv
      obtain ⟨v1, v3, ev⟩ := hello_len hfv
      subst eu
      subst ev
      have hb1 := below_join hbel (below_alloc w1 (.cells (dgC d b.length (.slice u1 d.tok.length u3) (.slice v1 d.frames.length v3)) 107))
      have HTv := hideIt (htv.below (below_alloc w1 (.cells (dgC d b.length (.slice u1 d.tok.length u3) (.slice v1 d.frames.length v3)) 107)))
      have HFv := hideIt (hfv.below (below_alloc w1 (.cells (dgC d b.length (.slice u1 d.tok.length u3) (.slice v1 d.frames.length v3)) 107)))
      have HB1 := hideIt hb1
      have HBx : Hid ((w1.alloc (.cells (dgC d b.length (.slice u1 d.tok.length u3) (.slice v1 d.frames.length v3)) 107)).heap[w1.heap.size]? = some (.cells (dgC d b.length (.slice u1 d.tok.length u3) (.slice v1 d.frames.length v3)) 107 (0, 0))) := heap_alloc_new w1 _
      have HZ : Hid (w1.heap.size < (w1.alloc (.cells (dgC d b.length (.slice u1 d.tok.length u3) (.slice v1 d.frames.length v3)) 107)).heap.size) := by show _ < _; simp
      clear ho hb1 HRd htv hfv hbel
      unfold dgC at HTv HFv HB1 HBx HZ HHe HDa ⊢
      go_wp2_with fail
      generalize hW0 : (w1.alloc (.cells #[.int .i64 d.kind, .int .i64 (b.length : Int), .int .i64 d.cid, .slice u1 d.tok.length u3, .int .i64 d.num, .slice v1 d.frames.length v3] 107)) = w0 at *
      refine (IsNone_nil w0).mono ?_
      rintro e w2 ⟨rfl, hb2⟩
      have HTv2 := hideIt (HTv.out.below hb2)
      have HFv2 := hideIt (HFv.out.below hb2)
      have HB2 := hideIt (below_join HB1.out hb2)
      have hbx2 := (hb2.block _ HZ.out).trans HBx.out
      have c0 : w2.cell? ⟨w1.heap.size, 0, none⟩ = some (.int .i64 d.kind) := by simp only [World.cell?, hbx2]; rfl
      have c1 : w2.cell? ⟨w1.heap.size, 1, none⟩ = some (.int .i64 (b.length : Int)) := by simp only [World.cell?, hbx2]; rfl
      have c2 : w2.cell? ⟨w1.heap.size, 2, none⟩ = some (.int .i64 d.cid) := by simp only [World.cell?, hbx2]; rfl
      have c3 : w2.cell? ⟨w1.heap.size, 3, none⟩ = some (.slice u1 d.tok.length u3) := by simp only [World.cell?, hbx2]; rfl
      have c4 : w2.cell? ⟨w1.heap.size, 4, none⟩ = some (.int .i64 d.num) := by simp only [World.cell?, hbx2]; rfl
      have c5 : w2.cell? ⟨w1.heap.size, 5, none⟩ = some (.slice v1 d.frames.length v3) := by simp only [World.cell?, hbx2]; rfl
      clear hb2 hbx2 HTv HFv HB1 HBx HZ hW0
      go_wp2_with fail
      refine (HAdr.out w2).mono ?_
      rintro e w3 ⟨rfl, rfl⟩
      clear HAdr
      rcases Classical.em (d.kind = 1) with hk1 | hk1
      · have HC := hideIt (HHe.out hk1 ha w2 _ _ HB2.out HTv2.out HFv2.out)
        have hkb : (d.kind == 1) = true := beq_iff_eq.2 hk1
        clear HHe HDa HE0 HTv2 HFv2 hk1 hkd
        go_wp2_with fail
        refine HC.out.mono ?_
        intro e w4 hS
        obtain ⟨v, rfl, ho⟩ := hS.ret
        obtain ⟨va, vc, rfl⟩ := ho.form
        have HS := hideIt hS
        clear hS ho HC
        go_wp2_with fail
        go_ret
        exact HS.out
      · have HC := hideIt (HDa.out hk1 ha w2 _ _ HB2.out HTv2.out HFv2.out)
        have hkb : (d.kind == 1) = false := beq_eq_false_iff_ne.2 hk1
        clear HHe HDa HE0 HTv2 HFv2 hk1 hkd
        go_wp2_with fail
        refine HC.out.mono ?_
        intro e w4 hS
        obtain ⟨v, rfl, ho⟩ := hS.ret
        obtain ⟨va, vc, rfl⟩ := ho.form
        have HS := hideIt hS
        clear hS ho HC
        go_wp2_with fail
        go_ret
        exact HS.out
    · rw [if_neg ha] at HAdr
      have HF := hideIt (fun W hW => HE0.out W hW (Or.inr ha))
      clear HHe HDa HE0
      go_enter Tryz.func20, Tryz.ntmps20
      go_wp2_with fail
      refine HRd.out.mono ?_
      intro e w1 ho
      obtain ⟨tv, fv, rfl, htv, hfv⟩ := ho.ok hbad
      have hbel := ho.bel
      obtain ⟨u1, u3, rfl⟩ := hello_len htv
      obtain ⟨v1, v3, rfl⟩ := hello_len hfv
      have HB0 := hideIt hbel
      clear ho HRd htv hfv hbel
      unfold dgC
      go_wp2_with fail
      refine (IsNone_nil _).mono ?_
      rintro e w2 ⟨rfl, hb2⟩
      have HB2 := hideIt (below_join (below_join HB0.out (below_alloc _ _)) hb2)
      clear hb2
      go_wp2_with fail
      refine (HAdr.out w2).mono ?_
      rintro e w3 ⟨rfl, rfl⟩
      clear HAdr
      go_wp2_with fail
      go_ret
      exact HF.out _ HB2.out
section
variable {α : Type} {C : MCode α} {P : Program} {K : TypeId}
end
theorem nodup_cid {l : List ConS} (h : (l.map (·.cid)).Nodup) {c d : ConS} (hc : c ∈ l) (hd : d ∈ l) (e : c.cid = d.cid) : c = d := by
  induction l with
  | nil => cases hc
  | cons x l ih =>
    simp only [List.map_cons, List.nodup_cons] at h
    rcases List.mem_cons.1 hc with h1 | h1
    · rcases List.mem_cons.1 hd with h2 | h2
      · rw [h1, h2]
      · exact (h.1 (List.mem_map.2 ⟨d, h2, by rw [<- e, h1]⟩)).elim
    · rcases List.mem_cons.1 hd with h2 | h2
      · exact (h.1 (List.mem_map.2 ⟨c, h1, by rw [e, h2]⟩)).elim
      · exact ih h.2 h1 h2
structure SAns (N : Nat) (w : World) (sb cm : Nat) (wv : Value) (cbs : List Nat) (xs : List ConX) (s' : SrvS) (v : Value) (e : Ending) (w' : World) : Prop where
  ret : e = .returned v
  ex : ∃ wv' cbs' xs' ws', PSrv N w' sb s' cm wv' cbs' xs' ws' /\ (∀ k, SrvF sb cm wv' cbs' xs' k -> SrvF sb cm wv cbs xs k \/ w.heap.size <= k) /\ ∀ k, SrvU xs' k -> SrvU xs k
  chg : Chg (SrvF sb cm wv cbs xs) w w'
theorem filter_first {b : Nat} : ∀ {l : List Nat}, b ∉ l -> (b :: l).filter (fun x => x != b) = l := by
  intro l h
  rw [List.filter_cons, if_neg (by simp), List.filter_eq_self]
  intro x hx
  simp only [bne_iff_ne, ne_eq]
  exact fun e => h (e ▸ hx)
theorem PSrv.first {N : Nat} {w : World} {sb : Nat} {s : SrvS} {cm : Nat} {wv : Value} {cbs : List Nat} {xs : List ConX} {b : Nat} {wt : List Nat} (h : PSrv N w sb s cm wv cbs xs (b :: wt)) (hnd : (s.conns.map (·.cid)).Nodup) :
    ∃ (j : Nat) (c : ConS) (a : ConX), s.conns[j]? = some c /\ cbs[j]? = some b /\ xs[j]? = some a /\ acceptS s = (c.cid, 0, { s with conns := s.conns.set j { c with waits := 0 } }) /\ b ∉ wt /\
      ∃ ct, WaitIs (s.conns.set j { c with waits := 0 }) ct /\ wt.length = ct.length /\ ∀ (l : Nat) b', wt[l]? = some b' -> ∃ (i : Nat) (c' : ConS), (s.conns.set j { c with waits := 0 })[i]? = some c' /\ cbs[i]? = some b' /\ ct[l]? = some c'.cid := by
  obtain ⟨cs, hw1, hw2, hw3⟩ := h.wait
  cases cs with
  | nil => simp at hw2
  | cons x ct =>
    obtain ⟨j, c, hj, hcx, _, hac, hwt⟩ := accept_some hw1
    have hinj : ∀ (j l : Nat) b, cbs[j]? = some b -> cbs[l]? = some b -> j = l := by
      intro j l b e1 e2
      by_cases hjl : j = l
      · exact hjl
      · have h1 : j < xs.length := by rw [h.len2, <- h.len1]; exact (List.getElem?_eq_some_iff.1 e1).1
        have h2 : l < xs.length := by rw [h.len2, <- h.len1]; exact (List.getElem?_eq_some_iff.1 e2).1
        exact absurd (Or.inl rfl) (h.apart j l b _ b _ hjl e1 (List.getElem?_eq_getElem h1) e2 (List.getElem?_eq_getElem h2) b (Or.inl rfl))
    obtain ⟨i0, c0, e1, e2, e3⟩ := hw3 0 b rfl
    simp only [List.getElem?_cons_zero, Option.some.injEq] at e3
    have hc0 : c0 = c := nodup_cid hnd (List.mem_of_getElem? e1) (List.mem_of_getElem? hj) (by rw [hcx, e3])
    subst hc0
    have hij : i0 = j := by
      have q1 : (s.conns.map (·.cid))[i0]? = some c0.cid := by simp [e1]
      have q2 : (s.conns.map (·.cid))[j]? = some c0.cid := by simp [hj]
      exact (List.getElem?_inj (List.getElem?_eq_some_iff.1 q1).1 hnd).1 (q1.trans q2.symm)
    subst hij
    have hcn := hw1.nodup hnd
    rw [List.nodup_cons] at hcn
    have hnot : b ∉ wt := by
      intro hb
      obtain ⟨l, hl, e⟩ := List.getElem_of_mem hb
      obtain ⟨i1, c1, f1, f2, f3⟩ := hw3 (l + 1) b (by simp [List.getElem?_eq_getElem hl, e])
      have := hinj i1 i0 b f2 e2
      subst this
      rw [e1] at f1
      cases f1
      simp only [List.getElem?_cons_succ] at f3
      exact hcn.1 (by rw [e3]; exact List.mem_of_getElem? f3)
    obtain ⟨a, ha⟩ : ∃ a, xs[i0]? = some a := ⟨_, List.getElem?_eq_getElem (by rw [h.len2]; exact (List.getElem?_eq_some_iff.1 e1).1)⟩
    refine ⟨i0, c0, a, hj, e2, ha, hac.trans (by rw [hcx]), hnot, ct, hwt, by simpa using hw2, fun l b' hl => ?_⟩
    obtain ⟨i1, c1, f1, f2, f3⟩ := hw3 (l + 1) b' (by simpa using hl)
    have hne : i1 ≠ i0 := by
      intro e
      subst e
      rw [e2] at f2
      cases f2
      exact hnot (List.mem_of_getElem? hl)
    refine ⟨i1, c1, by rw [getElem?_set_other hne]; exact f1, f2, by simpa using f3⟩
theorem PSrv.taken {N : Nat} {w w' : World} {sb : Nat} {s : SrvS} {cm : Nat} {wv wv' : Value} {cbs : List Nat} {xs : List ConX} {b : Nat} {wt : List Nat} (h : PSrv N w sb s cm wv cbs xs (b :: wt)) {j : Nat} {c : ConS} (hj : s.conns[j]? = some c)
    (hw : ∃ ct, WaitIs (s.conns.set j { c with waits := 0 }) ct /\ wt.length = ct.length /\ ∀ (l : Nat) b', wt[l]? = some b' -> ∃ (i : Nat) (c' : ConS), (s.conns.set j { c with waits := 0 })[i]? = some c' /\ cbs[i]? = some b' /\ ct[l]? = some c'.cid)
    (hS : SBlk w' sb s.c s.now cm wv') (ho : w'.ownsRow 0 97 1 wv' wt.length (ptrs wt)) (hc : Chg (fun k => k = sb \/ wv.ownBlock = some k) w w') : PSrv N w' sb { s with conns := s.conns.set j { c with waits := 0 } } cm wv' cbs xs wt := by
  obtain ⟨n, hn, hm⟩ := h.map
  have hcO : Chg (OwnF sb cm wv) w w' := hc.mono fun k _ e => e.elim Or.inl (fun e => Or.inr (Or.inr e))
  have hmb : w'.heap[cm]? = w.heap[cm]? := by
    refine hc.block cm hm.lt ?_
    obtain ⟨es, ck, hb⟩ := hm.is_map
    rintro (e | e)
    · have h2 : w.heap[sb]? = some (.cells (psrvC s.c s.now cm wv) 101 (0, 0)) := h.blk
      rw [<- e, hb] at h2
      cases h2
    · obtain ⟨c1, e1⟩ := own_blockN h.row e
      rw [hb] at e1
      cases e1
  refine ⟨hS, ⟨n, hn, ?_⟩, by simp [h.len1], by simp [h.len2], fun i d db x h1 h2 h3 => ?_, ho, hw, h.apart, h.mne⟩
  · have e : ({ s with conns := s.conns.set j { c with waits := 0 } } : SrvS).conns.map (·.cid) = s.conns.map (·.cid) := map_set_cid hj rfl
    rw [e]
    exact hm.same hmb
  · by_cases hij : i = j
    · subst hij
      rw [getElem?_set_at hj] at h1
      cases h1
      exact (h.cons hcO hj h2 h3).waits 0
    · rw [getElem?_set_other hij] at h1
      exact h.cons hcO h1 h2 h3
set_option maxHeartbeats 8000000 in
set_option maxRecDepth 8000 in
theorem sAccept_any (N : Nat) (sb : Nat) (s : SrvS) (cm : Nat) (wv : Value) (cbs : List Nat) (xs : List ConX) (ws : List Nat) (w : World) (h : PSrv N w sb s cm wv cbs xs ws) {M L : Int} (hI : SrvInv M L s) :
    Calls Tryz.prog 21 #[.pointer (some ⟨sb, 0, none⟩)] w fun e w' => SAns N w sb cm wv cbs xs (acceptS s).2.2 (.tuple #[.int .i64 (acceptS s).1, .int .i64 (acceptS s).2.1]) e w' := by
  have d12 : w.cell? ⟨sb, 12, none⟩ = some wv := h.blk.cell 12
  cases ws with
  | nil =>
    have hac : acceptS s = (0, 4, s) := by
      obtain ⟨cs, hw1, hw2, _⟩ := h.wait
      cases cs with
      | nil => exact accept_none hw1
      | cons x ct => simp at hw2
    rw [hac]
    obtain ⟨va, vc, rfl⟩ := own_formN h.row
    have HE : Hid (SAns N w sb cm (.slice va 0 vc) cbs xs s (.tuple #[.int .i64 0, .int .i64 4]) (.returned (.tuple #[.int .i64 0, .int .i64 4])) w) := ⟨rfl, ⟨_, cbs, xs, [], h, fun k hk => Or.inl hk, fun k hk => hk⟩, Chg.refl _ _⟩
    simp only [List.length_nil] at d12 ⊢
    clear h hI hac
    go_enter Tryz.func21, Tryz.ntmps21
    go_wp2_with fail
    go_ret2
    exact HE.out
  | cons b wt =>
    obtain ⟨j, c, a, hj, hcb, ha, hac, hnot, hw⟩ := h.first hI.nd
    rw [hac]
    have hwl : (b :: wt).length <= 1000 := by
      have e1 := h.wlen
      have e2 := hI.few
      have e3 := hI.cfg.c0
      omega
    have hC := h.con j c b a hj hcb ha
    have hisb := (h.but (Nat.le_refl N) hj hcb ha (Chg.refl _ _) ⟨c, _, _, _, _, hC.blk, rfl⟩).isb
    have hrow := h.row
    obtain ⟨g, cap, e1, _, _, _⟩ := own_some hrow (by simp)
    subst e1
    have c0 : w.cell? ⟨g, 0, none⟩ = some (.pointer (some ⟨b, 0, none⟩)) := by
      rw [hrow.cellAt 0 (by simp)]
      simp [ptrs, ptrV]
    have HWn := hideIt (swaitNoMore_any sb s.c s.now cm _ (b :: wt) b w h.blk hrow hwl hisb.2 hisb.1)
    rw [filter_first hnot] at HWn
    have HEnd : Hid (∀ w1 e, WaitOut w sb s.c s.now cm (.slice (some ⟨g, 0, none⟩) (b :: wt).length cap) wt e w1 -> (Calls Tryz.prog 51 #[.pointer (some ⟨b, 0, none⟩)] w1 fun e w' => e = .returned (.int .i64 c.cid) /\ w1 = w') /\ SAns N w sb cm (.slice (some ⟨g, 0, none⟩) (b :: wt).length cap) cbs xs { s with conns := s.conns.set j { c with waits := 0 } } (.tuple #[.int .i64 c.cid, .int .i64 0]) (.returned (.tuple #[.int .i64 c.cid, .int .i64 0])) w1) := by
      rintro w1 e ⟨rfl, ⟨wv', hS, ho, hat⟩, hc⟩
      have hP := h.taken hj hw hS ho hc
      have hcO : Chg (OwnF sb cm (.slice (some ⟨g, 0, none⟩) (b :: wt).length cap)) w w1 := hc.mono fun k _ e => e.elim Or.inl (fun e => Or.inr (Or.inr e))
      exact ⟨cCid_any b s.c c _ _ _ _ w1 (h.cons hcO hj hcb ha).blk, rfl, ⟨wv', cbs, xs, wt, hP, SrvF_wv hat, fun k hk => hk⟩, hcO.mono fun k _ hk => SrvF_own hk⟩
    have hpos : ((b :: wt).length : Int) ≠ 0 := by simp; omega
    have hgt : 0 < (b :: wt).length := by simp
    have hnb : (((b :: wt).length : Int) == 0) = false := beq_eq_false_iff_ne.2 hpos
    generalize (b :: wt).length = wl at *
    clear h hI hj hcb ha hac hnot hw hwl hC hisb hrow
    go_enter Tryz.func21, Tryz.ntmps21
    go_wp2_with fail
    refine HWn.out.mono ?_
    intro e w1 ho
    obtain ⟨h1, h2⟩ := HEnd.out w1 e ho
    have hr := ho.ret
    subst hr
    have H1 := hideIt h1
    have H2 := hideIt h2
    clear h1 h2 ho HEnd HWn c0 d12
    go_wp2_with fail
    refine H1.out.mono ?_
    rintro e w2 ⟨rfl, rfl⟩
    clear H1
    go_wp2_with fail
    go_ret2
    exact H2.out
def SNewOut (w : World) (g : Cfg) (e : Ending) (w' : World) : Prop :=
  if g.right then ∃ sb cm, e = .returned (.tuple #[.pointer (some ⟨sb, 0, none⟩), .int .i64 0]) /\ PSrv 0 w' sb (srvNew g) cm (.slice none 0 0) [] [] [] /\ w.heap.size <= sb /\ w.heap.size <= cm /\ Below w.heap.size w w'
  else e = .returned (.tuple #[.pointer none, .int .i64 1]) /\ Below w.heap.size w w'
theorem snew_close {w W : World} {g : Cfg} {cm : Nat} (hW : Below w.heap.size w W) (h1 : W.heap[cm]? = some (.map #[] 0)) : PSrv 0 (W.alloc (.cells #[.int .i64 g.c0, .int .i64 g.c1, .int .i64 g.c2, .int .i64 g.c3, .int .i64 g.c4, .int .i64 g.c5, .int .i64 g.c6, .int .i64 g.c7, .int .i64 g.c8, .int .i64 g.c9, .int .i64 0, .map (some cm), .slice none 0 0] 101)) W.heap.size (srvNew g) cm (.slice none 0 0) [] [] [] /\ Below w.heap.size w (W.alloc (.cells #[.int .i64 g.c0, .int .i64 g.c1, .int .i64 g.c2, .int .i64 g.c3, .int .i64 g.c4, .int .i64 g.c5, .int .i64 g.c6, .int .i64 g.c7, .int .i64 g.c8, .int .i64 g.c9, .int .i64 0, .map (some cm), .slice none 0 0] 101)) := by
  have hb := below_alloc W (.cells #[.int .i64 g.c0, .int .i64 g.c1, .int .i64 g.c2, .int .i64 g.c3, .int .i64 g.c4, .int .i64 g.c5, .int .i64 g.c6, .int .i64 g.c7, .int .i64 g.c8, .int .i64 g.c9, .int .i64 0, .map (some cm), .slice none 0 0] 101)
  refine ⟨⟨heap_alloc_new W _, ⟨0, Nat.le_refl _, ?_⟩, rfl, rfl, fun i c cb a h1 => (by simp [srvNew] at h1), World.ownsRow_nil _ _ _ _, ⟨[], WaitIs.nil, rfl, fun j b hb => (by simp at hb)⟩, fun i j cb a cb' a' _ h1 => (by simp at h1), fun i cb a h1 => (by simp at h1)⟩, below_join hW hb⟩
  refine (MapIs.same (w := W) ?_ (hb.block cm (Array.getElem?_eq_some_iff.1 h1).1))
  exact ⟨.map [], ⟨#[], 0, h1, by
    obtain ⟨es, ck, q1, q2⟩ := World.ownsMap_made W Tryz.prog 3 ptrC.R
    rw [heap_alloc_new] at q1
    cases q1
    exact q2⟩, ⟨fun k => rfl, fun k a h => (by simp [atK] at h), rfl, List.nodup_nil⟩⟩
set_option maxHeartbeats 8000000 in
set_option maxRecDepth 8000 in
theorem sNew_any (g : Cfg) (w : World) :
    Calls Tryz.prog 26 #[.agg #[.int .i64 g.c0, .int .i64 g.c1, .int .i64 g.c2, .int .i64 g.c3, .int .i64 g.c4, .int .i64 g.c5, .int .i64 g.c6, .int .i64 g.c7, .int .i64 g.c8, .int .i64 g.c9]] w fun e w' => SNewOut w g e w' := by
  have HB : Hid (∀ W : World, W = w.alloc (.cells #[.int .i64 g.c0, .int .i64 g.c1, .int .i64 g.c2, .int .i64 g.c3, .int .i64 g.c4, .int .i64 g.c5, .int .i64 g.c6, .int .i64 g.c7, .int .i64 g.c8, .int .i64 g.c9] 26) -> Below w.heap.size w W /\ W.heap[w.heap.size]? = some (.cells #[.int .i64 g.c0, .int .i64 g.c1, .int .i64 g.c2, .int .i64 g.c3, .int .i64 g.c4, .int .i64 g.c5, .int .i64 g.c6, .int .i64 g.c7, .int .i64 g.c8, .int .i64 g.c9] 26 (0, 0))) := by
    rintro W rfl
    exact ⟨below_alloc w _, heap_alloc_new w _⟩
  obtain ⟨r, hr⟩ : ∃ r, rightB g.c0 g.c1 g.c2 g.c3 g.c4 g.c5 g.c6 g.c7 g.c8 g.c9 = r := ⟨_, rfl⟩
  have HR : Hid (∀ W, Calls Tryz.prog 52 #[.agg #[.int .i64 g.c0, .int .i64 g.c1, .int .i64 g.c2, .int .i64 g.c3, .int .i64 g.c4, .int .i64 g.c5, .int .i64 g.c6, .int .i64 g.c7, .int .i64 g.c8, .int .i64 g.c9]] W fun e w' => e = .returned (.int .i64 (if r then 0 else 1)) /\ Below W.heap.size W w') := by
    intro W
    have := bConfig_any g.c0 g.c1 g.c2 g.c3 g.c4 g.c5 g.c6 g.c7 g.c8 g.c9 W
    unfold cfgE at this
    rw [hr] at this
    exact this
  have HE : Hid (g.right = r) := hr
  have HCl : Hid (∀ W : World, Below w.heap.size w W -> PSrv 0 ((W.alloc (.map #[] 0)).alloc (.cells #[.int .i64 g.c0, .int .i64 g.c1, .int .i64 g.c2, .int .i64 g.c3, .int .i64 g.c4, .int .i64 g.c5, .int .i64 g.c6, .int .i64 g.c7, .int .i64 g.c8, .int .i64 g.c9, .int .i64 0, .map (some W.heap.size), .slice none 0 0] 101)) (W.alloc (.map #[] 0)).heap.size (srvNew g) W.heap.size (.slice none 0 0) [] [] [] /\ Below w.heap.size w ((W.alloc (.map #[] 0)).alloc (.cells #[.int .i64 g.c0, .int .i64 g.c1, .int .i64 g.c2, .int .i64 g.c3, .int .i64 g.c4, .int .i64 g.c5, .int .i64 g.c6, .int .i64 g.c7, .int .i64 g.c8, .int .i64 g.c9, .int .i64 0, .map (some W.heap.size), .slice none 0 0] 101))) := fun W hW => snew_close (below_join hW (below_alloc W _)) (heap_alloc_new W _)
  clear hr
  go_enter Tryz.func26, Tryz.ntmps26
  go_wp2_with fail
  obtain ⟨hb0, hc0⟩ := HB.out _ rfl
  clear HB
  generalize w.alloc (.cells #[.int .i64 g.c0, .int .i64 g.c1, .int .i64 g.c2, .int .i64 g.c3, .int .i64 g.c4, .int .i64 g.c5, .int .i64 g.c6, .int .i64 g.c7, .int .i64 g.c8, .int .i64 g.c9] 26) = w0 at hb0 hc0 ⊢
  refine (HR.out w0).mono ?_
  rintro e w1 ⟨rfl, hb1⟩
  clear HR
  have hc1 := (hb1.block _ (Array.getElem?_eq_some_iff.1 hc0).1).trans hc0
  have hB1 := below_join hb0 hb1
  clear hb0 hb1 hc0
  have m0 : w1.cell? ⟨w.heap.size, 0, none⟩ = some (.int .i64 g.c0) := by simp [World.cell?, hc1]
  have m1 : w1.cell? ⟨w.heap.size, 1, none⟩ = some (.int .i64 g.c1) := by simp [World.cell?, hc1]
  have m2 : w1.cell? ⟨w.heap.size, 2, none⟩ = some (.int .i64 g.c2) := by simp [World.cell?, hc1]
  have m3 : w1.cell? ⟨w.heap.size, 3, none⟩ = some (.int .i64 g.c3) := by simp [World.cell?, hc1]
  have m4 : w1.cell? ⟨w.heap.size, 4, none⟩ = some (.int .i64 g.c4) := by simp [World.cell?, hc1]
  have m5 : w1.cell? ⟨w.heap.size, 5, none⟩ = some (.int .i64 g.c5) := by simp [World.cell?, hc1]
  have m6 : w1.cell? ⟨w.heap.size, 6, none⟩ = some (.int .i64 g.c6) := by simp [World.cell?, hc1]
  have m7 : w1.cell? ⟨w.heap.size, 7, none⟩ = some (.int .i64 g.c7) := by simp [World.cell?, hc1]
  have m8 : w1.cell? ⟨w.heap.size, 8, none⟩ = some (.int .i64 g.c8) := by simp [World.cell?, hc1]
  have m9 : w1.cell? ⟨w.heap.size, 9, none⟩ = some (.int .i64 g.c9) := by simp [World.cell?, hc1]
  have HB1 := hideIt hB1
  have hsz := hB1.size
  clear hc1 hB1
  cases r
  · simp only [Bool.false_eq_true, if_false]
    go_wp2_with fail
    go_ret2
    unfold SNewOut
    rw [HE.out, if_neg (by decide)]
    exact ⟨rfl, HB1.out⟩
  · simp only [if_true]
    have HF := hideIt (HCl.out w1 HB1.out)
    have hsz1 : (w1.alloc (.map #[] 0)).heap.size = w1.heap.size + 1 := by simp
    rw [hsz1] at HF
    clear HCl hsz1
    have hmk : ∀ W : World, (Instr.makeMap 98 none).run Tryz.prog W = .ok (.map (some W.heap.size)) (W.alloc (.map #[] 0)) := fun W => by simp [Instr.makeMap]
    go_wp2_with fail
    go_ret2
    unfold SNewOut
    rw [HE.out, if_pos rfl]
    exact ⟨_, _, rfl, HF.out.1, by omega, hsz, HF.out.2⟩
def bufS (l : List StrS) : Int := (l.map fun x => (fullL x.bytes : Int)).sum
theorem sum_split {α : Type} {piece : Int} {l : List StrS} {sl : List (Int × α)} (hS : StrS -> Int) (hdz : ∀ x ∈ l, x.done = true -> hS x = 0) (hz : hS (strNew piece) = 0) (h : MapS piece l sl) : (l.map hS).sum = sumK (atS hS l) sl := by
  have hks : (sl.map fun p => p.1.toNat).Nodup := by
    have : (sl.map fun p => p.1.toNat) = (sl.map (·.1)).map Int.toNat := by rw [List.map_map]; rfl
    rw [this]
    have hn := h.nd
    have hpos : ∀ x ∈ sl.map (·.1), 0 <= x := by
      intro x hx
      obtain ⟨p, hp, rfl⟩ := List.mem_map.1 hx
      exact (h.str p hp).1
    generalize sl.map (·.1) = ids at hn hpos
    induction ids with
    | nil => simp
    | cons a t ih =>
      rw [List.nodup_cons] at hn
      simp only [List.map_cons, List.nodup_cons]
      refine ⟨fun hm => ?_, ih hn.2 (fun x hx => hpos x (by simp [hx]))⟩
      obtain ⟨b, hb, e⟩ := List.mem_map.1 hm
      have h1 := hpos a (by simp)
      have h2 := hpos b (by simp [hb])
      have : a = b := by omega
      subst this
      exact hn.1 hb
  have hlt : ∀ k ∈ (sl.map fun p => p.1.toNat), k < l.length := by
    intro k hk
    obtain ⟨p, hp, rfl⟩ := List.mem_map.1 hk
    obtain ⟨_, x, hx, _⟩ := h.str p hp
    exact (List.getElem?_eq_some_iff.1 hx).1
  have e1 : sumK (atS hS l) sl = ((sl.map fun p => p.1.toNat).map fun i => ((l[i]?).map hS).getD 0).sum := by
    unfold sumK atS
    rw [List.map_map]
    rfl
  rw [e1, map_range, sum_keys _ hks hlt]
  congr 1
  refine List.map_congr_left fun i hir => ?_
  have hil : i < l.length := List.mem_range.1 hir
  have hx : l[i]? = some l[i] := List.getElem?_eq_getElem hil
  have hin := hdz _ (List.getElem_mem hil)
  generalize l[i] = x at hx hin
  rw [hx]
  simp only [Option.map_some, Option.getD_some]
  have hmem : i ∈ (sl.map fun p => p.1.toNat) ↔ (i : Int) ∈ sl.map (·.1) := by
    constructor
    · intro hm
      obtain ⟨p, hp, e⟩ := List.mem_map.1 hm
      have := (h.str p hp).1
      exact List.mem_map.2 ⟨p, hp, by omega⟩
    · intro hm
      obtain ⟨p, hp, e⟩ := List.mem_map.1 hm
      exact List.mem_map.2 ⟨p, hp, by omega⟩
  by_cases hk : i ∈ (sl.map fun p => p.1.toNat)
  · simp [hk]
  · cases hd : x.done with
    | true => simp [hk, hin hd]
    | false =>
      have := h.non i x hx hd (fun hm => hk (hmem.2 hm))
      subst this
      simp [hk, hz]
theorem buf_split {α : Type} {gaps piece : Int} {l : List StrS} {sl : List (Int × α)} (hi : ∀ x ∈ l, StrInv gaps x) (h : MapS piece l sl) : bufS l = sumK (atS (fun x => (fullL x.bytes : Int)) l) sl := by
  refine sum_split (fun x => (fullL x.bytes : Int)) (fun x hx hd => ?_) (by simp [strNew, fullL]) h
  have := ((hi x hx).dn hd).1
  simp [this, fullL]
set_option maxHeartbeats 2000000 in
theorem tBuffered_any {U : Nat -> Prop} (sb : Nat) (lv : Value) (piece : Int) (x : StrS) (w : World) (h : StrAt U w sb lv piece x) {gaps : Int} (hi : StrInv gaps x) (hg : gaps <= 8) :
    Calls Tryz.prog 71 #[.pointer (some ⟨sb, 0, none⟩)] w fun e w' => e = .returned (.int .i64 (fullL x.bytes : Nat)) /\ Below w.heap.size w w' := by
  obtain ⟨vs, hr, _⟩ := h.runs
  have c0 : w.cell? ⟨sb, 0, none⟩ = some lv := h.cell 0
  have HS := hideIt (x_Size_any vs _ lv sb 0 w c0 hr.own hr.sh (hi.fit hg))
  rw [sizeR_runsOf] at HS
  clear h hr
  go_enter Tryz.func71, Tryz.ntmps71
  go_wp2_with fail
  refine HS.out.mono ?_
  rintro e w1 ⟨rfl, hb1⟩
  have HB := hideIt hb1
  clear hb1 HS
  go_wp2_with fail
  go_ret
  exact ⟨rfl, HB.out⟩
set_option maxHeartbeats 4000000 in
theorem csumB_any (cb sm n : Nat) (sl : List (Int × Nat)) (hi : Int -> Int) (w : World) (hc : w.cell? ⟨cb, 21, none⟩ = some (.map (some sm))) (hm : MapIs ptrC Tryz.prog 3 w sm n sl) (hs : ∀ p ∈ sl, ∀ W, Below w.heap.size w W -> Calls Tryz.prog 71 #[.pointer (some ⟨p.2, 0, none⟩)] W fun e w' => e = .returned (.int .i64 (hi p.1)) /\ Below W.heap.size W w') (hr : ∀ p ∈ sl, 0 <= hi p.1 /\ hi p.1 <= 1073741823) (hl : sl.length <= 1073741823) :
    Calls Tryz.prog 70 #[.pointer (some ⟨cb, 0, none⟩), .func (.func 71) #[] #[]] w fun e w' => e = .returned (.int .i64 (sumK hi sl)) /\ Below w.heap.size w w' := by
  have hS : sumK hi sl <= 1152921504606846976 := by
    have := sumK_le (B := 1073741823) fun p hp => (hr p hp).2
    omega
  have HM := hideIt hm
  have HS := hideIt hs
  have HR := hideIt hr
  clear hm hs hr
  go_enter Tryz.func70, Tryz.ntmps70
  go_wp2_with (first
    | (at_range; refine wpList_mrange _ rfl _ 134 rfl 140 Tryz.underlying3 Tryz.underlying134 sm n sl rfl HM.out ?_; intro w0 hrg0 hg0 hs0))
  have hb0 : Below w.heap.size w w0 := grown_below hg0
  have H0 := hideIt (And.intro hrg0 hb0)
  clear hrg0 hg0 hs0 hb0 hc
  go_frame
  go_loopw [5] (fun s wr => ∃ (rest : List (Int × Nat)) (cnt : Nat), RangeIs ptrC Tryz.prog 3 wr sm w.heap.size n sl rest cnt /\ s = .int .i64 (sumK hi sl - sumK hi rest) /\ Hid (∀ p ∈ rest, p ∈ sl) /\ Hid (sumK hi rest <= sumK hi sl) /\ Below w.heap.size w wr) (fun _ wr => wr.rangeLeft sm w.heap.size)
  case atStart => exact ⟨sl, _, H0.out.1, by rw [Int.sub_self], fun p hp => hp, hideIt (Int.le_refl _), H0.out.2⟩
  case round =>
    obtain ⟨rest, cnt, hrg, rfl, hsub, hsm, hbw⟩ := hrel
    have HBw := hideIt hbw
    have HRg := hideIt hrg
    clear hbw
    go_wp2_with (first
      | (at_next; refine wpList_mnext _ rfl _ rfl Tryz.underlying3 sm w.heap.size n sl rest cnt rfl hrg ?_ ?_))
    · intro hnil
      subst hnil
      go_wp2_with fail
      go_ret
      exact ⟨by simp [sumK], HBw.out⟩
    · intro k y r1 r2 w1 cnt1 hre hwk hat hrg1 hlt hg1 hs1 hen
      have hky : (k, y) ∈ sl := hsub.out _ (by rw [hre]; simp)
      have hb1 : Below w.heap.size w w1 := HBw.out.grown hg1 HBw.out.size (fun g hg => by cases hg; exact Nat.le_refl _)
      have hmid := sumK_mid (f := hi) r1 r2 k y
      rw [<- hre] at hmid
      have hn1 : 0 <= sumK hi (r1 ++ r2) := sumK_nonneg fun p hp => (HR.out p (hsub.out p (by rw [hre]; simp at hp ⊢; rcases hp with h | h <;> simp [h]))).1
      have hsb : Hid (∀ p ∈ r1 ++ r2, p ∈ sl) := fun p hp => hsub.out p (by rw [hre]; simp at hp ⊢; rcases hp with h | h <;> simp [h])
      have hk : 0 <= hi k /\ hi k <= 1073741823 := HR.out (k, y) hky
      obtain ⟨hk0, hk1⟩ := hk
      have hn2 := hsm.out
      have hw : IntKind.i64.wrap (sumK hi sl - sumK hi rest + hi k) = sumK hi sl - sumK hi (r1 ++ r2) := by
        rw [IntKind.wrap_i64]
        omega
      have HM2 := hideIt hmid
      have HE := hideIt (HS.out (k, y) hky w1 hb1)
      have H1 := hideIt (And.intro hrg1 (And.intro hb1 (And.intro hlt hsb)))
      have HN := hideIt (show sumK hi (r1 ++ r2) <= sumK hi sl from by omega)
      generalize sumK hi rest = Sr at hw HM2 ⊢
      clear hmid hn1 hb1 hky hrg1 hlt hsb hn2 hg1 hs1 hat
      go_wp2_with fail
      refine HE.out.mono ?_
      rintro e w2 ⟨rfl, hb2⟩
      have H2 : Hid (RangeIs ptrC Tryz.prog 3 w2 sm w.heap.size n sl (r1 ++ r2) cnt1 /\ Below w.heap.size w w2) := ⟨H1.out.1.kept (hb2.block _ H1.out.1.map.lt) (hb2.block _ H1.out.1.iter.1), below_join H1.out.2.1 hb2⟩
      clear HE hb2
      go_wp2_with fail
      go_roundw
      case rel => exact ⟨r1 ++ r2, cnt1, H2.out.1, rfl, H1.out.2.2.2, HN, H2.out.2⟩
      case measure =>
        have h1 := H2.out.1.left_eq
        have h2 := HRg.out.left_eq
        have h3 := H1.out.2.2.1
        rw [h1, h2]
        exact h3
theorem cbuf_any (N cb : Nat) (g : Cfg) (c : ConS) (a : ConX) (w : World) (h : ConAt N w cb g c a) (hi : ConInv g c) {M : Int} (hok : ConOk M c) (hg : CfgOk g) :
    Calls Tryz.prog 70 #[.pointer (some ⟨cb, 0, none⟩), .func (.func 71) #[] #[]] w fun e w' => e = .returned (.int .i64 (bufS c.streams)) /\ Below w.heap.size w w' := by
  obtain ⟨n, hn, hm⟩ := h.smap
  have c21 : w.cell? ⟨cb, 21, none⟩ = some (.map (some a.sm)) := h.blk.cell 21
  rw [buf_split hi.str h.mp]
  have hg4 := hg.c4
  refine csumB_any cb a.sm n a.sl _ w c21 hm (fun p hp W hW => ?_) (fun p hp => ?_) ?_
  · obtain ⟨_, x, hx, _⟩ := h.mp.str p hp
    have hsx := (h.str p hp x hx).below hW
    have e : atS (fun x => (fullL x.bytes : Int)) c.streams p.1 = (fullL x.bytes : Int) := by simp [atS, hx]
    rw [e]
    exact tBuffered_any p.2 _ g.c2 x W hsx (hi.str x (List.mem_of_getElem? hx)) (by omega)
  · obtain ⟨_, x, hx, _⟩ := h.mp.str p hp
    have e : atS (fun x => (fullL x.bytes : Int)) c.streams p.1 = (fullL x.bytes : Int) := by simp [atS, hx]
    rw [e]
    have h1 := hi.str x (List.mem_of_getElem? hx)
    have h2 : fullL x.bytes <= x.bytes.length := List.countP_le_length
    have h3 := h1.len
    have h4 := h1.cred
    have h5 := h1.read
    omega
  · have h2 := hok.slen
    have h3 := h.mp.len
    omega
end Go.Proofs.YthmdjhlhodpbhaaGreatDoor
