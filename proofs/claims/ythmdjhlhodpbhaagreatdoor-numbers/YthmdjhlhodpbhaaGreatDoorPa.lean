/-
  plays, ahead of its loop: the script behind the eight steps that stand ahead of any script.
-/
import Derived.Test.YthmdjhlhodpbhaaGreatDoorSt
import Derived.Great.BuildSlice
import Derived.Laws.AppendOwnNone
namespace Go.Proofs.YthmdjhlhodpbhaaGreatDoor
open Go.RowKit

structure OpD where
  kd : Int
  on : Int
  a : Int
  b : Int
  nn : Int
  c0 : Int
  c1 : Int
  c2 : Int
  c3 : Int
  c4 : Int
  c5 : Int
  c6 : Int
  c7 : Int
  c8 : Int
  c9 : Int
  v : Value
def OpD.cells (o : OpD) : List Value := [.int .i64 o.kd, .int .i64 o.on, .int .i64 o.a, .int .i64 o.b, .int .i64 o.nn, .int .i64 o.c0, .int .i64 o.c1, .int .i64 o.c2, .int .i64 o.c3, .int .i64 o.c4, .int .i64 o.c5, .int .i64 o.c6, .int .i64 o.c7, .int .i64 o.c8, .int .i64 o.c9, o.v]
def fixedOps (hV gV : Value) : List OpD :=
  [⟨1, 0, 70, 0, 0, 0, 0, 0, 0, 0, 0, 0, 0, 0, 0, .slice none 0 0⟩, ⟨5, 0, 0, 0, 0, 2, 16, 8, 2, 2, 1, 10, 5, 1000, 0, .slice none 0 0⟩, ⟨6, 0, 7, 0, 0, 0, 0, 0, 0, 0, 0, 0, 0, 0, 0, hV⟩, ⟨6, 0, 9, 0, 0, 0, 0, 0, 0, 0, 0, 0, 0, 0, 0, gV⟩,
    ⟨8, 0, 0, 0, 0, 0, 0, 0, 0, 0, 0, 0, 0, 0, 0, .slice none 0 0⟩, ⟨9, 0, 0, 0, 0, 0, 0, 0, 0, 0, 0, 0, 0, 0, 0, .slice none 0 0⟩, ⟨10, 0, 5, 0, 0, 0, 0, 0, 0, 0, 0, 0, 0, 0, 0, .slice none 0 0⟩, ⟨11, 0, 6, 1, 9, 0, 0, 0, 0, 0, 0, 0, 0, 0, 0, .slice none 0 0⟩]
def cellsOf (ops : List OpD) : List Value := ops.flatMap OpD.cells
theorem cellsOf_length (ops : List OpD) : (cellsOf ops).length = ops.length * 16 := by
  induction ops with
  | nil => rfl
  | cons o r ih => simp only [cellsOf, List.flatMap_cons, List.length_append] at ih ⊢; rw [ih]; simp [OpD.cells]; omega
theorem cellsOf_append (a b : List OpD) : cellsOf (a ++ b) = cellsOf a ++ cellsOf b := by simp [cellsOf]
def allCells (hV gV : Value) : Array Value := (cellsOf (fixedOps hV gV)).toArray
theorem info_op : (Tryz.prog.info? 90).map (fun i => (i.zero, i.size, i.bytes)) = some (some (.agg #[.int .i64 0, .int .i64 0, .int .i64 0, .int .i64 0, .int .i64 0, .int .i64 0, .int .i64 0, .int .i64 0, .int .i64 0, .int .i64 0, .int .i64 0, .int .i64 0, .int .i64 0, .int .i64 0, .int .i64 0, .slice none 0 0]), 16, 144) := by kernel_rfl

/-- the slice of the script -/
def Script (w : World) (vs : Value) (ops : List OpD) : Prop :=
  (ops = [] ∧ vs = .slice none 0 0) ∨ ∃ ad cap, vs = .slice (some ad) ops.length cap ∧ ∀ (j : Nat) u, (cellsOf ops)[j]? = some u → w.cell? (ad.add j) = some u

theorem tok_small : tokM 2 16 8 2 2 1 10 5 1000 0 9 4 = tokenL 0 9 4 := tokM_yes (by decide)

theorem wpList_buildRow {P : Program} {ops : Array Oper} {rest : List Oper} {o : Oper} {a : Act} {w : World} {Q : Exit → Act → World → Prop} (hg : o.guard = none) (t e : TypeId) (len : Nat) (parts : Array (Nat × Operand)) (ho : o.op = .buildSlice t len parts)
    (d : Option Tmp) (hd : o.dst = d) (cells : Array Value) (ie : TypeInfo) (z : Value) (size : Nat) (hsz : ie.size = size)
    (hu : P.underlying t = some (.slice e)) (hie : P.info? e = some ie) (hz : ie.zero = some z) (hsmall : ¬ len * size > 2 ^ 24) (hpos : ¬ len * size = 0)
    (hf : Instr.fill (fun i => some (i * size, size)) ((Array.range (len * size)).map (z.cells[· % z.cells.size]!)) (parts.map fun (i, x) => (i, a.eval x)).toList = some cells)
    (h : wpList P ops Q rest (a.put d (.slice (some ⟨w.heap.size, 0, none⟩) len len)) (w.alloc (.cells cells e))) : wpList P ops Q (o :: rest) a w := by
  subst hsz hd
  exact wpList_buildSlice hg t e len parts ho cells ie z hu hie hz hsmall hpos hf h
theorem own_ops (w : World) (base : Nat) (hb : base ≤ w.heap.size) (hV gV : Value) : (w.alloc (.cells (allCells hV gV) 90)).ownsRow base 90 16 (.slice (some ⟨w.heap.size, 0, none⟩) 8 8) 8 (cellsOf (fixedOps hV gV)) := by
  have := World.ownsRow_lit (base := base) (e := 90) (size := 16) w (allCells hV gV) 8 hb (by decide) (by unfold allCells; rw [List.size_toArray, cellsOf_length]; rfl)
  simpa [allCells] using this

/-- append(all, script...): the script nil or not -/
theorem wpList_append_src {P : Program} {w : World} {ops : Array Oper} {rest : List Oper} {o : Oper} {a : Act} {Q : Exit → Act → World → Prop} (hgd : o.guard = none) (s x : Operand) (t : TypeId)
    (ho : o.op = .call { callee := .builtin .append, args := #[s, x], argTypes := #[t, t] })
    (base : Nat) (e : TypeId) (i : TypeInfo) (z : Value) (size bytes : Nat) (ht : P.underlying t = some (.slice e)) (hi : P.info? e = some i) (hz : i.zero = some z)
    (hsize : i.size = size) (hby : i.bytes = bytes) (hzs : z.cells.size = size) (hsz : 0 < size)
    (v : Value) (n : Nat) (xs : List Value) (hs : a.eval s = v) (hown : w.ownsRow base e size v n xs)
    (sv : Value) (m : Nat) (news : List Value) (hx : a.eval x = sv) (hsrc : (sv = .slice none 0 0 ∧ m = 0 ∧ news = []) ∨ ∃ ad c, sv = .slice (some ad) m c ∧ ∀ (j : Nat) u, news[j]? = some u → w.cell? (ad.add j) = some u) (hl : news.length = m * size) (h1 : ∀ u ∈ news, u.oneCell' = true)
    (h63 : n + m ≤ maxLen) (hbytes : (n + m) * bytes ≤ 140737488355328) (hbase : base ≤ w.heap.size)
    (h : ∀ v' w', w'.ownsRow base e size v' (n + m) (xs ++ news) → w.grownBy w' v.ownBlock → wpList P ops Q rest (a.put o.dst v') w') : wpList P ops Q (o :: rest) a w := by
  rcases hsrc with ⟨rfl, rfl, rfl⟩ | ⟨ad, c, rfl, hc⟩
  · refine wpList_append_own_none hgd s x t ho base e i size ht hi v n xs hs hown hx (h v w (by simpa using hown) (below_grown (Below.refl _ _) _))
  · exact wpList_append_own w hgd s x t ho base e i z size bytes ht hi hz hsize hby hzs hsz v n xs hs hown ad m c news hx hl hc h1 h63 hbytes hbase (fun v' w' h1 h2 _ => h v' w' h1 h2)
theorem cellsOf_at (ops : List OpD) : ∀ (k : Nat) (hk : k < ops.length) (j : Nat), j < 16 → (cellsOf ops)[k * 16 + j]? = (ops[k]).cells[j]? := by
  induction ops with
  | nil => intro k hk; simp at hk
  | cons o r ih =>
    intro k hk j hj
    have e : cellsOf (o :: r) = o.cells ++ cellsOf r := by simp [cellsOf]
    have hl : o.cells.length = 16 := rfl
    rw [e]
    cases k with
    | zero => rw [List.getElem?_append_left (by omega)]; simp
    | succ k =>
      rw [List.getElem?_append_right (by omega), hl, show (k + 1) * 16 + j - 16 = k * 16 + j from by omega, ih k (by simpa using hk) j hj]
      simp
theorem own_some16 {w : World} {base : Nat} {e : TypeId} {v : Value} {n : Nat} {xs : List Value} (h : w.ownsRow base e 16 v n xs) (hn : 0 < n) : ∃ g cap, v = .slice (some ⟨g, 0, none⟩) n cap ∧ base ≤ g ∧ g < w.heap.size ∧ n ≤ cap := by
  rcases h.2 with ⟨_, h0⟩ | ⟨g, cap, cur, rfl, hb, hg, hnc, _⟩
  · omega
  · exact ⟨g, cap, rfl, hb, (Array.getElem?_eq_some_iff.1 hg).1, hnc⟩
theorem Script.src {w w' : World} {vs : Value} {ops : List OpD} (h : Script w vs ops) (hb : Below w.heap.size w w') : (vs = .slice none 0 0 ∧ ops.length = 0 ∧ cellsOf ops = []) ∨ ∃ ad c, vs = .slice (some ad) ops.length c ∧ ∀ (j : Nat) u, (cellsOf ops)[j]? = some u → w'.cell? (ad.add j) = some u := by
  rcases h with ⟨rfl, rfl⟩ | ⟨ad, cap, rfl, hc⟩
  · exact Or.inl ⟨rfl, rfl, rfl⟩
  · exact Or.inr ⟨ad, cap, rfl, fun j u hu => cell_below (hc j u hu) hb⟩
theorem cellsOf_one {ops : List OpD} (h : ∀ o ∈ ops, o.v.oneCell' = true) : ∀ u ∈ cellsOf ops, u.oneCell' = true := by
  intro u hu
  obtain ⟨o, ho, hu⟩ := List.mem_flatMap.1 hu
  have := h o ho
  simp only [OpD.cells, List.mem_cons, List.not_mem_nil, or_false] at hu
  rcases hu with rfl | rfl | rfl | rfl | rfl | rfl | rfl | rfl | rfl | rfl | rfl | rfl | rfl | rfl | rfl | rfl
  all_goals first | rfl | exact this

theorem kept_below {w wA wr : World} (h : Below w.heap.size w wA) (hk : Kept wA.heap.size w.heap.size wA wr) : Below w.heap.size w wr :=
  ⟨hk.os.trans h.os, hk.tape.trans h.tape, hk.output.trans h.output, Nat.le_trans h.size hk.size, fun i hi => (hk.block i (Nat.lt_of_lt_of_le hi h.size) (by omega)).trans (h.block i hi)⟩

set_option maxHeartbeats 4000000 in
set_option maxRecDepth 20000 in
theorem plays_any (ops : List OpD) (vs : Value) (w : World) (he : Env w) (hs : Script w vs ops) (hok : ∀ o ∈ ops, OkBytes w o.v ∧ o.v.oneCell' = true) (hn : ops.length * 144 ≤ 140737488351232) :
    Calls Tryz.prog 12 #[vs, .int .i64 4] w fun e w' => e = .returned (.bool true) ∧ Below w.heap.size w w' := by
  obtain ⟨i0, hi, hz0, hz1, hz2⟩ := info_parts info_u8
  obtain ⟨j0, hj, hy0, hy1, hy2⟩ := info_parts info_op
  have HE := hideIt he
  have HS := hideIt hs
  have HO := hideIt hok
  clear he hs hok
  go_enter Tryz.func12, Tryz.ntmps12
  go_wp2_with fail
  have F0 : Below w.heap.size w ((w.alloc (.cells #[.slice none 0 0, .slice none 0 0, .slice none 0 0] 85)).alloc (.cells #[.int .u8 1, .int .u8 5, .int .u8 0, .int .u8 0, .int .u8 0, .int .u8 0, .int .u8 3, .int .u8 0, .int .u8 0, .int .u8 2, .int .u8 104, .int .u8 105] 5)) ∧
      ((w.alloc (.cells #[.slice none 0 0, .slice none 0 0, .slice none 0 0] 85)).alloc (.cells #[.int .u8 1, .int .u8 5, .int .u8 0, .int .u8 0, .int .u8 0, .int .u8 0, .int .u8 3, .int .u8 0, .int .u8 0, .int .u8 2, .int .u8 104, .int .u8 105] 5)).heap[w.heap.size]? = some (.cells #[.slice none 0 0, .slice none 0 0, .slice none 0 0] 85 (0, 0)) := by
    refine ⟨(below_alloc w _).alloc (by simp) _, ?_⟩
    rw [Below.heap_alloc _ _ _ (by simp)]
    exact heap_alloc_last w _
  generalize (w.alloc (.cells #[.slice none 0 0, .slice none 0 0, .slice none 0 0] 85)).alloc (.cells #[.int .u8 1, .int .u8 5, .int .u8 0, .int .u8 0, .int .u8 0, .int .u8 0, .int .u8 3, .int .u8 0, .int .u8 0, .int .u8 2, .int .u8 104, .int .u8 105] 5) = W0 at F0 ⊢
  obtain ⟨hb0, hw0⟩ := F0
  refine (small_any W0).mono ?_
  rintro e w1 ⟨rfl, hb1⟩
  have hbb1 := below_join hb0 hb1
  have hw1 : w1.heap[w.heap.size]? = _ := (hb1.block _ (Array.getElem?_eq_some_iff.1 hw0).1).trans hw0
  have HW := hideIt hw1
  clear hb0 hw0 hb1 hw1
  go_wp2_with fail
  refine (rToken_any 2 16 8 2 2 1 10 5 1000 0 9 4 w1).mono ?_
  rintro e w2 ⟨vt, rfl, hown2, hb2⟩
  rw [tok_small] at hown2
  have hbb2 := below_join hbb1 hb2
  have hw2 : w2.heap[w.heap.size]? = _ := (hb2.block _ (Array.getElem?_eq_some_iff.1 HW.out).1).trans HW.out
  have HW2 := hideIt hw2
  obtain ⟨gt, ct, rfl, hgt1, hgt2, hgt3⟩ := own_some hown2 (by decide)
  have HT := hideIt hown2
  clear hb2 hw2 hown2 HW hbb1
  have hs2 : w.heap.size ≤ w2.heap.size := hbb2.size
  go_wp2_with (at_builtin; refine wpList_append_own _ rfl _ _ 44 rfl w2.heap.size 5 i0 (.int .u8 0) 1 1 Tryz.underlying44 hi hz0 hz1 hz2 rfl (by decide) (.slice (some ⟨w2.heap.size, 0, none⟩) 3 3) 3 (U8 [1, 6, 9]) rfl (own_lit w2 5 (U8 [1, 6, 9]) (by decide)) ⟨gt, 0, none⟩ (tokenL 0 9 4).length ct (U8 (tokenL 0 9 4)) rfl (by rw [U8_length]; simp) ((own_below HT.out (below_alloc w2 _)).cells rfl) (u8_one _) (by decide) (by decide) (by simp) ?_; intro v3 w3 hown3 hg3 _; refine Hid.out ?_)
  refine hideIt ?_
  have hb3 : Below w2.heap.size w2 w3 := (below_alloc w2 _).grown hg3 (by simp) (fun g hg => by simp [Value.ownBlock] at hg; omega)
  have hbb3 := below_join hbb2 hb3
  have HW3 : Hid (w3.heap[w.heap.size]? = _) := (hb3.block _ (Array.getElem?_eq_some_iff.1 HW2.out).1).trans HW2.out
  have hs3 : w2.heap.size ≤ w3.heap.size := hb3.size
  have hlt2 : w.heap.size < w2.heap.size := (Array.getElem?_eq_some_iff.1 HW2.out).1
  clear hg3 HW2 HT hgt1 hgt2 hgt3 hbb2
  go_wp2_with (at_builtin; refine wpList_append_own _ rfl _ _ 44 rfl w2.heap.size 5 i0 (.int .u8 0) 1 1 Tryz.underlying44 hi hz0 hz1 hz2 rfl (by decide) v3 _ _ rfl (hown3.alloc _) ⟨w3.heap.size, 0, none⟩ 5 5 (U8 [4, 1, 0, 1, 120]) rfl rfl (lit_cells w3 5 (U8 [4, 1, 0, 1, 120]) (by decide)) (u8_one _) (by decide) (by decide) (by simp; omega) ?_; intro v4 w4 hown4 hg4 _; refine Hid.out ?_)
  refine hideIt ?_
  have hb4 : Below w2.heap.size w3 w4 := ((below_alloc w3 _).mono hs3).grown hg4 (by simp; omega) (fun g hg => (hown3.lt g hg).1)
  have hbb4 : Below w.heap.size w w4 := hbb3.trans (hb4.mono hs2)
  have HW4 : Hid (w4.heap[w.heap.size]? = some (.cells #[.slice none 0 0, .slice none 0 0, .slice none 0 0] 85 (0, 0))) := (hb4.block _ hlt2).trans HW3.out
  obtain ⟨a4, c4, rfl⟩ := own_form hown4
  clear hg4 hb4 HW3 hown3 hb3 hbb3 hown4
  go_wp2_with fail
  refine (small_any w4).mono ?_
  rintro e w5 ⟨rfl, hb5⟩
  have hbb5 := below_join hbb4 hb5
  have HW5 : Hid (w5.heap[w.heap.size]? = _) := (hb5.block _ (Array.getElem?_eq_some_iff.1 HW4.out).1).trans HW4.out
  clear HW4 hb5 hbb4
  go_wp2_with (refine wpList_buildRow rfl 22 90 8 _ rfl _ rfl (allCells (.slice (some ⟨w.heap.size + 1, 0, none⟩) 12 12) (.slice a4 17 c4)) j0 _ 16 hy1 Tryz.underlying22 hj hy0 (by decide) (by decide) (by kernel_rfl) ?_; refine Hid.out ?_)
  refine hideIt ?_
  have hs5 : w.heap.size < w5.heap.size := (Array.getElem?_eq_some_iff.1 HW5.out).1
  generalize hhV : (Value.slice (some ⟨w.heap.size + 1, 0, none⟩) 12 12) = hV
  generalize hgV : (Value.slice a4 17 c4) = gV
  have hbA := hbb5.alloc (Nat.le_of_lt hs5) (.cells (allCells hV gV) 90)
  have HSrc := hideIt (HS.out.src hbA)
  have HAll := hideIt (own_ops w5 w5.heap.size (Nat.le_refl _) hV gV)
  have HOne := hideIt (cellsOf_one fun o ho => (HO.out o ho).2)
  clear hhV hgV
  go_wp2_with (at_builtin; refine wpList_append_src rfl _ _ 22 rfl w5.heap.size 90 j0 _ 16 144 Tryz.underlying22 hj hy0 hy1 hy2 rfl (by decide) (.slice (some ⟨w5.heap.size, 0, none⟩) 8 8) 8 (cellsOf (fixedOps hV gV)) rfl HAll.out vs ops.length (cellsOf ops) rfl HSrc.out (cellsOf_length ops) HOne.out (by unfold maxLen; omega) (by omega) (by simp) ?_; intro vA wA hownA hgA; refine Hid.out ?_)
  refine hideIt ?_
  have hA5 : Below w5.heap.size w5 wA := (below_alloc w5 _).grown hgA (by simp) (fun g hg => by simp [Value.ownBlock] at hg; omega)
  have hbA' := below_join hbb5 hA5
  have HWA : Hid (wA.heap[w.heap.size]? = some (.cells #[.slice none 0 0, .slice none 0 0, .slice none 0 0] 85 (0, 0))) := (hA5.block _ hs5).trans HW5.out
  have hsA : w5.heap.size ≤ wA.heap.size := hA5.size
  obtain ⟨gA, cA, rfl, hgA1, hgA2, hgA3⟩ := own_some16 hownA (by omega)
  rw [← cellsOf_append] at hownA
  have hlen : (fixedOps hV gV ++ ops).length = 8 + ops.length := by simp [fixedOps]; omega
  have HOps : Hid (∀ o ∈ fixedOps hV gV ++ ops, o.kd ≤ 4 → OkBytes w o.v) := by
    intro o ho hk
    rcases List.mem_append.1 ho with h | h
    · simp only [fixedOps, List.mem_cons, List.not_mem_nil, or_false] at h
      rcases h with rfl | rfl | rfl | rfl | rfl | rfl | rfl | rfl
      · exact Or.inl rfl
      all_goals simp at hk
    · exact (HO.out o h).1
  generalize fixedOps hV gV ++ ops = allOps at hownA hlen HOps
  have HCell : Hid (∀ k o, allOps[k]? = some o → ∀ j, j < 16 → wA.cell? ⟨gA, k * 16 + j, none⟩ = o.cells[j]?) := by
    intro k o hk j hj
    obtain ⟨hk', rfl⟩ := List.getElem?_eq_some_iff.1 hk
    rw [World.ownsRow.cellAt hownA (k * 16 + j) (by omega), cellsOf_at allOps k hk' j hj]
  have HInv : Hid (Inv wA wA.heap.size w.heap.size 0) := ⟨.slice none 0 0, [], HWA.out, ⟨by omega, Nat.le_refl _⟩, by decide, World.ownsRow_nil _ _ _ _, fun i u hu => by simp at hu⟩
  clear hownA hgA HAll HSrc HOne HO HS HW5 HWA hA5 hbb5 hbA hgA3 hlt2 hs3 hs2
  have hnN : 8 + ops.length ≤ 1000000000000 := by omega
  generalize 8 + ops.length = N at hlen hnN ⊢
  have HL := hideIt hlen
  clear hlen hn hy0 hy1 hy2 hj hz0 hz1 hz2 hi
  go_wp2_with fail
  go_loopw [11] (fun i wr => ∃ k : Nat, k ≤ N ∧ i = .int .i64 k ∧ ∃ L, L ≤ 4 * k ∧ Inv wr wA.heap.size w.heap.size L ∧ Kept wA.heap.size w.heap.size wA wr) (fun i _ => N - (intOf i).toNat)
  case atStart => exact ⟨0, Nat.zero_le _, rfl, 0, Nat.le_refl _, HInv.out, Kept.refl _ _ _⟩
  case round =>
    obtain ⟨k, hk, rfl, L, hL, hinv, hkept⟩ := hrel
    have HI := hideIt hinv
    have HK := hideIt hkept
    clear hinv hkept
    by_cases hlt : k < N
    · obtain ⟨o, ho⟩ : ∃ o, allOps[k]? = some o := ⟨_, List.getElem?_eq_getElem (by rw [HL.out]; exact hlt)⟩
      have hok : o.kd ≤ 4 → OkBytes wr o.v := fun h => (HOps.out o (List.mem_of_getElem? ho) h).below (kept_below hbA' HK.out)
      have hne : gA ≠ w.heap.size := by omega
      have HQ : Hid (∀ wr', Kept wA.heap.size w.heap.size wA wr' → ∀ j, j < 16 → wr'.cell? ⟨gA, k * 16 + j, none⟩ = o.cells[j]?) :=
        fun wr' hk' j hj => (hk'.cell (p := ⟨gA, k * 16 + j, none⟩) hgA2 hne).trans (HCell.out k o ho j hj)
      obtain ⟨kd, on, a, b, nn, c0, c1, c2, c3, c4', c5, c6, c7, c8, c9, v⟩ := o
      have q := HQ.out wr HK.out
      have p0 := q 0 (by decide)
      have p1 := q 1 (by decide)
      have p2 := q 2 (by decide)
      have p3 := q 3 (by decide)
      have p4 := q 4 (by decide)
      have p5 := q 5 (by decide)
      have p6 := q 6 (by decide)
      have p7 := q 7 (by decide)
      have p8 := q 8 (by decide)
      have p9 := q 9 (by decide)
      have p10 := q 10 (by decide)
      have p11 := q 11 (by decide)
      have p12 := q 12 (by decide)
      have p13 := q 13 (by decide)
      have p14 := q 14 (by decide)
      have p15 := q 15 (by decide)
      simp only [OpD.cells, List.getElem?_cons_zero, List.getElem?_cons_succ, Nat.add_zero] at p0 p1 p2 p3 p4 p5 p6 p7 p8 p9 p10 p11 p12 p13 p14 p15
      simp only at hok
      have HOK := hideIt hok
      clear ho q hok
      by_cases hkd : 4 < kd
      · go_wp2_with fail
        go_roundw
        case rel => exact ⟨k + 1, by omega, by go_num, L, by omega, HI.out, HK.out⟩
        case measure => simp [intOf]; omega
      · have hkd4 : kd ≤ 4 := by omega
        go_wp2_with fail
        refine (step_any kd on a b nn c0 c1 c2 c3 c4' c5 c6 c7 c8 c9 v wA.heap.size w.heap.size L wr (HE.out.below (kept_below hbA' HK.out)) (HOK.out hkd4) HI.out (by omega) hkd4).mono ?_
        rintro e w6 ⟨rfl, ⟨L', hL1, hL2, hinv⟩, hkept⟩
        have HK6 := hideIt (HK.out.trans hkept)
        have HI6 := hideIt hinv
        have p := HQ.out w6 HK6.out 0 (by decide)
        simp only [OpD.cells, List.getElem?_cons_zero, Nat.add_zero] at p
        have hk5 : (kd == 5) = false := beq_eq_false_iff_ne.2 (by omega)
        clear hinv hkept p0 p1 p2 p3 p4 p5 p6 p7 p8 p9 p10 p11 p12 p13 p14 p15 HK HI HOK HQ
        go_wp2_with fail
        refine (looks_any wA.heap.size w.heap.size L' w6 HI6.out (by omega)).mono ?_
        rintro e w7 ⟨rfl, rfl⟩
        go_wp2_with fail
        go_roundw
        case rel => exact ⟨k + 1, by omega, by go_num, L', by omega, HI6.out, HK6.out⟩
        case measure => simp [intOf]; omega
    · obtain rfl : k = N := by omega
      go_wp2_with fail
      go_ret
      exact ⟨rfl, kept_below hbA' HK.out⟩
end Go.Proofs.YthmdjhlhodpbhaaGreatDoor
