/-
  The lists that came out, written over with a mark each (World.byted): what the law keeps of them from step to step.
-/
import Derived.Test.YthmdjhlhodpbhaaGreatDoorMk
import Derived.OneCell
namespace Go.Proofs.YthmdjhlhodpbhaaGreatDoor
open Go.RowKit

/-- the mark of the k-th list -/
def markL (k : Nat) : Int := 101 + (k : Int) / 4 % 97
theorem markL_range (k : Nat) : 101 ≤ markL k ∧ markL k < 198 := by unfold markL; omega
/-- below block number B, but for one block, the world is as it was -/
structure Kept (B bw : Nat) (w w' : World) : Prop where
  os : w'.os = w.os
  tape : w'.tape = w.tape
  output : w'.output = w.output
  size : w.heap.size ≤ w'.heap.size
  block : ∀ k, k < B → k ≠ bw → w'.heap[k]? = w.heap[k]?
theorem Kept.refl (B bw : Nat) (w : World) : Kept B bw w w := ⟨rfl, rfl, rfl, Nat.le_refl _, fun _ _ _ => rfl⟩
theorem Kept.trans {B bw : Nat} {a b c : World} (h : Kept B bw a b) (k : Kept B bw b c) : Kept B bw a c :=
  ⟨k.os.trans h.os, k.tape.trans h.tape, k.output.trans h.output, Nat.le_trans h.size k.size, fun i hi hn => (k.block i hi hn).trans (h.block i hi hn)⟩
theorem Kept.of_below {B bw : Nat} {w w' : World} (h : Below B w w') : Kept B bw w w' := ⟨h.os, h.tape, h.output, h.size, fun k hk _ => h.block k hk⟩
theorem Kept.cell {B bw : Nat} {w w' : World} (h : Kept B bw w w') {p : Addr} (hp : p.block < B) (hn : p.block ≠ bw) : w'.cell? p = w.cell? p := World.cell?_of_block (w := w) (h.block p.block hp hn)

/-- all lists that came out so far (k of them) read as their owner left them -/
def Inv (w : World) (base bw : Nat) (k : Nat) : Prop :=
  ∃ vb vals, w.heap[bw]? = some (.cells #[.slice none 0 0, vb, .slice none 0 0] 85 (0, 0)) ∧ (bw < base ∧ base ≤ w.heap.size) ∧ k % 4 = 0 ∧ w.ownsRow base 44 1 vb k vals ∧
    ∀ (i : Nat) u, vals[i]? = some u → ∃ n, n ≤ 1000003 ∧ Row w base 5 u n (.int .u8 (markL i))

theorem own_form {w : World} {base : Nat} {e : TypeId} {v : Value} {n : Nat} {xs : List Value} (h : w.ownsRow base e 1 v n xs) : ∃ ao cap, v = .slice ao n cap := by
  rcases h.2 with ⟨rfl, rfl⟩ | ⟨g, cap, cur, rfl, _⟩
  · exact ⟨none, 0, rfl⟩
  · exact ⟨_, _, rfl⟩
theorem own_block {w : World} {base : Nat} {e : TypeId} {v : Value} {n : Nat} {xs : List Value} (h : w.ownsRow base e 1 v n xs) {g : Nat} (hg : v.ownBlock = some g) : ∃ cur, w.heap[g]? = some (.cells cur e (0, 0)) := by
  rcases h.2 with ⟨rfl, rfl⟩ | ⟨g', cap, cur, rfl, _, hh, _⟩
  · simp [Value.ownBlock] at hg
  · simp [Value.ownBlock] at hg
    subst hg
    exact ⟨cur, hh⟩
/-- rows of two element types never share a block -/
theorem own_apart {w : World} {b1 b2 : Nat} {e1 e2 : TypeId} {v1 v2 : Value} {n1 n2 : Nat} {x1 x2 : List Value} (h1 : w.ownsRow b1 e1 1 v1 n1 x1) (h2 : w.ownsRow b2 e2 1 v2 n2 x2) (he : e1 ≠ e2) : v1.ownBlock = none ∨ v1.ownBlock ≠ v2.ownBlock := by
  cases hv : v1.ownBlock with
  | none => exact Or.inl rfl
  | some g =>
    refine Or.inr fun e => ?_
    obtain ⟨c1, e1'⟩ := own_block h1 hv
    obtain ⟨c2, e2'⟩ := own_block h2 e.symm
    rw [e1'] at e2'
    simp only [Option.some.injEq, Obj.cells.injEq] at e2'
    exact he e2'.2.1
theorem own_not_block {w : World} {b1 : Nat} {e1 e2 : TypeId} {v1 : Value} {n1 : Nat} {x1 : List Value} {g : Nat} {cs : Array Value} {fr : Nat × Nat} (h1 : w.ownsRow b1 e1 1 v1 n1 x1) (hg : w.heap[g]? = some (.cells cs e2 fr)) (he : e1 ≠ e2) : v1.ownBlock ≠ some g := by
  intro hv
  obtain ⟨c1, e1'⟩ := own_block h1 hv
  rw [hg] at e1'
  simp only [Option.some.injEq, Obj.cells.injEq] at e1'
  exact he e1'.2.1.symm
theorem set_marks {xs : List Value} {x : Value} {k n : Nat} (hl : xs.length = n) (hk : k < n) : (List.replicate k x ++ xs.drop k).set k x = List.replicate (k + 1) x ++ xs.drop (k + 1) := by
  rw [List.set_append_right _ _ (by simp), List.length_replicate, Nat.sub_self]
  rw [List.drop_eq_getElem_cons (by omega : k < xs.length)]
  rw [List.set_cons_zero, List.replicate_succ', List.append_assoc]
  rfl

theorem info_bytes : (Tryz.prog.info? 44).map (fun i => (i.zero, i.size, i.bytes)) = some (some (.slice none 0 0), 1, 24) := by kernel_rfl

theorem markL_same {k j : Nat} (h : k % 4 = 0) (hj : j < 4) : markL (k + j) = markL k := by
  unfold markL
  have : ((k + j : Nat) : Int) / 4 = (k : Int) / 4 := by omega
  rw [this]

/-- the end of byted: the four lists are noted -/
theorem byted_close {w0 w3 w4 : World} {base bw k j : Nat} {vals : List Value} {vb v4 l1 l2 l3 l4 : Value} {x : Int}
    (hW : w0.heap[bw]? = some (.cells #[.slice none 0 0, vb, .slice none 0 0] 85 (0, 0))) (hbw : bw < base ∧ base ≤ w0.heap.size) (hk4 : k % 4 = 0) (hvb : w0.ownsRow base 44 1 vb k vals)
    (hrows : ∀ (i : Nat) u, vals[i]? = some u → ∃ n, n ≤ 1000003 ∧ Row w0 base 5 u n (.int .u8 (markL i))) (hb3 : Below w0.heap.size w0 w3) (hx : markL k = x) (hj : j ≤ 1000000)
    (h1 : Row w3 w0.heap.size 5 l1 j (.int .u8 x)) (h2 : Row w3 w0.heap.size 5 l2 (j + 1) (.int .u8 x)) (h3 : Row w3 w0.heap.size 5 l3 (j + 2) (.int .u8 x)) (h4 : Row w3 w0.heap.size 5 l4 (j + 3) (.int .u8 x))
    (hown4 : w4.ownsRow base 44 1 v4 (k + 4) (vals ++ [l1, l2, l3, l4])) (hg4 : (w3.alloc (.cells #[l1, l2, l3, l4] 44)).grownBy w4 vb.ownBlock) :
    w4.heap[bw]? = some (.cells #[.slice none 0 0, vb, .slice none 0 0] 85 (0, 0)) ∧ Inv (w4.setCell ⟨bw, 1, none⟩ v4) base bw (k + 4) ∧ Kept base bw w0 (w4.setCell ⟨bw, 1, none⟩ v4) := by
  have hlt : bw < w0.heap.size := (Array.getElem?_eq_some_iff.1 hW).1
  have hs3 := hb3.size
  have hvb3 := own_below hvb hb3
  have hW3 : w3.heap[bw]? = some (.cells #[.slice none 0 0, vb, .slice none 0 0] 85 (0, 0)) := by rw [hb3.block bw hlt]; exact hW
  have hg4' : w3.grownBy w4 vb.ownBlock := grown_after_alloc hg4
  have hW4 : w4.heap[bw]? = some (.cells #[.slice none 0 0, vb, .slice none 0 0] 85 (0, 0)) := by
    rw [hg4'.block bw (by omega) (fun e => own_not_block hvb3 hW3 (by decide) e.symm)]; exact hW3
  have hb0 : base ≤ w0.heap.size := hbw.2
  have hs4 := hg4'.size
  refine ⟨hW4, ?_, ?_⟩
  · refine ⟨v4, vals ++ [l1, l2, l3, l4], ?_, ⟨hbw.1, by simp [World.setCell]; omega⟩, by omega, ?_, ?_⟩
    · rw [heap_setCell_same w4 bw 1 _ _ v4 hW4]; rfl
    · exact ownsRow_setCell_other hown4 (own_not_block hown4 hW4 (by decide)) v4
    · have keep : ∀ b' u n y, b' ≤ w0.heap.size → Row w3 b' 5 u n y → base ≤ b' → Row (w4.setCell ⟨bw, 1, none⟩ v4) base 5 u n y := by
        intro b' u n y _ hu hbb
        have hu4 := row_grown hu hg4' (own_apart hu hvb3 (by decide))
        exact ownsRow_setCell_other (own_mono hu4 hbb) (own_not_block hu4 hW4 (by decide)) v4
      intro i u hu
      have hvl : vals.length = k := by simpa using hvb.1
      rcases Nat.lt_or_ge i k with hik | hik
      · rw [List.getElem?_append_left (by omega)] at hu
        obtain ⟨n, hn, hr⟩ := hrows i u hu
        exact ⟨n, hn, keep base u n _ hb0 (own_below hr hb3) (Nat.le_refl _)⟩
      · rw [List.getElem?_append_right (by omega), hvl] at hu
        obtain ⟨m, rfl⟩ : ∃ m, i = k + m := ⟨i - k, by omega⟩
        rw [Nat.add_sub_cancel_left] at hu
        match m, hu with
        | 0, hu => simp at hu; subst hu; rw [markL_same hk4 (by decide), hx]; exact ⟨j, by omega, keep _ _ _ _ (Nat.le_refl _) h1 hb0⟩
        | 1, hu => simp at hu; subst hu; rw [markL_same hk4 (by decide), hx]; exact ⟨j + 1, by omega, keep _ _ _ _ (Nat.le_refl _) h2 hb0⟩
        | 2, hu => simp at hu; subst hu; rw [markL_same hk4 (by decide), hx]; exact ⟨j + 2, by omega, keep _ _ _ _ (Nat.le_refl _) h3 hb0⟩
        | 3, hu => simp at hu; subst hu; rw [markL_same hk4 (by decide), hx]; exact ⟨j + 3, by omega, keep _ _ _ _ (Nat.le_refl _) h4 hb0⟩
        | m + 4, hu => simp at hu
  · have h4 := (hb3.mono hb0).grown hg4' (by omega) (fun g hg => (hvb3.lt g hg).1)
    exact ⟨h4.os, h4.tape, h4.output, by simp [World.setCell]; omega, fun i hi hn => (Below.heap_setCell _ _ _ _ hn).trans (h4.block i hi)⟩

set_option maxHeartbeats 1000000 in
set_option maxRecDepth 8000 in
theorem byted_any (base bw k n : Nat) (v : Value) (xs : List Value) (w0 w : World) (inv : Inv w0 base bw k) (hb : Below w0.heap.size w0 w) (hv : w.ownsRow w0.heap.size 5 1 v n xs) (hn : n ≤ 1000000) (hk : k ≤ 5000000000000) :
    Calls Tryz.prog 111 #[.pointer (some ⟨bw, 0, none⟩), v] w fun e w' => e = .returned (.tuple #[]) ∧ Inv w' base bw (k + 4) ∧ Kept base bw w0 w' := by
  obtain ⟨i0, hi, hz0, hz1, hz2⟩ := info_parts info_u8
  obtain ⟨j0, hj, hy0, hy1, hy2⟩ := info_parts info_bytes
  obtain ⟨vb, vals, hW, hbw, hk4, hvb, hrows⟩ := inv
  obtain ⟨ab, cb, rfl⟩ := own_form hvb
  obtain ⟨ao, cap, rfl⟩ := own_form hv
  have hlen : xs.length = n := by simpa using hv.1
  have hbwlt : bw < w0.heap.size := (Array.getElem?_eq_some_iff.1 hW).1
  have hWw : w.heap[bw]? = some (.cells #[.slice none 0 0, .slice ab k cb, .slice none 0 0] 85 (0, 0)) := by rw [hb.block bw hbwlt]; exact hW
  have hcb : w.cell? ⟨bw, 1, none⟩ = some (.slice ab k cb) := by simp [World.cell?, hWw]
  have HV := hideIt hv
  have HW := hideIt hWw
  have hxr := markL_range k
  have HX : Hid (markL k = 101 + (k : Int) / 4 % 97) := rfl
  clear hv hWw
  go_enter Tryz.func111, Tryz.ntmps111
  go_wp2
  rw [← HX.out]
  generalize hxx : markL k = x at hxr ⊢
  have HXX := hideIt hxx
  clear hxx
  go_loopw [5] (fun i wr => ∃ j : Nat, j ≤ n ∧ i = .int .i64 j ∧ wr.ownsRow w0.heap.size 5 1 (.slice ao n cap) n (List.replicate j (.int .u8 x) ++ xs.drop j) ∧ w.grownBy wr (Value.slice ao n cap).ownBlock) (fun i _ => n - (intOf i).toNat)
  case atStart => exact ⟨0, Nat.zero_le _, rfl, by simpa using HV.out, below_grown (Below.refl _ _) _⟩
  case round =>
    obtain ⟨j, hjn, rfl, hown, hgr⟩ := hrel
    by_cases hlt : j < n
    · obtain ⟨g, cap', e1, hg1, hg2, hg3⟩ := own_some hown (by omega)
      simp only [Value.slice.injEq] at e1
      obtain ⟨rfl, _, rfl⟩ := e1
      have hcell : ∃ u, wr.cell? ⟨g, j, none⟩ = some u := by
        rw [hown.cellAt j (by omega)]
        exact ⟨_, List.getElem?_eq_getElem (by have := hown.1; omega)⟩
      obtain ⟨u, hcell⟩ := hcell
      have hfr := hown.frozenAt j
      have HO := hideIt (hown.stored j (.int .u8 x))
      have HG := hideIt hgr
      clear hown hgr
      go_wp2
      go_roundw
      case rel =>
        have h1 := HO.out.1
        rw [set_marks hlen hlt] at h1
        exact ⟨j + 1, by omega, by go_num, h1, grown_trans HG.out HO.out.2 (Or.inl rfl)⟩
      case measure => simp [intOf]; omega
    · obtain rfl : j = n := by omega
      have hd : xs.drop j = [] := List.drop_eq_nil_of_le (by omega)
      rw [hd, List.append_nil] at hown
      have hbr : Below w0.heap.size w0 wr := hb.grown hgr hb.size (fun g hg => (HV.out.lt g hg).1)
      clear hd hgr HV
      have hs0 : w0.heap.size ≤ wr.heap.size := hbr.size
      have hone : (Value.int .u8 x).oneCell' = true := rfl
      go_wp2_with (at_builtin; refine wpList_append_mark rfl _ _ 44 rfl w0.heap.size 5 i0 (.int .u8 0) 1 Tryz.underlying44 hi hz0 hz1 hz2 rfl (.int .u8 x) hone (.slice ao j cap) j rfl (hown.alloc _) ⟨wr.heap.size, 0, none⟩ 1 1 rfl (lit_cells wr 5 (List.replicate 1 (.int .u8 x)) (by simp [maxLen])) (by unfold maxLen; omega) (by omega) (by simp; omega) ?_; intro va w1 hra hg1 hk1; refine Hid.out ?_)
      refine hideIt ?_
      have hl1 := hk1 _ _ _ (hown.alloc _)
      have hb1 : Below w0.heap.size w0 w1 := (hbr.alloc hs0 _).grown hg1 (by simp; omega) (fun g hg => (hown.lt g hg).1)
      have hs1 : w0.heap.size ≤ w1.heap.size := hb1.size
      obtain ⟨aa, ca, rfl⟩ := own_form hra
      clear hown hg1 hk1 hbr hs0
      go_wp2_with (at_builtin; refine wpList_append_mark rfl _ _ 44 rfl w0.heap.size 5 i0 (.int .u8 0) 1 Tryz.underlying44 hi hz0 hz1 hz2 rfl (.int .u8 x) hone (.slice ao j cap) j rfl (hl1.alloc _) ⟨w1.heap.size, 0, none⟩ 2 2 rfl (lit_cells w1 5 (List.replicate 2 (.int .u8 x)) (by simp [maxLen])) (by unfold maxLen; omega) (by omega) (by simp; omega) ?_; intro vc w2 hrb hg2 hk2; refine Hid.out ?_)
      refine hideIt ?_
      have hl2 := hk2 _ _ _ (hl1.alloc _)
      have hra2 := hk2 _ _ _ (hra.alloc _)
      have hb2 : Below w0.heap.size w0 w2 := (hb1.alloc hs1 _).grown hg2 (by simp; omega) (fun g hg => (hl1.lt g hg).1)
      have hs2 : w0.heap.size ≤ w2.heap.size := hb2.size
      obtain ⟨ac, cc, rfl⟩ := own_form hrb
      clear hl1 hg2 hk2 hb1 hs1 hra
      go_wp2_with (at_builtin; refine wpList_append_mark rfl _ _ 44 rfl w0.heap.size 5 i0 (.int .u8 0) 1 Tryz.underlying44 hi hz0 hz1 hz2 rfl (.int .u8 x) hone (.slice ao j cap) j rfl (hl2.alloc _) ⟨w2.heap.size, 0, none⟩ 3 3 rfl (lit_cells w2 5 (List.replicate 3 (.int .u8 x)) (by simp [maxLen])) (by unfold maxLen; omega) (by omega) (by simp; omega) ?_; intro vd w3 hrc hg3 hk3; refine Hid.out ?_)
      refine hideIt ?_
      have hl3 := hk3 _ _ _ (hl2.alloc _)
      have hra3 := hk3 _ _ _ (hra2.alloc _)
      have hrb3 := hk3 _ _ _ (hrb.alloc _)
      have hb3 : Below w0.heap.size w0 w3 := (hb2.alloc hs2 _).grown hg3 (by simp; omega) (fun g hg => (hl2.lt g hg).1)
      have hs3 : w0.heap.size ≤ w3.heap.size := hb3.size
      obtain ⟨ad, cd, rfl⟩ := own_form hrc
      clear hl2 hg3 hk3 hb2 hs2 hra2 hrb
      have hvb3 := own_below hvb hb3
      have hW3 : w3.heap[bw]? = some (.cells #[.slice none 0 0, .slice ab k cb, .slice none 0 0] 85 (0, 0)) := by rw [hb3.block bw hbwlt]; exact hW
      have hc3 : w3.cell? ⟨bw, 1, none⟩ = some (.slice ab k cb) := by simp [World.cell?, hW3]
      have hbs : base ≤ w3.heap.size := Nat.le_trans hbw.2 hs3
      go_wp2_with (at_builtin; refine wpList_append_own _ rfl _ _ 40 rfl base 44 j0 (.slice none 0 0) 1 24 Tryz.underlying40 hj hy0 hy1 hy2 rfl (by decide) (.slice ab k cb) k vals rfl (hvb3.alloc _) ⟨w3.heap.size, 0, none⟩ 4 4 [.slice ao j cap, .slice aa (j + 1) ca, .slice ac (j + 2) cc, .slice ad (j + 3) cd] rfl rfl (lit_cells w3 44 [.slice ao j cap, .slice aa (j + 1) ca, .slice ac (j + 2) cc, .slice ad (j + 3) cd] (by simp [maxLen])) (by simp [Value.oneCell']) (by unfold maxLen; omega) (by omega) (by simp; omega) ?_; intro v4 w4 hown4 hg4 _; refine Hid.out ?_)
      refine hideIt ?_
      obtain ⟨hW4, hinv, hbelow⟩ := byted_close hW hbw hk4 hvb hrows hb3 HXX.out hn hl3 hra3 hrb3 hrc hown4 hg4
      have hc4 : w4.cell? ⟨bw, 1, none⟩ = some (.slice ab k cb) := by simp [World.cell?, hW4]
      have hf4 : w4.frozen? ⟨bw, 1, none⟩ = false := frozen_of_row w4 bw 1 _ _ hW4
      obtain ⟨a4, c4, rfl⟩ := own_form hown4
      have HI := hideIt hinv
      have HL := hideIt hbelow
      clear hown4 hg4 hW4 hinv hbelow hl3 hra3 hrb3 hrc hvb3 hW3 hc3 hcb
      go_wp2_with fail
      go_end0
      exact ⟨rfl, HI.out, HL.out⟩
end Go.Proofs.YthmdjhlhodpbhaaGreatDoor
