/- Tokens, 31 -/
import Derived.BigRegion
import Derived.Test.YthmdjhlhodpbhaaGreatDoorT17
import Derived.Test.YthmdjhlhodpbhaaGreatDoorT22
import Derived.Test.YthmdjhlhodpbhaaGreatDoorT29
import Derived.Test.YthmdjhlhodpbhaaGreatDoorT30
set_option maxHeartbeats 16000000
set_option maxRecDepth 8000
namespace Go.Proofs.YthmdjhlhodpbhaaGreatDoor
open Go.RowKit
def bufS (l : List StrS) : Int := (l.map fun x => (fullL x.bytes : Int)).sum
theorem sum_split {α : Type} {piece : Int} {l : List StrS} {sl : List (Int × α)} (hS : StrS -> Int) (hdz : ∀ x ∈ l, x.done = true -> hS x = 0) (hz : hS (strNew piece) = 0) (h : MapS piece l sl) : (l.map hS).sum = sumK (atS hS l) sl := by
  have hks : (sl.map fun p => p.1.toNat).Nodup := by
    have : (sl.map fun p => p.1.toNat) = (sl.map (·.1)).map Int.toNat := by rw [List.map_map]; rfl
    rw [this]
    have hn := h.nd
    have hpos : ∀ x ∈ sl.map (·.1), 0 <= x := by
      intro x hx
      obtain ⟨p, hp, rfl⟩ := List.mem_map.1 hx
      exact (h.str p hp).1
    generalize sl.map (·.1) = ids at hn hpos
    induction ids with
    | nil => simp
    | cons a t ih =>
      rw [List.nodup_cons] at hn
      simp only [List.map_cons, List.nodup_cons]
      refine ⟨fun hm => ?_, ih hn.2 (fun x hx => hpos x (by simp [hx]))⟩
      obtain ⟨b, hb, e⟩ := List.mem_map.1 hm
      have h1 := hpos a (by simp)
      have h2 := hpos b (by simp [hb])
      have : a = b := by omega
      subst this
      exact hn.1 hb
  have hlt : ∀ k ∈ (sl.map fun p => p.1.toNat), k < l.length := by
    intro k hk
    obtain ⟨p, hp, rfl⟩ := List.mem_map.1 hk
    obtain ⟨_, x, hx, _⟩ := h.str p hp
    exact (List.getElem?_eq_some_iff.1 hx).1
  have e1 : sumK (atS hS l) sl = ((sl.map fun p => p.1.toNat).map fun i => ((l[i]?).map hS).getD 0).sum := by
    unfold sumK atS
    rw [List.map_map]
    rfl
  rw [e1, map_range, sum_keys _ hks hlt]
  congr 1
  refine List.map_congr_left fun i hir => ?_
  have hil : i < l.length := List.mem_range.1 hir
  have hx : l[i]? = some l[i] := List.getElem?_eq_getElem hil
  have hin := hdz _ (List.getElem_mem hil)
  generalize l[i] = x at hx hin
  rw [hx]
  simp only [Option.map_some, Option.getD_some]
  have hmem : i ∈ (sl.map fun p => p.1.toNat) ↔ (i : Int) ∈ sl.map (·.1) := by
    constructor
    . intro hm
      obtain ⟨p, hp, e⟩ := List.mem_map.1 hm
      have := (h.str p hp).1
      exact List.mem_map.2 ⟨p, hp, by omega⟩
    . intro hm
      obtain ⟨p, hp, e⟩ := List.mem_map.1 hm
      exact List.mem_map.2 ⟨p, hp, by omega⟩
  by_cases hk : i ∈ (sl.map fun p => p.1.toNat)
  . simp [hk]
  . cases hd : x.done with
    | true => simp [hk, hin hd]
    | false =>
      have := h.non i x hx hd (fun hm => hk (hmem.2 hm))
      subst this
      simp [hk, hz]
theorem buf_split {α : Type} {gaps piece : Int} {l : List StrS} {sl : List (Int × α)} (hi : ∀ x ∈ l, StrInv gaps x) (h : MapS piece l sl) : bufS l = sumK (atS (fun x => (fullL x.bytes : Int)) l) sl := by
  refine sum_split (fun x => (fullL x.bytes : Int)) (fun x hx hd => ?_) (by simp [strNew, fullL]) h
  have := ((hi x hx).dn hd).1
  simp [this, fullL]
theorem tBuffered_any {U : Nat -> Prop} (sb : Nat) (lv : Value) (piece : Int) (x : StrS) (w : World) (h : StrAt U w sb lv piece x) {gaps : Int} (hi : StrInv gaps x) (hg : gaps <= 8) :
    Calls Tryz.prog 71 #[.pointer (some ⟨sb, 0, none⟩)] w fun e w' => e = .returned (.int .i64 (fullL x.bytes : Nat)) /\ Below w.heap.size w w' := by
  obtain ⟨vs, hr, _⟩ := h.runs
  have c0 : w.cell? ⟨sb, 0, none⟩ = some lv := h.cell 0
  have HS := hideIt (x_Size_any vs _ lv sb 0 w c0 hr.own hr.sh (hi.fit hg))
  rw [sizeR_runsOf] at HS
  clear h hr
  go_enter Tryz.func71, Tryz.ntmps71
  go_wp2_with fail
  refine HS.out.mono ?_
  rintro e w1 ⟨rfl, hb1⟩
  have HB := hideIt hb1
  clear hb1 HS
  go_wp2_with fail
  go_ret
  exact ⟨rfl, HB.out⟩
theorem csumB_any (cb sm n : Nat) (sl : List (Int × Nat)) (hi : Int -> Int) (w : World) (hc : w.cell? ⟨cb, 21, none⟩ = some (.map (some sm))) (hm : MapIs ptrC Tryz.prog 3 w sm n sl) (hs : ∀ p ∈ sl, ∀ W, Below w.heap.size w W -> Calls Tryz.prog 71 #[.pointer (some ⟨p.2, 0, none⟩)] W fun e w' => e = .returned (.int .i64 (hi p.1)) /\ Below W.heap.size W w') (hr : ∀ p ∈ sl, 0 <= hi p.1 /\ hi p.1 <= 1073741823) (hl : sl.length <= 1073741823) :
    Calls Tryz.prog 70 #[.pointer (some ⟨cb, 0, none⟩), .func (.func 71) #[] #[]] w fun e w' => e = .returned (.int .i64 (sumK hi sl)) /\ Below w.heap.size w w' := by
  have hS : sumK hi sl <= 1152921504606846976 := by
    have := sumK_le (B := 1073741823) fun p hp => (hr p hp).2
    omega
  have HM := hideIt hm
  have HS := hideIt hs
  have HR := hideIt hr
  clear hm hs hr
  go_enter Tryz.func70, Tryz.ntmps70
  go_wp2_with (first
    | (at_range; refine wpList_mrange _ rfl _ 134 rfl 140 Tryz.underlying3 Tryz.underlying134 sm n sl rfl HM.out ?_; intro w0 hrg0 hg0 hs0))
  have hb0 : Below w.heap.size w w0 := grown_below hg0
  have H0 := hideIt (And.intro hrg0 hb0)
  clear hrg0 hg0 hs0 hb0 hc
  go_frame
  go_loopw [5] (fun s wr => ∃ (rest : List (Int × Nat)) (cnt : Nat), RangeIs ptrC Tryz.prog 3 wr sm w.heap.size n sl rest cnt /\ s = .int .i64 (sumK hi sl - sumK hi rest) /\ Hid (∀ p ∈ rest, p ∈ sl) /\ Hid (sumK hi rest <= sumK hi sl) /\ Below w.heap.size w wr) (fun _ wr => wr.rangeLeft sm w.heap.size)
  case atStart => exact ⟨sl, _, H0.out.1, by rw [Int.sub_self], fun p hp => hp, hideIt (Int.le_refl _), H0.out.2⟩
  case round =>
    obtain ⟨rest, cnt, hrg, rfl, hsub, hsm, hbw⟩ := hrel
    have HBw := hideIt hbw
    have HRg := hideIt hrg
    clear hbw
    go_wp2_with (first
      | (at_next; refine wpList_mnext _ rfl _ rfl Tryz.underlying3 sm w.heap.size n sl rest cnt rfl hrg ?_ ?_))
    . intro hnil
      subst hnil
      go_wp2_with fail
      go_ret
      exact ⟨by simp [sumK], HBw.out⟩
    . intro k y r1 r2 w1 cnt1 hre hwk hat hrg1 hlt hg1 hs1 hen
      have hky : (k, y) ∈ sl := hsub.out _ (by rw [hre]; simp)
      have hb1 : Below w.heap.size w w1 := HBw.out.grown hg1 HBw.out.size (fun g hg => by cases hg; exact Nat.le_refl _)
      have hmid := sumK_mid (f := hi) r1 r2 k y
      rw [<- hre] at hmid
      have hn1 : 0 <= sumK hi (r1 ++ r2) := sumK_nonneg fun p hp => (HR.out p (hsub.out p (by rw [hre]; simp at hp ⊢; rcases hp with h | h <;> simp [h]))).1
      have hsb : Hid (∀ p ∈ r1 ++ r2, p ∈ sl) := fun p hp => hsub.out p (by rw [hre]; simp at hp ⊢; rcases hp with h | h <;> simp [h])
      have hk : 0 <= hi k /\ hi k <= 1073741823 := HR.out (k, y) hky
      obtain ⟨hk0, hk1⟩ := hk
      have hn2 := hsm.out
      have hw : IntKind.i64.wrap (sumK hi sl - sumK hi rest + hi k) = sumK hi sl - sumK hi (r1 ++ r2) := by
        rw [IntKind.wrap_i64]
        omega
      have HM2 := hideIt hmid
      have HE := hideIt (HS.out (k, y) hky w1 hb1)
      have H1 := hideIt (And.intro hrg1 (And.intro hb1 (And.intro hlt hsb)))
      have HN := hideIt (show sumK hi (r1 ++ r2) <= sumK hi sl from by omega)
      generalize sumK hi rest = Sr at hw HM2 ⊢
      clear hmid hn1 hb1 hky hrg1 hlt hsb hn2 hg1 hs1 hat
      go_wp2_with fail
      refine HE.out.mono ?_
      rintro e w2 ⟨rfl, hb2⟩
      have H2 : Hid (RangeIs ptrC Tryz.prog 3 w2 sm w.heap.size n sl (r1 ++ r2) cnt1 /\ Below w.heap.size w w2) := ⟨H1.out.1.kept (hb2.block _ H1.out.1.map.lt) (hb2.block _ H1.out.1.iter.1), below_join H1.out.2.1 hb2⟩
      clear HE hb2
      go_wp2_with fail
      go_roundw
      case rel => exact ⟨r1 ++ r2, cnt1, H2.out.1, rfl, H1.out.2.2.2, HN, H2.out.2⟩
      case measure =>
        have h1 := H2.out.1.left_eq
        have h2 := HRg.out.left_eq
        have h3 := H1.out.2.2.1
        rw [h1, h2]
        exact h3
theorem cbuf_any (N cb : Nat) (g : Cfg) (c : ConS) (a : ConX) (w : World) (h : ConAt N w cb g c a) (hi : ConInv g c) {M : Int} (hok : ConOk M c) (hg : CfgOk g) :
    Calls Tryz.prog 70 #[.pointer (some ⟨cb, 0, none⟩), .func (.func 71) #[] #[]] w fun e w' => e = .returned (.int .i64 (bufS c.streams)) /\ Below w.heap.size w w' := by
  obtain ⟨n, hn, hm⟩ := h.smap
  have c21 : w.cell? ⟨cb, 21, none⟩ = some (.map (some a.sm)) := h.blk.cell 21
  rw [buf_split hi.str h.mp]
  have hg4 := hg.c4
  refine csumB_any cb a.sm n a.sl _ w c21 hm (fun p hp W hW => ?_) (fun p hp => ?_) ?_
  . obtain ⟨_, x, hx, _⟩ := h.mp.str p hp
    have hsx := (h.str p hp x hx).below hW
    have e : atS (fun x => (fullL x.bytes : Int)) c.streams p.1 = (fullL x.bytes : Int) := by simp [atS, hx]
    rw [e]
    exact tBuffered_any p.2 _ g.c2 x W hsx (hi.str x (List.mem_of_getElem? hx)) (by omega)
  . obtain ⟨_, x, hx, _⟩ := h.mp.str p hp
    have e : atS (fun x => (fullL x.bytes : Int)) c.streams p.1 = (fullL x.bytes : Int) := by simp [atS, hx]
    rw [e]
    have h1 := hi.str x (List.mem_of_getElem? hx)
    have h2 : fullL x.bytes <= x.bytes.length := List.countP_le_length
    have h3 := h1.len
    have h4 := h1.cred
    have h5 := h1.read
    omega
  . have h2 := hok.slen
    have h3 := h.mp.len
    omega
def lookC (c : ConS) : Array Value := #[.bool c.proven, .int .i64 c.got, .int .i64 c.sent, .int .i64 c.credit, .int .i64 (c.streams.length : Int), .int .i64 (bufS c.streams)]
def zeroLook : Array Value := #[.bool false, .int .i64 0, .int .i64 0, .int .i64 0, .int .i64 0, .int .i64 0]
def lookS (s : SrvS) (cid : Int) : Array Value × Int :=
  match findI s.conns cid with
  | none => (zeroLook, 3)
  | some k => match s.conns[k]? with
    | none => (zeroLook, 3)
    | some c => (lookC c, 0)
theorem upon_skip {P : Program} {o : Oper} {a : Act} {K : Act -> World -> Prop} {Q : Exit -> Act -> World -> Prop} {w : World} (h : K (a.put o.dst undef) w) : Oper.upon P o a K Q (.ok .skip w) := h
theorem upon_id {P : Program} {o : Oper} {a : Act} {K : Act -> World -> Prop} {Q : Exit -> Act -> World -> Prop} {r : Result Next} (h : Oper.upon P o a K Q r) : Oper.upon P o a K Q r := h
theorem cLook_any (N cb : Nat) (g : Cfg) (c : ConS) (a : ConX) (w : World) (h : ConAt N w cb g c a) (hi : ConInv g c) {M : Int} (hok : ConOk M c) (hg : CfgOk g) :
    Calls Tryz.prog 41 #[.pointer (some ⟨cb, 0, none⟩)] w fun e w' => e = .returned (.agg (lookC c)) /\ Below w.heap.size w w' := by
  have hcl : cb < w.heap.size := h.blk.lt
  have HBu : Hid (∀ W, Below w.heap.size w W -> Calls Tryz.prog 70 #[.pointer (some ⟨cb, 0, none⟩), .func (.func 71) #[] #[]] W fun e w' => e = .returned (.int .i64 (bufS c.streams)) /\ Below W.heap.size W w') := fun W hW => cbuf_any N cb g c a W (h.below hW) hi hok hg
  have HK := hideIt (fun W => kBytes_any c.credit g.c1 W)
  have HI0 : Hid (∀ W, Below w.heap.size w W -> W.heap[w.heap.size]? = some (.cells #[.bool false, .int .i64 0, .int .i64 0, .int .i64 0, .int .i64 0, .int .i64 0] 34 (0, 0)) -> W.cell? ⟨cb, 12, none⟩ = some (.bool c.proven) /\ W.cell? ⟨cb, 13, none⟩ = some (.int .i64 c.got) /\ W.cell? ⟨cb, 14, none⟩ = some (.int .i64 c.sent) /\ W.cell? ⟨cb, 18, none⟩ = some (.int .i64 c.credit) /\ W.cell? ⟨cb, 19, none⟩ = some (.int .i64 g.c1) /\ W.cell? ⟨cb, 20, none⟩ = some (.int .i64 (c.streams.length : Int)) /\ W.heap[w.heap.size]? = some (.cells #[.bool false, .int .i64 0, .int .i64 0, .int .i64 0, .int .i64 0, .int .i64 0] 34 (0, 0))) := fun W hW hx => ⟨(h.blk.below hW).cell 12, (h.blk.below hW).cell 13, (h.blk.below hW).cell 14, (h.blk.below hW).cell 18, (h.blk.below hW).cell 19, (h.blk.below hW).cell 20, hx⟩
  have hb0 : Below w.heap.size w (w.alloc (.cells #[.bool false, .int .i64 0, .int .i64 0, .int .i64 0, .int .i64 0, .int .i64 0] 34)) := below_alloc w _
  have hS0 := HI0.out _ hb0 (heap_alloc_new w _)
  have HB0 := hideIt hb0
  have HZ0 : Hid (w.heap.size < (w.alloc (.cells #[.bool false, .int .i64 0, .int .i64 0, .int .i64 0, .int .i64 0, .int .i64 0] 34)).heap.size) := by show _ < _; simp
  unfold lookC
  generalize bufS c.streams = B at HBu ⊢
  generalize hW0 : (w.alloc (.cells #[.bool false, .int .i64 0, .int .i64 0, .int .i64 0, .int .i64 0, .int .i64 0] 34)) = w0 at *
  have HW0 := hideIt hW0
  clear h hi hok hg hb0 hW0
  go_enter Tryz.func41, Tryz.ntmps41
  go_wp2_with fail
  rw [HW0.out]
  obtain ⟨i12, i13, i14, i18, i19, i20, ix⟩ := id hS0
  have HRs : Hid (∀ W : World, Below w0.heap.size w0 W -> (W.cell? ⟨w.heap.size, 0, none⟩ = some (.bool false) /\ W.frozen? ⟨w.heap.size, 0, none⟩ = false /\ (W.setCell ⟨w.heap.size, 0, none⟩ (.bool c.proven)).cell? ⟨w.heap.size, 1, none⟩ = some (.int .i64 0) /\ (W.setCell ⟨w.heap.size, 0, none⟩ (.bool c.proven)).frozen? ⟨w.heap.size, 1, none⟩ = false /\ ((W.setCell ⟨w.heap.size, 0, none⟩ (.bool c.proven)).setCell ⟨w.heap.size, 1, none⟩ (.int .i64 c.got)).cell? ⟨w.heap.size, 2, none⟩ = some (.int .i64 0) /\ ((W.setCell ⟨w.heap.size, 0, none⟩ (.bool c.proven)).setCell ⟨w.heap.size, 1, none⟩ (.int .i64 c.got)).frozen? ⟨w.heap.size, 2, none⟩ = false /\ (((W.setCell ⟨w.heap.size, 0, none⟩ (.bool c.proven)).setCell ⟨w.heap.size, 1, none⟩ (.int .i64 c.got)).setCell ⟨w.heap.size, 2, none⟩ (.int .i64 c.sent)).cell? ⟨w.heap.size, 3, none⟩ = some (.int .i64 0) /\ (((W.setCell ⟨w.heap.size, 0, none⟩ (.bool c.proven)).setCell ⟨w.heap.size, 1, none⟩ (.int .i64 c.got)).setCell ⟨w.heap.size, 2, none⟩ (.int .i64 c.sent)).frozen? ⟨w.heap.size, 3, none⟩ = false /\ ((((W.setCell ⟨w.heap.size, 0, none⟩ (.bool c.proven)).setCell ⟨w.heap.size, 1, none⟩ (.int .i64 c.got)).setCell ⟨w.heap.size, 2, none⟩ (.int .i64 c.sent)).setCell ⟨w.heap.size, 3, none⟩ (.int .i64 c.credit)).cell? ⟨w.heap.size, 4, none⟩ = some (.int .i64 0) /\ ((((W.setCell ⟨w.heap.size, 0, none⟩ (.bool c.proven)).setCell ⟨w.heap.size, 1, none⟩ (.int .i64 c.got)).setCell ⟨w.heap.size, 2, none⟩ (.int .i64 c.sent)).setCell ⟨w.heap.size, 3, none⟩ (.int .i64 c.credit)).frozen? ⟨w.heap.size, 4, none⟩ = false /\ (((((W.setCell ⟨w.heap.size, 0, none⟩ (.bool c.proven)).setCell ⟨w.heap.size, 1, none⟩ (.int .i64 c.got)).setCell ⟨w.heap.size, 2, none⟩ (.int .i64 c.sent)).setCell ⟨w.heap.size, 3, none⟩ (.int .i64 c.credit)).setCell ⟨w.heap.size, 4, none⟩ (.int .i64 (c.streams.length : Int))).cell? ⟨w.heap.size, 5, none⟩ = some (.int .i64 0) /\ (((((W.setCell ⟨w.heap.size, 0, none⟩ (.bool c.proven)).setCell ⟨w.heap.size, 1, none⟩ (.int .i64 c.got)).setCell ⟨w.heap.size, 2, none⟩ (.int .i64 c.sent)).setCell ⟨w.heap.size, 3, none⟩ (.int .i64 c.credit)).setCell ⟨w.heap.size, 4, none⟩ (.int .i64 (c.streams.length : Int))).frozen? ⟨w.heap.size, 5, none⟩ = false /\ ((((((W.setCell ⟨w.heap.size, 0, none⟩ (.bool c.proven)).setCell ⟨w.heap.size, 1, none⟩ (.int .i64 c.got)).setCell ⟨w.heap.size, 2, none⟩ (.int .i64 c.sent)).setCell ⟨w.heap.size, 3, none⟩ (.int .i64 c.credit)).setCell ⟨w.heap.size, 4, none⟩ (.int .i64 (c.streams.length : Int))).setCell ⟨w.heap.size, 5, none⟩ (.int .i64 B)).heap[w.heap.size]? = some (.cells #[.bool c.proven, .int .i64 c.got, .int .i64 c.sent, .int .i64 c.credit, .int .i64 (c.streams.length : Int), .int .i64 B] 34 (0, 0)))) := by
    intro W hb
    have x0 := (hb.block w.heap.size HZ0.out).trans ix
    have x1 := block_set x0 0 (.bool c.proven)
    have x2 := block_set x1 1 (.int .i64 c.got)
    have x3 := block_set x2 2 (.int .i64 c.sent)
    have x4 := block_set x3 3 (.int .i64 c.credit)
    have x5 := block_set x4 4 (.int .i64 (c.streams.length : Int))
    have x6 := block_set x5 5 (.int .i64 B)
    refine ⟨by simp only [World.cell?, x0]; rfl, frozen_of_row _ _ _ _ _ x0, by simp only [World.cell?, x1]; rfl, frozen_of_row _ _ _ _ _ x1, by simp only [World.cell?, x2]; rfl, frozen_of_row _ _ _ _ _ x2, by simp only [World.cell?, x3]; rfl, frozen_of_row _ _ _ _ _ x3, by simp only [World.cell?, x4]; rfl, frozen_of_row _ _ _ _ _ x4, by simp only [World.cell?, x5]; rfl, frozen_of_row _ _ _ _ _ x5, x6⟩
  have hne : cb ≠ w.heap.size := by omega
  have hc6 : ∀ (W : World) (u0 u1 u2 u3 u4 u5 : Value) (q : Nat), ((((((W.setCell ⟨w.heap.size, 0, none⟩ u0).setCell ⟨w.heap.size, 1, none⟩ u1).setCell ⟨w.heap.size, 2, none⟩ u2).setCell ⟨w.heap.size, 3, none⟩ u3).setCell ⟨w.heap.size, 4, none⟩ u4).setCell ⟨w.heap.size, 5, none⟩ u5).cell? ⟨cb, q, none⟩ = W.cell? ⟨cb, q, none⟩ := by
    intro W u0 u1 u2 u3 u4 u5 q
    simp only [World.cell?]
    rw [heap_setCell_other _ _ _ _ hne, heap_setCell_other _ _ _ _ hne, heap_setCell_other _ _ _ _ hne, heap_setCell_other _ _ _ _ hne, heap_setCell_other _ _ _ _ hne, heap_setCell_other _ _ _ _ hne]
  have HKs : Hid (∀ (W : World) (u0 u1 u2 u3 u4 u5 : Value), (W.cell? ⟨cb, 12, none⟩ = some (.bool c.proven) /\ W.cell? ⟨cb, 13, none⟩ = some (.int .i64 c.got) /\ W.cell? ⟨cb, 14, none⟩ = some (.int .i64 c.sent) /\ W.cell? ⟨cb, 18, none⟩ = some (.int .i64 c.credit) /\ W.cell? ⟨cb, 19, none⟩ = some (.int .i64 g.c1) /\ W.cell? ⟨cb, 20, none⟩ = some (.int .i64 (c.streams.length : Int))) -> (((((((W.setCell ⟨w.heap.size, 0, none⟩ u0).setCell ⟨w.heap.size, 1, none⟩ u1).setCell ⟨w.heap.size, 2, none⟩ u2).setCell ⟨w.heap.size, 3, none⟩ u3).setCell ⟨w.heap.size, 4, none⟩ u4).setCell ⟨w.heap.size, 5, none⟩ u5).cell? ⟨cb, 12, none⟩ = some (.bool c.proven) /\ ((((((W.setCell ⟨w.heap.size, 0, none⟩ u0).setCell ⟨w.heap.size, 1, none⟩ u1).setCell ⟨w.heap.size, 2, none⟩ u2).setCell ⟨w.heap.size, 3, none⟩ u3).setCell ⟨w.heap.size, 4, none⟩ u4).setCell ⟨w.heap.size, 5, none⟩ u5).cell? ⟨cb, 13, none⟩ = some (.int .i64 c.got) /\ ((((((W.setCell ⟨w.heap.size, 0, none⟩ u0).setCell ⟨w.heap.size, 1, none⟩ u1).setCell ⟨w.heap.size, 2, none⟩ u2).setCell ⟨w.heap.size, 3, none⟩ u3).setCell ⟨w.heap.size, 4, none⟩ u4).setCell ⟨w.heap.size, 5, none⟩ u5).cell? ⟨cb, 14, none⟩ = some (.int .i64 c.sent) /\ ((((((W.setCell ⟨w.heap.size, 0, none⟩ u0).setCell ⟨w.heap.size, 1, none⟩ u1).setCell ⟨w.heap.size, 2, none⟩ u2).setCell ⟨w.heap.size, 3, none⟩ u3).setCell ⟨w.heap.size, 4, none⟩ u4).setCell ⟨w.heap.size, 5, none⟩ u5).cell? ⟨cb, 18, none⟩ = some (.int .i64 c.credit) /\ ((((((W.setCell ⟨w.heap.size, 0, none⟩ u0).setCell ⟨w.heap.size, 1, none⟩ u1).setCell ⟨w.heap.size, 2, none⟩ u2).setCell ⟨w.heap.size, 3, none⟩ u3).setCell ⟨w.heap.size, 4, none⟩ u4).setCell ⟨w.heap.size, 5, none⟩ u5).cell? ⟨cb, 19, none⟩ = some (.int .i64 g.c1) /\ ((((((W.setCell ⟨w.heap.size, 0, none⟩ u0).setCell ⟨w.heap.size, 1, none⟩ u1).setCell ⟨w.heap.size, 2, none⟩ u2).setCell ⟨w.heap.size, 3, none⟩ u3).setCell ⟨w.heap.size, 4, none⟩ u4).setCell ⟨w.heap.size, 5, none⟩ u5).cell? ⟨cb, 20, none⟩ = some (.int .i64 (c.streams.length : Int)))) := by
    intro W u0 u1 u2 u3 u4 u5 h
    simp only [hc6]
    exact h
  clear hc6
  have HK1 : Hid (∀ W W' : World, Below W.heap.size W W' -> (W.cell? ⟨cb, 12, none⟩ = some (.bool c.proven) /\ W.cell? ⟨cb, 13, none⟩ = some (.int .i64 c.got) /\ W.cell? ⟨cb, 14, none⟩ = some (.int .i64 c.sent) /\ W.cell? ⟨cb, 18, none⟩ = some (.int .i64 c.credit) /\ W.cell? ⟨cb, 19, none⟩ = some (.int .i64 g.c1) /\ W.cell? ⟨cb, 20, none⟩ = some (.int .i64 (c.streams.length : Int))) -> (W'.cell? ⟨cb, 12, none⟩ = some (.bool c.proven) /\ W'.cell? ⟨cb, 13, none⟩ = some (.int .i64 c.got) /\ W'.cell? ⟨cb, 14, none⟩ = some (.int .i64 c.sent) /\ W'.cell? ⟨cb, 18, none⟩ = some (.int .i64 c.credit) /\ W'.cell? ⟨cb, 19, none⟩ = some (.int .i64 g.c1) /\ W'.cell? ⟨cb, 20, none⟩ = some (.int .i64 (c.streams.length : Int)))) := fun W W' hb h => ⟨cell_below h.1 hb, cell_below h.2.1 hb, cell_below h.2.2.1 hb, cell_below h.2.2.2.1 hb, cell_below h.2.2.2.2.1 hb, cell_below h.2.2.2.2.2 hb⟩
  have hSd : w0.drew.cell? ⟨cb, 12, none⟩ = some (.bool c.proven) /\ w0.drew.cell? ⟨cb, 13, none⟩ = some (.int .i64 c.got) /\ w0.drew.cell? ⟨cb, 14, none⟩ = some (.int .i64 c.sent) /\ w0.drew.cell? ⟨cb, 18, none⟩ = some (.int .i64 c.credit) /\ w0.drew.cell? ⟨cb, 19, none⟩ = some (.int .i64 g.c1) /\ w0.drew.cell? ⟨cb, 20, none⟩ = some (.int .i64 (c.streams.length : Int)) := ⟨i12, i13, i14, i18, i19, i20⟩
  go_region_held3 (fun w' => w'.cell? ⟨cb, 12, none⟩ = some (.bool c.proven) /\ w'.cell? ⟨cb, 13, none⟩ = some (.int .i64 c.got) /\ w'.cell? ⟨cb, 14, none⟩ = some (.int .i64 c.sent) /\ w'.cell? ⟨cb, 18, none⟩ = some (.int .i64 c.credit) /\ w'.cell? ⟨cb, 19, none⟩ = some (.int .i64 g.c1) /\ w'.cell? ⟨cb, 20, none⟩ = some (.int .i64 (c.streams.length : Int))) (first | with_reducible assumption | with_reducible exact HKs.out _ _ _ _ _ _ _ (by with_reducible assumption)) (first
    | (go_at_call 69; refine (HK.out _).mono ?_; rintro e w1 ⟨rfl, hb1⟩; have hS1 := HK1.out _ _ hb1 (by first | assumption | exact ⟨i12, i13, i14, i18, i19, i20⟩))
    | (go_at_call 70; refine (HBu.out w1 (below_join (below_drewN HB0.out 1) hb1)).mono ?_; rintro e w2 ⟨rfl, hb2⟩; have hS2 := HK1.out _ _ hb2 (by first | assumption | exact ⟨i12, i13, i14, i18, i19, i20⟩))
    | (refine upon_id ?_; obtain ⟨e0, f0, e1, f1, e2, f2, e3, f3, e4, f4, e5, f5, hfin⟩ := HRs.out w2 (below_join (below_undrew hb1) hb2); simp only [e0, f0, e1, f1, e2, f2, e3, f3, e4, f4, e5, f5, Result.andThen_ok, Bool.false_eq_true, if_false]; refine upon_skip ?_))
  have HB2 := hideIt (below_join (below_join HB0.out (below_undrew hb1)) hb2)
  have HFn := hideIt hfin
  clear hfin e0 f0 e1 f1 e2 f2 e3 f3 e4 f4 e5 f5 hS1 hS2 hb1 hb2 HKs HRs HK1 HBu HK hSd hS0 i12 i13 i14 i18 i19 i20
  go_wp2_with fail
  refine bodyPost_ret (results_cell_row (P := Tryz.prog) Tryz.results41 _ _ w.heap.size 34 #[.bool c.proven, .int .i64 c.got, .int .i64 c.sent, .int .i64 c.credit, .int .i64 (c.streams.length : Int), .int .i64 B] (0, 0) _ rfl HFn.out Tryz.underlying34 rfl (by kernel_rfl)) rfl ?_
  exact ⟨rfl, ((((((HB2.out.setCell (Nat.le_refl _) _).setCell (Nat.le_refl _) _).setCell (Nat.le_refl _) _).setCell (Nat.le_refl _) _).setCell (Nat.le_refl _) _).setCell (Nat.le_refl _) _)⟩
end Go.Proofs.YthmdjhlhodpbhaaGreatDoor
namespace Go.Proofs.YthmdjhlhodpbhaaGreatDoor
theorem step_range (s c : Int) : 0 <= sumStep s c /\ sumStep s c < 4294967296 := by
  unfold sumStep
  omega
theorem mul_back {x : Int} (hx : 0 <= x /\ x < 4294967296) : x * 16777619 * 899433627 % 4294967296 = x := by omega
theorem mul_cancel {x y : Int} (hx : 0 <= x /\ x < 4294967296) (hy : 0 <= y /\ y < 4294967296) (h : x * 16777619 % 4294967296 = y * 16777619 % 4294967296) : x = y := by
  have e : ∀ z : Int, z * 16777619 % 4294967296 * 899433627 % 4294967296 = z * 16777619 * 899433627 % 4294967296 := fun z => by
    rw [Int.mul_emod (z * 16777619) 899433627, Int.mul_emod (z * 16777619 % 4294967296) 899433627, Int.emod_emod_of_dvd _ (Int.dvd_refl _)]
  rw [<- mul_back hx, <- mul_back hy, <- e, <- e, h]
theorem xor_cancel {a b c : Nat} (h : a ^^^ c = b ^^^ c) : a = b := by
  have := congrArg (· ^^^ c) h
  simpa [Nat.xor_assoc] using this
theorem xor_cancel' {a b c : Nat} (h : c ^^^ a = c ^^^ b) : a = b := by
  rw [Nat.xor_comm c a, Nat.xor_comm c b] at h
  exact xor_cancel h
theorem xor_small {a b : Nat} (ha : a < 4294967296) (hb : b < 4294967296) : a ^^^ b < 4294967296 := Nat.xor_lt_two_pow (n := 32) ha hb
theorem step_state {s s' c : Int} (hs : 0 <= s /\ s < 4294967296) (hs' : 0 <= s' /\ s' < 4294967296) (hc : 0 <= c /\ c < 256) (h : sumStep s c = sumStep s' c) : s = s' := by
  have h1 := xor_small (a := s.toNat) (b := c.toNat) (by omega) (by omega)
  have h2 := xor_small (a := s'.toNat) (b := c.toNat) (by omega) (by omega)
  have h4 := xor_cancel (Int.ofNat.inj (mul_cancel ⟨Int.natCast_nonneg _, Int.ofNat_lt.2 h1⟩ ⟨Int.natCast_nonneg _, Int.ofNat_lt.2 h2⟩ h))
  clear h h1 h2
  omega
theorem step_byte {s c c' : Int} (hs : 0 <= s /\ s < 4294967296) (hc : 0 <= c /\ c < 256) (hc' : 0 <= c' /\ c' < 256) (h : sumStep s c = sumStep s c') : c = c' := by
  have h1 := xor_small (a := s.toNat) (b := c.toNat) (by omega) (by omega)
  have h2 := xor_small (a := s.toNat) (b := c'.toNat) (by omega) (by omega)
  have h4 := xor_cancel' (Int.ofNat.inj (mul_cancel ⟨Int.natCast_nonneg _, Int.ofNat_lt.2 h1⟩ ⟨Int.natCast_nonneg _, Int.ofNat_lt.2 h2⟩ h))
  clear h h1 h2
  omega
theorem fold_range : ∀ (l : List Int) {s : Int}, 0 <= s /\ s < 4294967296 -> 0 <= l.foldl sumStep s /\ l.foldl sumStep s < 4294967296
  | [], _, h => h
  | c :: l, s, _ => fold_range l (step_range s c)
theorem fold_ne : ∀ (l : List Int), Bytes l -> ∀ {s s' : Int}, 0 <= s /\ s < 4294967296 -> 0 <= s' /\ s' < 4294967296 -> s ≠ s' -> l.foldl sumStep s ≠ l.foldl sumStep s'
  | [], _, s, s', _, _, h => h
  | c :: l, hb, s, s', h1, h2, h => by
    have hc := hb c (List.mem_cons_self ..)
    exact fold_ne l (fun x hx => hb x (List.mem_cons_of_mem _ hx)) (step_range s c) (step_range s' c) fun e => h (step_state h1 h2 hc e)
theorem sum_ne {p q : List Int} {x y : Int} (hq : Bytes q) (hx : 0 <= x /\ x < 256) (hy : 0 <= y /\ y < 256) (h : x ≠ y) : sumL (p ++ x :: q) ≠ sumL (p ++ y :: q) := by
  unfold sumL
  rw [List.foldl_append, List.foldl_append, List.foldl_cons, List.foldl_cons]
  have hr := fold_range p (s := 2166136261) (by decide)
  exact fold_ne q hq (step_range _ _) (step_range _ _) fun e => h (step_byte hr hx hy e)
theorem four_inj {n m : Int} (hn : 0 <= n /\ n < 4294967296) (hm : 0 <= m /\ m < 4294967296) (h : fourL n = fourL m) : n = m := by
  simp only [fourL, List.cons.injEq, and_true] at h
  omega
theorem sumL_rng (l : List Int) : 0 <= sumL l /\ sumL l < 4294967296 := fold_range l (by decide)
theorem tok_head {k a t a' t' k' : Int} (h : tokenL k a t = tokenL k' a' t') : a = a' := by
  simp only [tokenL, frontL, List.cons_append, List.cons.injEq] at h
  exact h.1
theorem tok_other {g : Cfg} {k now a b t : Int} (h : b ≠ a) : goodS g now b (tokenL k a t) = false := by
  unfold goodS
  have : decide (tokenL g.c9 b (timeL (tokenL k a t)) = tokenL k a t) = false := decide_eq_false fun e => h (tok_head e)
  rw [this]
  simp
theorem tok_time' {k a t : Int} (h : 0 <= t /\ t < 4294967296) : timeL (tokenL k a t) = t := by
  simp [timeL, tokenL, frontL, fourL]
  omega
theorem tok_bad {k a t y : Int} {i : Nat} (ht : 0 <= t /\ t < 4294967296) (hy : 0 <= y /\ y < 256) (hi : i < 9) (hne : (tokenL k a t).getD i 0 ≠ y) : tokenL k a (timeL ((tokenL k a t).set i y)) ≠ (tokenL k a t).set i y := by
  intro h
  have hS := sumL_rng (fourL k ++ frontL a t)
  have hT := sumL_rng (fourL k ++ frontL a (timeL ((tokenL k a t).set i y)))
  have bF := fourL_bytes t
  generalize hT' : timeL ((tokenL k a t).set i y) = T at h hT
  have key : ∀ (p q : List Int) (x : Int), Bytes q -> 0 <= x /\ x < 256 -> x ≠ y -> fourL k ++ frontL a t = p ++ x :: q -> fourL k ++ frontL a T = p ++ y :: q -> sumL (fourL k ++ frontL a T) = sumL (fourL k ++ frontL a t) -> False := by
    intro p q x hq hx hxy e1 e2 e3
    rw [e1, e2] at e3
    exact sum_ne hq hx hy hxy e3.symm
  simp only [tokenL, frontL, List.cons_append] at h hne
  match i, hi with
  | 0, _ =>
    simp only [List.set_cons_zero, List.cons.injEq] at h
    simp only [List.getD_cons_zero] at hne
    exact hne h.1
  | 1, _ =>
    simp only [fourL, List.cons_append, List.nil_append, List.set_cons_succ, List.set_cons_zero, List.cons.injEq, and_true, true_and] at h
    obtain ⟨h1, h2, h3, h4, h5, h6, h7, h8⟩ := h
    have e : sumL (fourL k ++ frontL a T) = sumL (fourL k ++ frontL a t) := four_inj hT hS (by simp only [fourL, frontL, List.cons_append, List.nil_append, List.cons.injEq, and_true] at h5 h6 h7 h8 ⊢; exact ⟨h5, h6, h7, h8⟩)
    refine key (fourL k ++ [a]) [t / 256 % 256, t / 65536 % 256, t / 16777216 % 256] (t % 256) (fun x hx => bF x (by simp [fourL] at hx ⊢; omega)) (by omega) (by simpa [fourL] using hne) (by simp [frontL, fourL]) (by simp [frontL, fourL]; omega) e
  | 2, _ =>
    simp only [fourL, List.cons_append, List.nil_append, List.set_cons_succ, List.set_cons_zero, List.cons.injEq, and_true, true_and] at h
    obtain ⟨h1, h2, h3, h4, h5, h6, h7, h8⟩ := h
    have e : sumL (fourL k ++ frontL a T) = sumL (fourL k ++ frontL a t) := four_inj hT hS (by simp only [fourL, frontL, List.cons_append, List.nil_append, List.cons.injEq, and_true] at h5 h6 h7 h8 ⊢; exact ⟨h5, h6, h7, h8⟩)
    refine key (fourL k ++ [a] ++ [t % 256]) [t / 65536 % 256, t / 16777216 % 256] (t / 256 % 256) (fun x hx => bF x (by simp [fourL] at hx ⊢; omega)) (by omega) (by simpa [fourL] using hne) (by simp [frontL, fourL]) (by simp [frontL, fourL]; omega) e
  | 3, _ =>
    simp only [fourL, List.cons_append, List.nil_append, List.set_cons_succ, List.set_cons_zero, List.cons.injEq, and_true, true_and] at h
    obtain ⟨h1, h2, h3, h4, h5, h6, h7, h8⟩ := h
    have e : sumL (fourL k ++ frontL a T) = sumL (fourL k ++ frontL a t) := four_inj hT hS (by simp only [fourL, frontL, List.cons_append, List.nil_append, List.cons.injEq, and_true] at h5 h6 h7 h8 ⊢; exact ⟨h5, h6, h7, h8⟩)
    refine key (fourL k ++ [a] ++ [t % 256, t / 256 % 256]) [t / 16777216 % 256] (t / 65536 % 256) (fun x hx => bF x (by simp [fourL] at hx ⊢; omega)) (by omega) (by simpa [fourL] using hne) (by simp [frontL, fourL]) (by simp [frontL, fourL]; omega) e
  | 4, _ =>
    simp only [fourL, List.cons_append, List.nil_append, List.set_cons_succ, List.set_cons_zero, List.cons.injEq, and_true, true_and] at h
    obtain ⟨h1, h2, h3, h4, h5, h6, h7, h8⟩ := h
    have e : sumL (fourL k ++ frontL a T) = sumL (fourL k ++ frontL a t) := four_inj hT hS (by simp only [fourL, frontL, List.cons_append, List.nil_append, List.cons.injEq, and_true] at h5 h6 h7 h8 ⊢; exact ⟨h5, h6, h7, h8⟩)
    refine key (fourL k ++ [a] ++ [t % 256, t / 256 % 256, t / 65536 % 256]) [] (t / 16777216 % 256) (fun x hx => by cases hx) (by omega) (by simpa [fourL] using hne) (by simp [frontL, fourL]) (by simp [frontL, fourL]; omega) e
  | 5, _ =>
    have hTt : T = t := by
      rw [<- hT']
      simp [timeL, tokenL, frontL, fourL]
      omega
    subst hTt
    simp only [fourL, List.cons_append, List.nil_append, List.set_cons_succ, List.set_cons_zero, List.cons.injEq, and_true, true_and] at h
    exact hne (by simpa [fourL] using h)
  | 6, _ =>
    have hTt : T = t := by
      rw [<- hT']
      simp [timeL, tokenL, frontL, fourL]
      omega
    subst hTt
    simp only [fourL, List.cons_append, List.nil_append, List.set_cons_succ, List.set_cons_zero, List.cons.injEq, and_true, true_and] at h
    exact hne (by simpa [fourL] using h)
  | 7, _ =>
    have hTt : T = t := by
      rw [<- hT']
      simp [timeL, tokenL, frontL, fourL]
      omega
    subst hTt
    simp only [fourL, List.cons_append, List.nil_append, List.set_cons_succ, List.set_cons_zero, List.cons.injEq, and_true, true_and] at h
    exact hne (by simpa [fourL] using h)
  | 8, _ =>
    have hTt : T = t := by
      rw [<- hT']
      simp [timeL, tokenL, frontL, fourL]
      omega
    subst hTt
    simp only [fourL, List.cons_append, List.nil_append, List.set_cons_succ, List.set_cons_zero, List.cons.injEq, and_true, true_and] at h
    exact hne (by simpa [fourL] using h)
def tokC (raw : Cfg) : Cfg := { cfgN raw with c5 := 0, c8 := 100000 }
theorem tokC_ok (raw : Cfg) : CfgOk (tokC raw) := by
  have h := keepC_ok raw
  exact ⟨h.c0, h.c1, h.c2, h.c3, h.c4, by simp [tokC], h.c6, h.c7, h.c8, h.c9⟩
theorem ok_right {g : Cfg} (h : CfgOk g) : g.right = true := by
  have h0 := h.c0
  have h1 := h.c1
  have h2 := h.c2
  have h3 := h.c3
  have h4 := h.c4
  have h5 := h.c5
  have h6 := h.c6
  have h7 := h.c7
  have h8 := h.c8
  have h9 := h.c9
  unfold Cfg.right rightB rightA rightC betw
  simp only [Bool.and_eq_true, decide_eq_true_eq]
  refine ⟨⟨?_, ?_, ?_, ?_⟩, ⟨?_, ?_, ?_, ?_⟩, ?_, ?_⟩ <;> omega
def srvT (g : Cfg) (T : Int) : SrvS := ⟨g, T, [], 0⟩
theorem tok_retry {g : Cfg} (h5 : g.c5 = 0) {a id : Int} (ha : 0 <= a /\ a < 256) (hi : 0 <= id /\ id <= 1073741823) :
    receiveS (srvT g 0) a (helloL id [] [0, 0, 0, 0]) = (srvT g 0, [(a, [3] ++ putL id ++ [9] ++ tokenL g.c9 a g.c7)]) := by
  have hl := putL_length id
  have e : retryL (srvT g 0) a id = [3] ++ putL id ++ [9] ++ tokenL g.c9 a g.c7 := by simp [retryL, srvT, putL]
  rw [show srvT g 0 = ⟨g, 0, [], 0⟩ from rfl]
  unfold receiveS
  rw [if_neg (by omega), dgram_hello hi (by simp)]
  simp only [if_true]
  unfold helloS
  simp only [findI, List.findIdx?_nil, List.length_nil, Nat.lt_irrefl, if_false]
  rw [if_pos (by simp [h5, unpS])]
  refine Prod.ext rfl ?_
  simp only
  unfold retryO
  rw [show retryL ⟨g, 0, [], 0⟩ a id = [3] ++ putL id ++ [9] ++ tokenL g.c9 a g.c7 from e, if_pos]
  . simp
  . simp only [List.length_append, List.length_cons, List.length_nil, tok_len, helloL]
    have h9 : (putL ((0 : Nat) : Int)).length = 1 := by simp [putL]
    omega
theorem tok_no {g : Cfg} {T a id : Int} {tok : List Int} (hi : 0 <= id /\ id <= 1073741823) (hl : tok.length = 9) (h : goodS g T a tok = false) : receiveS (srvT g T) a (helloL id tok []) = (srvT g T, []) := by
  rw [show srvT g T = ⟨g, T, [], 0⟩ from rfl]
  unfold receiveS
  split
  . rfl
  . rw [dgram_hello hi (by omega)]
    simp only [if_true]
    unfold helloS
    simp only [findI, List.findIdx?_nil]
    rw [if_pos (by omega), if_neg (by rw [h]; decide)]
def conT (g : Cfg) (T a id got sent : Int) : ConS := ⟨id, a, true, got, sent, T, 0, [], g.c1, List.replicate g.c3.toNat (strNew g.c2), 1⟩
theorem tok_yes {g : Cfg} (hg : CfgOk g) (h8 : g.c8 = 100000) {T a id : Int} {tok : List Int} (ha : 0 <= a /\ a < 256) (hi : 0 <= id /\ id <= 1073741823) (hl : tok.length = 9) (hgood : goodS g T a tok = true) : ∃ n sent B, receiveS (srvT g T) a (helloL id tok []) = (⟨g, T, [conT g T a id n sent], 1⟩, [(a, B)]) := by
  have h0 := hg.c0
  have h1 := hg.c1
  have h3 := hg.c3
  obtain ⟨m, hm⟩ : ∃ m : Nat, (helloL id tok []).length = m + 1 := ⟨(helloL id tok []).length - 1, by simp [helloL]⟩
  have hfull : fullS (srvT g T) = false := by
    have q1 : ¬ (srvT g T).c.c0 <= ((srvT g T).conns.length : Int) := by simp [srvT]; omega
    have q2 : ¬ (srvT g T).c.c8 < memS (srvT g T) + costS (srvT g T).c := by simp [srvT, memS, costS]; omega
    unfold fullS
    rw [decide_eq_false q1, decide_eq_false q2]
    rfl
  refine ⟨((m + 1 : Nat) : Int), ((newsL id (welcomeL g (openC ⟨g, T, [], 0⟩ id a ((m + 1 : Nat) : Int) true))).length : Int), newsL id (welcomeL g (openC ⟨g, T, [], 0⟩ id a ((m + 1 : Nat) : Int) true)), ?_⟩
  rw [show srvT g T = ⟨g, T, [], 0⟩ from rfl]
  unfold receiveS
  rw [if_neg (by omega), dgram_hello hi (by omega)]
  simp only [if_true, hm]
  unfold helloS
  simp only [findI, List.findIdx?_nil]
  rw [if_pos (by omega), if_pos hgood, if_neg (by rw [show fullS ⟨g, T, [], 0⟩ = false from hfull]; decide)]
  unfold openP framesS
  simp only [if_true]
  have hn : ∀ f, newsC (openC ⟨g, T, [], 0⟩ id a ((m + 1 : Nat) : Int) true) f = { openC ⟨g, T, [], 0⟩ id a ((m + 1 : Nat) : Int) true with sent := (newsL id f).length } := by
    intro f
    unfold newsC
    rw [if_pos (by simp [newsMay, openC, conNew])]
    simp [openC, conNew]
  rw [hn]
  unfold newsO
  rw [if_pos (by simp [newsMay, openC, conNew])]
  simp [provS, provC, openC, conNew, growS, conT]
theorem tok_good {g : Cfg} {T a t : Int} (ht : 0 <= t /\ t < 4294967296) : goodS g T a (tokenL g.c9 a t) = decide (T <= t) := by
  unfold goodS
  rw [tok_time' ht, tok_len]
  simp
theorem tok_accept0 (g : Cfg) (T : Int) : acceptS (srvT g T) = (0, 4, srvT g T) := rfl
theorem tok_clock (g : Cfg) (T : Int) : clockS (srvT g 0) T = srvT g T := rfl
structure GotS where
  bytes : List Int
  fin : Bool
  rst : Bool
def raisedN (r n : Int) : Int := if 1073741823 < r + n then 1073741823 else r + n
def takeK (x : StrS) (most : Int) : Nat := min most.toNat (leadS x.bytes)
def readX (x : StrS) (most : Int) : GotS × StrS :=
  (⟨x.bytes.take (takeK x most), !x.reset && decide (x.read + takeK x most = x.final), x.reset⟩,
    { x with bytes := x.bytes.drop (takeK x most), read := x.read + takeK x most, done := (!x.reset && decide (x.read + takeK x most = x.final)) || x.reset })
def moreX (g : Cfg) (x : StrS) : Bool := decide (x.final < 0) && decide (x.credit < x.read + g.c2 / 2) && decide (x.credit < 1073741823)
def pieceC (g : Cfg) (c : ConS) (id : Nat) (x : StrS) : ConS × List (Int × List Int) :=
  if moreX g x then
    let c1 := { c with streams := c.streams.set id { x with credit := raisedN x.read g.c2 } }
    let f := [17] ++ putL id ++ putL (raisedN x.read g.c2)
    (newsC c1 f, newsO c1 f [])
  else ({ c with streams := c.streams.set id x }, [])
def dataC (g : Cfg) (r : ConS × List (Int × List Int)) : ConS × List (Int × List Int) :=
  if decide (r.1.credit < readAll r.1.streams + g.c1 / 2) && decide (r.1.credit < 1073741823) then
    let c1 := { r.1 with credit := raisedN (readAll r.1.streams) g.c1 }
    let f := [16] ++ putL c1.credit
    (newsC c1 f, newsO c1 f r.2)
  else r
def limitC (g : Cfg) (on : Bool) (r : ConS × List (Int × List Int)) : ConS × List (Int × List Int) :=
  if on && decide (r.1.streams.length < 1073741823) then
    let c1 := { r.1 with streams := growS g.c2 r.1.streams (r.1.streams.length + 1) }
    let f := [18] ++ putL c1.streams.length
    (newsC c1 f, newsO c1 f r.2)
  else r
def readC (g : Cfg) (c : ConS) (id : Nat) (x : StrS) (most : Int) : ConS × List (Int × List Int) :=
  limitC g (!x.done && ((readX x most).1.fin || (readX x most).1.rst)) (dataC g (pieceC g c id (readX x most).2))
def gotNil : GotS := ⟨[], false, false⟩
def readS (s : SrvS) (cid id most : Int) : Int × GotS × SrvS × List (Int × List Int) :=
  match findI s.conns cid with
  | none => (3, gotNil, s, [])
  | some i => match s.conns[i]? with
    | none => (3, gotNil, s, [])
    | some c => if c.proven = false then (3, gotNil, s, [])
      else if id < 0 \/ (c.streams.length : Int) <= id \/ most < 0 then (2, gotNil, s, [])
      else match c.streams[id.toNat]? with
        | none => (2, gotNil, s, [])
        | some x => (0, (readX x most).1, { s with conns := s.conns.set i (readC s.c c id.toNat x most).1 }, (readC s.c c id.toNat x most).2)
theorem readAll_snoc (l : List StrS) (x : StrS) : readAll (l ++ [x]) = readAll l + readOf x := by
  simp [readAll, List.sum_append]
theorem runs_take (base : Int) (l : List Int) (m : Nat) :
    (if (l.take (leadS l)).drop m = [] then runsOf (base + leadS l) (l.drop (leadS l)) else (base + min (m : Int) (l.take (leadS l)).length, (l.take (leadS l)).drop m) :: runsOf (base + leadS l) (l.drop (leadS l))) = runsOf (base + (min m (leadS l) : Nat)) (l.drop (min m (leadS l))) := by
  have hll := leadS_le l
  have htl : (l.take (leadS l)).length = leadS l := by rw [List.length_take]; omega
  rcases Nat.lt_or_ge m (leadS l) with h | h
  . have hne : ¬ (l.take (leadS l)).drop m = [] := fun e => by
      have := congrArg List.length e
      rw [List.length_drop, htl] at this
      simp at this
      omega
    have hmin : min m (leadS l) = m := by omega
    have hld := leadS_drop l m (by omega)
    rw [if_neg hne, hmin, runsOf_lead (l.drop m) (base + m) (by omega), hld, htl, List.drop_drop, List.drop_take]
    have e1 : min (m : Int) (leadS l) = m := by omega
    have e2 : base + (m : Int) + ((leadS l - m : Nat) : Int) = base + leadS l := by omega
    have e3 : m + (leadS l - m) = leadS l := by omega
    rw [e1, e2, e3]
  . have hn : (l.take (leadS l)).drop m = [] := List.drop_eq_nil_of_le (by omega)
    have hmin : min m (leadS l) = leadS l := by omega
    rw [if_pos hn, hmin]
theorem takeK_taken (x : StrS) (most : Int) : (x.bytes.take (leadS x.bytes)).take most.toNat = x.bytes.take (takeK x most) := by
  rw [List.take_take]
  rfl
end Go.Proofs.YthmdjhlhodpbhaaGreatDoor
