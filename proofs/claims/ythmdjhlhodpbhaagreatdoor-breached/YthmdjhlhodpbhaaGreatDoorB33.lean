/- Breached, part 33 -/
import Derived.BigRegion
import Derived.Deep.RegionHeld3
import Derived.Test.YthmdjhlhodpbhaaGreatDoorB17
import Derived.Test.YthmdjhlhodpbhaaGreatDoorB18
import Derived.Test.YthmdjhlhodpbhaaGreatDoorB24
import Derived.Test.YthmdjhlhodpbhaaGreatDoorB32
namespace Go.Proofs.YthmdjhlhodpbhaaGreatDoor
open Go.RowKit
def lookC (c : ConS) : Array Value := #[.bool c.proven, .int .i64 c.got, .int .i64 c.sent, .int .i64 c.credit, .int .i64 (c.streams.length : Int), .int .i64 (bufS c.streams)]
def zeroLook : Array Value := #[.bool false, .int .i64 0, .int .i64 0, .int .i64 0, .int .i64 0, .int .i64 0]
def lookS (s : SrvS) (cid : Int) : Array Value × Int :=
  match findI s.conns cid with
  | none => (zeroLook, 3)
  | some k => match s.conns[k]? with
    | none => (zeroLook, 3)
    | some c => (lookC c, 0)
theorem upon_skip {P : Program} {o : Oper} {a : Act} {K : Act -> World -> Prop} {Q : Exit -> Act -> World -> Prop} {w : World} (h : K (a.put o.dst undef) w) : Oper.upon P o a K Q (.ok .skip w) := h
theorem upon_id {P : Program} {o : Oper} {a : Act} {K : Act -> World -> Prop} {Q : Exit -> Act -> World -> Prop} {r : Result Next} (h : Oper.upon P o a K Q r) : Oper.upon P o a K Q r := h
set_option maxHeartbeats 8000000 in
set_option maxRecDepth 8000 in
theorem cLook_any (N cb : Nat) (g : Cfg) (c : ConS) (a : ConX) (w : World) (h : ConAt N w cb g c a) (hi : ConInv g c) {M : Int} (hok : ConOk M c) (hg : CfgOk g) :
    Calls Tryz.prog 41 #[.pointer (some ⟨cb, 0, none⟩)] w fun e w' => e = .returned (.agg (lookC c)) /\ Below w.heap.size w w' := by
  have hcl : cb < w.heap.size := h.blk.lt
  have HBu : Hid (∀ W, Below w.heap.size w W -> Calls Tryz.prog 70 #[.pointer (some ⟨cb, 0, none⟩), .func (.func 71) #[] #[]] W fun e w' => e = .returned (.int .i64 (bufS c.streams)) /\ Below W.heap.size W w') := fun W hW => cbuf_any N cb g c a W (h.below hW) hi hok hg
  have HK := hideIt (fun W => kBytes_any c.credit g.c1 W)
  have HI0 : Hid (∀ W, Below w.heap.size w W -> W.heap[w.heap.size]? = some (.cells #[.bool false, .int .i64 0, .int .i64 0, .int .i64 0, .int .i64 0, .int .i64 0] 34 (0, 0)) -> W.cell? ⟨cb, 12, none⟩ = some (.bool c.proven) /\ W.cell? ⟨cb, 13, none⟩ = some (.int .i64 c.got) /\ W.cell? ⟨cb, 14, none⟩ = some (.int .i64 c.sent) /\ W.cell? ⟨cb, 18, none⟩ = some (.int .i64 c.credit) /\ W.cell? ⟨cb, 19, none⟩ = some (.int .i64 g.c1) /\ W.cell? ⟨cb, 20, none⟩ = some (.int .i64 (c.streams.length : Int)) /\ W.heap[w.heap.size]? = some (.cells #[.bool false, .int .i64 0, .int .i64 0, .int .i64 0, .int .i64 0, .int .i64 0] 34 (0, 0))) := fun W hW hx => ⟨(h.blk.below hW).cell 12, (h.blk.below hW).cell 13, (h.blk.below hW).cell 14, (h.blk.below hW).cell 18, (h.blk.below hW).cell 19, (h.blk.below hW).cell 20, hx⟩
  have hb0 : Below w.heap.size w (w.alloc (.cells #[.bool false, .int .i64 0, .int .i64 0, .int .i64 0, .int .i64 0, .int .i64 0] 34)) := below_alloc w _
  have hS0 := HI0.out _ hb0 (heap_alloc_new w _)
  have HB0 := hideIt hb0
  have HZ0 : Hid (w.heap.size < (w.alloc (.cells #[.bool false, .int .i64 0, .int .i64 0, .int .i64 0, .int .i64 0, .int .i64 0] 34)).heap.size) := by show _ < _; simp
  unfold lookC
  generalize bufS c.streams = B at HBu ⊢
  generalize hW0 : (w.alloc (.cells #[.bool false, .int .i64 0, .int .i64 0, .int .i64 0, .int .i64 0, .int .i64 0] 34)) = w0 at *
  have HW0 := hideIt hW0
  clear h hi hok hg hb0 hW0
  go_enter Tryz.func41, Tryz.ntmps41
  go_wp2_with fail
  rw [HW0.out]
  obtain ⟨i12, i13, i14, i18, i19, i20, ix⟩ := id hS0
  have HRs : Hid (∀ W : World, Below w0.heap.size w0 W -> (W.cell? ⟨w.heap.size, 0, none⟩ = some (.bool false) /\ W.frozen? ⟨w.heap.size, 0, none⟩ = false /\ (W.setCell ⟨w.heap.size, 0, none⟩ (.bool c.proven)).cell? ⟨w.heap.size, 1, none⟩ = some (.int .i64 0) /\ (W.setCell ⟨w.heap.size, 0, none⟩ (.bool c.proven)).frozen? ⟨w.heap.size, 1, none⟩ = false /\ ((W.setCell ⟨w.heap.size, 0, none⟩ (.bool c.proven)).setCell ⟨w.heap.size, 1, none⟩ (.int .i64 c.got)).cell? ⟨w.heap.size, 2, none⟩ = some (.int .i64 0) /\ ((W.setCell ⟨w.heap.size, 0, none⟩ (.bool c.proven)).setCell ⟨w.heap.size, 1, none⟩ (.int .i64 c.got)).frozen? ⟨w.heap.size, 2, none⟩ = false /\ (((W.setCell ⟨w.heap.size, 0, none⟩ (.bool c.proven)).setCell ⟨w.heap.size, 1, none⟩ (.int .i64 c.got)).setCell ⟨w.heap.size, 2, none⟩ (.int .i64 c.sent)).cell? ⟨w.heap.size, 3, none⟩ = some (.int .i64 0) /\ (((W.setCell ⟨w.heap.size, 0, none⟩ (.bool c.proven)).setCell ⟨w.heap.size, 1, none⟩ (.int .i64 c.got)).setCell ⟨w.heap.size, 2, none⟩ (.int .i64 c.sent)).frozen? ⟨w.heap.size, 3, none⟩ = false /\ ((((W.setCell ⟨w.heap.size, 0, none⟩ (.bool c.proven)).setCell ⟨w.heap.size, 1, none⟩ (.int .i64 c.got)).setCell ⟨w.heap.size, 2, none⟩ (.int .i64 c.sent)).setCell ⟨w.heap.size, 3, none⟩ (.int .i64 c.credit)).cell? ⟨w.heap.size, 4, none⟩ = some (.int .i64 0) /\ ((((W.setCell ⟨w.heap.size, 0, none⟩ (.bool c.proven)).setCell ⟨w.heap.size, 1, none⟩ (.int .i64 c.got)).setCell ⟨w.heap.size, 2, none⟩ (.int .i64 c.sent)).setCell ⟨w.heap.size, 3, none⟩ (.int .i64 c.credit)).frozen? ⟨w.heap.size, 4, none⟩ = false /\ (((((W.setCell ⟨w.heap.size, 0, none⟩ (.bool c.proven)).setCell ⟨w.heap.size, 1, none⟩ (.int .i64 c.got)).setCell ⟨w.heap.size, 2, none⟩ (.int .i64 c.sent)).setCell ⟨w.heap.size, 3, none⟩ (.int .i64 c.credit)).setCell ⟨w.heap.size, 4, none⟩ (.int .i64 (c.streams.length : Int))).cell? ⟨w.heap.size, 5, none⟩ = some (.int .i64 0) /\ (((((W.setCell ⟨w.heap.size, 0, none⟩ (.bool c.proven)).setCell ⟨w.heap.size, 1, none⟩ (.int .i64 c.got)).setCell ⟨w.heap.size, 2, none⟩ (.int .i64 c.sent)).setCell ⟨w.heap.size, 3, none⟩ (.int .i64 c.credit)).setCell ⟨w.heap.size, 4, none⟩ (.int .i64 (c.streams.length : Int))).frozen? ⟨w.heap.size, 5, none⟩ = false /\ ((((((W.setCell ⟨w.heap.size, 0, none⟩ (.bool c.proven)).setCell ⟨w.heap.size, 1, none⟩ (.int .i64 c.got)).setCell ⟨w.heap.size, 2, none⟩ (.int .i64 c.sent)).setCell ⟨w.heap.size, 3, none⟩ (.int .i64 c.credit)).setCell ⟨w.heap.size, 4, none⟩ (.int .i64 (c.streams.length : Int))).setCell ⟨w.heap.size, 5, none⟩ (.int .i64 B)).heap[w.heap.size]? = some (.cells #[.bool c.proven, .int .i64 c.got, .int .i64 c.sent, .int .i64 c.credit, .int .i64 (c.streams.length : Int), .int .i64 B] 34 (0, 0)))) := by
    intro W hb
    have x0 := (hb.block w.heap.size HZ0.out).trans ix
    have x1 := block_set x0 0 (.bool c.proven)
    have x2 := block_set x1 1 (.int .i64 c.got)
    have x3 := block_set x2 2 (.int .i64 c.sent)
    have x4 := block_set x3 3 (.int .i64 c.credit)
    have x5 := block_set x4 4 (.int .i64 (c.streams.length : Int))
    have x6 := block_set x5 5 (.int .i64 B)
    refine ⟨by simp only [World.cell?, x0]; rfl, frozen_of_row _ _ _ _ _ x0, by simp only [World.cell?, x1]; rfl, frozen_of_row _ _ _ _ _ x1, by simp only [World.cell?, x2]; rfl, frozen_of_row _ _ _ _ _ x2, by simp only [World.cell?, x3]; rfl, frozen_of_row _ _ _ _ _ x3, by simp only [World.cell?, x4]; rfl, frozen_of_row _ _ _ _ _ x4, by simp only [World.cell?, x5]; rfl, frozen_of_row _ _ _ _ _ x5, x6⟩
  have hne : cb ≠ w.heap.size := by omega
  have hc6 : ∀ (W : World) (u0 u1 u2 u3 u4 u5 : Value) (q : Nat), ((((((W.setCell ⟨w.heap.size, 0, none⟩ u0).setCell ⟨w.heap.size, 1, none⟩ u1).setCell ⟨w.heap.size, 2, none⟩ u2).setCell ⟨w.heap.size, 3, none⟩ u3).setCell ⟨w.heap.size, 4, none⟩ u4).setCell ⟨w.heap.size, 5, none⟩ u5).cell? ⟨cb, q, none⟩ = W.cell? ⟨cb, q, none⟩ := by
    intro W u0 u1 u2 u3 u4 u5 q
    simp only [World.cell?]
    rw [heap_setCell_other _ _ _ _ hne, heap_setCell_other _ _ _ _ hne, heap_setCell_other _ _ _ _ hne, heap_setCell_other _ _ _ _ hne, heap_setCell_other _ _ _ _ hne, heap_setCell_other _ _ _ _ hne]
  have HKs : Hid (∀ (W : World) (u0 u1 u2 u3 u4 u5 : Value), (W.cell? ⟨cb, 12, none⟩ = some (.bool c.proven) /\ W.cell? ⟨cb, 13, none⟩ = some (.int .i64 c.got) /\ W.cell? ⟨cb, 14, none⟩ = some (.int .i64 c.sent) /\ W.cell? ⟨cb, 18, none⟩ = some (.int .i64 c.credit) /\ W.cell? ⟨cb, 19, none⟩ = some (.int .i64 g.c1) /\ W.cell? ⟨cb, 20, none⟩ = some (.int .i64 (c.streams.length : Int))) -> (((((((W.setCell ⟨w.heap.size, 0, none⟩ u0).setCell ⟨w.heap.size, 1, none⟩ u1).setCell ⟨w.heap.size, 2, none⟩ u2).setCell ⟨w.heap.size, 3, none⟩ u3).setCell ⟨w.heap.size, 4, none⟩ u4).setCell ⟨w.heap.size, 5, none⟩ u5).cell? ⟨cb, 12, none⟩ = some (.bool c.proven) /\ ((((((W.setCell ⟨w.heap.size, 0, none⟩ u0).setCell ⟨w.heap.size, 1, none⟩ u1).setCell ⟨w.heap.size, 2, none⟩ u2).setCell ⟨w.heap.size, 3, none⟩ u3).setCell ⟨w.heap.size, 4, none⟩ u4).setCell ⟨w.heap.size, 5, none⟩ u5).cell? ⟨cb, 13, none⟩ = some (.int .i64 c.got) /\ ((((((W.setCell ⟨w.heap.size, 0, none⟩ u0).setCell ⟨w.heap.size, 1, none⟩ u1).setCell ⟨w.heap.size, 2, none⟩ u2).setCell ⟨w.heap.size, 3, none⟩ u3).setCell ⟨w.heap.size, 4, none⟩ u4).setCell ⟨w.heap.size, 5, none⟩ u5).cell? ⟨cb, 14, none⟩ = some (.int .i64 c.sent) /\ ((((((W.setCell ⟨w.heap.size, 0, none⟩ u0).setCell ⟨w.heap.size, 1, none⟩ u1).setCell ⟨w.heap.size, 2, none⟩ u2).setCell ⟨w.heap.size, 3, none⟩ u3).setCell ⟨w.heap.size, 4, none⟩ u4).setCell ⟨w.heap.size, 5, none⟩ u5).cell? ⟨cb, 18, none⟩ = some (.int .i64 c.credit) /\ ((((((W.setCell ⟨w.heap.size, 0, none⟩ u0).setCell ⟨w.heap.size, 1, none⟩ u1).setCell ⟨w.heap.size, 2, none⟩ u2).setCell ⟨w.heap.size, 3, none⟩ u3).setCell ⟨w.heap.size, 4, none⟩ u4).setCell ⟨w.heap.size, 5, none⟩ u5).cell? ⟨cb, 19, none⟩ = some (.int .i64 g.c1) /\ ((((((W.setCell ⟨w.heap.size, 0, none⟩ u0).setCell ⟨w.heap.size, 1, none⟩ u1).setCell ⟨w.heap.size, 2, none⟩ u2).setCell ⟨w.heap.size, 3, none⟩ u3).setCell ⟨w.heap.size, 4, none⟩ u4).setCell ⟨w.heap.size, 5, none⟩ u5).cell? ⟨cb, 20, none⟩ = some (.int .i64 (c.streams.length : Int)))) := by
    intro W u0 u1 u2 u3 u4 u5 h
    simp only [hc6]
    exact h
  clear hc6
  have HK1 : Hid (∀ W W' : World, Below W.heap.size W W' -> (W.cell? ⟨cb, 12, none⟩ = some (.bool c.proven) /\ W.cell? ⟨cb, 13, none⟩ = some (.int .i64 c.got) /\ W.cell? ⟨cb, 14, none⟩ = some (.int .i64 c.sent) /\ W.cell? ⟨cb, 18, none⟩ = some (.int .i64 c.credit) /\ W.cell? ⟨cb, 19, none⟩ = some (.int .i64 g.c1) /\ W.cell? ⟨cb, 20, none⟩ = some (.int .i64 (c.streams.length : Int))) -> (W'.cell? ⟨cb, 12, none⟩ = some (.bool c.proven) /\ W'.cell? ⟨cb, 13, none⟩ = some (.int .i64 c.got) /\ W'.cell? ⟨cb, 14, none⟩ = some (.int .i64 c.sent) /\ W'.cell? ⟨cb, 18, none⟩ = some (.int .i64 c.credit) /\ W'.cell? ⟨cb, 19, none⟩ = some (.int .i64 g.c1) /\ W'.cell? ⟨cb, 20, none⟩ = some (.int .i64 (c.streams.length : Int)))) := fun W W' hb h => ⟨cell_below h.1 hb, cell_below h.2.1 hb, cell_below h.2.2.1 hb, cell_below h.2.2.2.1 hb, cell_below h.2.2.2.2.1 hb, cell_below h.2.2.2.2.2 hb⟩
  have hSd : w0.drew.cell? ⟨cb, 12, none⟩ = some (.bool c.proven) /\ w0.drew.cell? ⟨cb, 13, none⟩ = some (.int .i64 c.got) /\ w0.drew.cell? ⟨cb, 14, none⟩ = some (.int .i64 c.sent) /\ w0.drew.cell? ⟨cb, 18, none⟩ = some (.int .i64 c.credit) /\ w0.drew.cell? ⟨cb, 19, none⟩ = some (.int .i64 g.c1) /\ w0.drew.cell? ⟨cb, 20, none⟩ = some (.int .i64 (c.streams.length : Int)) := ⟨i12, i13, i14, i18, i19, i20⟩
  go_region_held3 (fun w' => w'.cell? ⟨cb, 12, none⟩ = some (.bool c.proven) /\ w'.cell? ⟨cb, 13, none⟩ = some (.int .i64 c.got) /\ w'.cell? ⟨cb, 14, none⟩ = some (.int .i64 c.sent) /\ w'.cell? ⟨cb, 18, none⟩ = some (.int .i64 c.credit) /\ w'.cell? ⟨cb, 19, none⟩ = some (.int .i64 g.c1) /\ w'.cell? ⟨cb, 20, none⟩ = some (.int .i64 (c.streams.length : Int))) (first | with_reducible assumption | with_reducible exact HKs.out _ _ _ _ _ _ _ (by with_reducible assumption)) (first
    | (go_at_call 69; refine (HK.out _).mono ?_; rintro e w1 ⟨rfl, hb1⟩; have hS1 := HK1.out _ _ hb1 (by first | assumption | exact ⟨i12, i13, i14, i18, i19, i20⟩))
    | (go_at_call 70; refine (HBu.out w1 (below_join (below_drewN HB0.out 1) hb1)).mono ?_; rintro e w2 ⟨rfl, hb2⟩; have hS2 := HK1.out _ _ hb2 (by first | assumption | exact ⟨i12, i13, i14, i18, i19, i20⟩))
    | (refine upon_id ?_; obtain ⟨e0, f0, e1, f1, e2, f2, e3, f3, e4, f4, e5, f5, hfin⟩ := HRs.out w2 (below_join (below_undrew hb1) hb2); simp only [e0, f0, e1, f1, e2, f2, e3, f3, e4, f4, e5, f5, Result.andThen_ok, Bool.false_eq_true, if_false]; refine upon_skip ?_))
  have HB2 := hideIt (below_join (below_join HB0.out (below_undrew hb1)) hb2)
  have HFn := hideIt hfin
  clear hfin e0 f0 e1 f1 e2 f2 e3 f3 e4 f4 e5 f5 hS1 hS2 hb1 hb2 HKs HRs HK1 HBu HK hSd hS0 i12 i13 i14 i18 i19 i20
  go_wp2_with fail
  refine bodyPost_ret (results_cell_row (P := Tryz.prog) Tryz.results41 _ _ w.heap.size 34 #[.bool c.proven, .int .i64 c.got, .int .i64 c.sent, .int .i64 c.credit, .int .i64 (c.streams.length : Int), .int .i64 B] (0, 0) _ rfl HFn.out Tryz.underlying34 rfl (by kernel_rfl)) rfl ?_
  exact ⟨rfl, ((((((HB2.out.setCell (Nat.le_refl _) _).setCell (Nat.le_refl _) _).setCell (Nat.le_refl _) _).setCell (Nat.le_refl _) _).setCell (Nat.le_refl _) _).setCell (Nat.le_refl _) _)⟩
end Go.Proofs.YthmdjhlhodpbhaaGreatDoor
namespace Go.Proofs.YthmdjhlhodpbhaaGreatDoor
theorem srvA_found (g : Cfg) (c : ConS) (h : c.cid = 300) : findI (srvA g c).conns 300 = some 0 := by
  simp [findI, srvA, h]
theorem breach_recv {g : Cfg} (hg : CfgOk g) {got sent q n x' : Int} (hn : 0 <= n /\ n < g.c2) (hx' : letterN 0 n ≠ x') :
    receiveS (srvA g (conA g got sent [] (List.replicate g.c3.toNat (strNew g.c2)))) 1 (dataL 300 0 (breachF g q n x').1) = (⟨g, 0, [], 1⟩, [(1, [4, 65, 44, 19, (breachF g q n x').2])]) := by
  obtain ⟨fr, hfr⟩ : ∃ fr, (breachF g q n x').1 = fr := ⟨_, rfl⟩
  obtain ⟨m, hm⟩ : ∃ m : Nat, (dataL 300 0 fr).length = m + 3 := ⟨(dataL 300 0 fr).length - 3, by simp [dataL, putL]⟩
  obtain ⟨cX, hc, e1, e2, e3⟩ := breach_con hg (lw := 2) (got := got + ((m + 3 : Nat) : Int)) (sent := sent) (q := q) (m := m) hn hx'
  have hcode : (breachF g q n x').2 < 64 /\ 0 <= (breachF g q n x').2 := by
    unfold breachF
    repeat' split
    all_goals simp
  rw [hfr] at hc ⊢
  unfold receiveS
  rw [if_neg (by decide), dgram_data (by decide) (by decide)]
  simp only [hm]
  rw [if_neg (by decide)]
  unfold dataS
  rw [srvA_found g _ rfl]
  simp only [srvA, List.getElem?_cons_zero]
  rw [if_neg (by simp [conA])]
  have hcom : comesC { conA g got sent [] (List.replicate g.c3.toNat (strNew g.c2)) with got := (conA g got sent [] (List.replicate g.c3.toNat (strNew g.c2))).got + ((m + 3 : Nat) : Int) } 0 = some (conA g (got + ((m + 3 : Nat) : Int)) sent [(0, 0)] (List.replicate g.c3.toNat (strNew g.c2))) := by
    rfl
  rw [hcom]
  simp only
  rw [frames_con (m + 3) (c := conA g (got + ((m + 3 : Nat) : Int)) sent [(0, 0)] (List.replicate g.c3.toNat (strNew g.c2))) fr [] rfl]
  have hc' : conFrames g (1 + 1) (conA g (got + ((m + 3 : Nat) : Int)) sent [(0, 0)] (List.replicate g.c3.toNat (strNew g.c2))) fr (m + 3) = ⟨cX, some (breachF g q n x').2, true⟩ := hc
  simp only
  rw [hc']
  refine Prod.ext ?_ ?_
  · simp [conS, conA]
  · simp only [closedO]
    unfold newsO
    rw [if_pos (by simp [newsMay, e3]), e1, e2]
    have hp : putL (breachF g q n x').2 = [(breachF g q n x').2] := by
      unfold putL
      rw [if_pos hcode.1]
    rw [hp]
    simp [newsL, putL]
theorem gone_look (g : Cfg) : lookS ⟨g, 0, [], 1⟩ 300 = (zeroLook, 3) := rfl
theorem gone_recv (g : Cfg) : receiveS ⟨g, 0, [], 1⟩ 1 (dataL 300 1 [1]) = (⟨g, 0, [], 1⟩, []) := by
  unfold receiveS
  rw [if_neg (by decide), dgram_data (by decide) (by decide)]
  rfl
structure GotS where
  bytes : List Int
  fin : Bool
  rst : Bool
def raisedN (r n : Int) : Int := if 1073741823 < r + n then 1073741823 else r + n
def takeK (x : StrS) (most : Int) : Nat := min most.toNat (leadS x.bytes)
def readX (x : StrS) (most : Int) : GotS × StrS :=
  (⟨x.bytes.take (takeK x most), !x.reset && decide (x.read + takeK x most = x.final), x.reset⟩,
    { x with bytes := x.bytes.drop (takeK x most), read := x.read + takeK x most, done := (!x.reset && decide (x.read + takeK x most = x.final)) || x.reset })
def moreX (g : Cfg) (x : StrS) : Bool := decide (x.final < 0) && decide (x.credit < x.read + g.c2 / 2) && decide (x.credit < 1073741823)
def pieceC (g : Cfg) (c : ConS) (id : Nat) (x : StrS) : ConS × List (Int × List Int) :=
  if moreX g x then
    let c1 := { c with streams := c.streams.set id { x with credit := raisedN x.read g.c2 } }
    let f := [17] ++ putL id ++ putL (raisedN x.read g.c2)
    (newsC c1 f, newsO c1 f [])
  else ({ c with streams := c.streams.set id x }, [])
def dataC (g : Cfg) (r : ConS × List (Int × List Int)) : ConS × List (Int × List Int) :=
  if decide (r.1.credit < readAll r.1.streams + g.c1 / 2) && decide (r.1.credit < 1073741823) then
    let c1 := { r.1 with credit := raisedN (readAll r.1.streams) g.c1 }
    let f := [16] ++ putL c1.credit
    (newsC c1 f, newsO c1 f r.2)
  else r
def limitC (g : Cfg) (on : Bool) (r : ConS × List (Int × List Int)) : ConS × List (Int × List Int) :=
  if on && decide (r.1.streams.length < 1073741823) then
    let c1 := { r.1 with streams := growS g.c2 r.1.streams (r.1.streams.length + 1) }
    let f := [18] ++ putL c1.streams.length
    (newsC c1 f, newsO c1 f r.2)
  else r
def readC (g : Cfg) (c : ConS) (id : Nat) (x : StrS) (most : Int) : ConS × List (Int × List Int) :=
  limitC g (!x.done && ((readX x most).1.fin || (readX x most).1.rst)) (dataC g (pieceC g c id (readX x most).2))
def gotNil : GotS := ⟨[], false, false⟩
def readS (s : SrvS) (cid id most : Int) : Int × GotS × SrvS × List (Int × List Int) :=
  match findI s.conns cid with
  | none => (3, gotNil, s, [])
  | some i => match s.conns[i]? with
    | none => (3, gotNil, s, [])
    | some c => if c.proven = false then (3, gotNil, s, [])
      else if id < 0 \/ (c.streams.length : Int) <= id \/ most < 0 then (2, gotNil, s, [])
      else match c.streams[id.toNat]? with
        | none => (2, gotNil, s, [])
        | some x => (0, (readX x most).1, { s with conns := s.conns.set i (readC s.c c id.toNat x most).1 }, (readC s.c c id.toNat x most).2)
theorem readAll_snoc (l : List StrS) (x : StrS) : readAll (l ++ [x]) = readAll l + readOf x := by
  simp [readAll, List.sum_append]
theorem runs_take (base : Int) (l : List Int) (m : Nat) :
    (if (l.take (leadS l)).drop m = [] then runsOf (base + leadS l) (l.drop (leadS l)) else (base + min (m : Int) (l.take (leadS l)).length, (l.take (leadS l)).drop m) :: runsOf (base + leadS l) (l.drop (leadS l))) = runsOf (base + (min m (leadS l) : Nat)) (l.drop (min m (leadS l))) := by
  have hll := leadS_le l
  have htl : (l.take (leadS l)).length = leadS l := by rw [List.length_take]; omega
  rcases Nat.lt_or_ge m (leadS l) with h | h
  · have hne : ¬ (l.take (leadS l)).drop m = [] := fun e => by
      have := congrArg List.length e
      rw [List.length_drop, htl] at this
      simp at this
      omega
    have hmin : min m (leadS l) = m := by omega
    have hld := leadS_drop l m (by omega)
    rw [if_neg hne, hmin, runsOf_lead (l.drop m) (base + m) (by omega), hld, htl, List.drop_drop, List.drop_take]
    have e1 : min (m : Int) (leadS l) = m := by omega
    have e2 : base + (m : Int) + ((leadS l - m : Nat) : Int) = base + leadS l := by omega
    have e3 : m + (leadS l - m) = leadS l := by omega
    rw [e1, e2, e3]
  · have hn : (l.take (leadS l)).drop m = [] := List.drop_eq_nil_of_le (by omega)
    have hmin : min m (leadS l) = leadS l := by omega
    rw [if_pos hn, hmin]
theorem takeK_taken (x : StrS) (most : Int) : (x.bytes.take (leadS x.bytes)).take most.toNat = x.bytes.take (takeK x most) := by
  rw [List.take_take]
  rfl
end Go.Proofs.YthmdjhlhodpbhaaGreatDoor
namespace Go.Proofs.YthmdjhlhodpbhaaGreatDoor
open Go.RowKit
theorem x_RunsAt.chg {F : Nat -> Prop} {w w' : World} {lv : Value} {vs : List RunV} {rl : List RunL} (h : x_RunsAt w lv vs rl) (hc : Chg F w w') (h2 : ∀ g, lv.ownBlock = some g -> ¬ F g) (h3 : ∀ k cur fr, w.heap[k]? = some (.cells cur 5 fr) -> ¬ F k) : x_RunsAt w' lv vs rl := ⟨own_chg h.own hc h2, h.sh, fun i v r hv hw => (h.ro i v r hv hw).chg hc h3⟩
theorem chg_then {F G : Nat -> Prop} {a b c : World} (h : Chg F a b) (k : Chg G b c) (hg : ∀ q, q < a.heap.size -> G q -> F q) : Chg F a c :=
  ⟨k.os.trans h.os, k.tape.trans h.tape, k.output.trans h.output, Nat.le_trans h.size k.size, fun i hi hn => (k.block i (Nat.lt_of_lt_of_le hi h.size) (fun e => hn (hg i hi e))).trans (h.block i hi hn)⟩
theorem xTake_at (U : Nat -> Prop) (b : Nat) (lv : Value) (piece : Int) (x : StrS) (most gaps : Int) (w : World) (h : StrAt U w b lv piece x) (hI : StrInv gaps x) (hg : gaps <= 8) (hm : 0 <= most /\ most <= 9223372036854775807) :
    Calls Tryz.prog 131 #[.pointer (some ⟨b, 0, none⟩), .int .i64 x.read, .int .i64 most] w fun e w' => ∃ tv, e = .returned tv /\ w'.ownsRow w.heap.size 5 1 tv (takeK x most) (U8 (x.bytes.take (takeK x most))) /\
      ∃ lv' vs', x_RunsAt w' lv' vs' (runsOf (x.read + takeK x most) (x.bytes.drop (takeK x most))) /\ (∀ v ∈ vs', CapOk v.2 /\ ∀ g, v.2.ownBlock = some g -> (U g \/ w.heap.size <= g) /\ tv.ownBlock ≠ some g) /\ (lv'.ownBlock = lv.ownBlock \/ ∀ g, lv'.ownBlock = some g -> w.heap.size <= g) /\ Chg (fun q => q = b \/ lv.ownBlock = some q) w w' /\
        w'.heap[b]? = some (.cells #[lv', .int .i64 x.read, .int .i64 x.highest, .int .i64 x.credit, .int .i64 piece, .int .i64 (max x.final 0), .bool (decide (0 <= x.final)), .bool x.reset] 204 (0, 0)) := by
  obtain ⟨vs, hr, hcap⟩ := h.runs
  have h1 := hI.len
  have h2 := hI.cred
  have h3 := hI.read
  have hgp := hI.gaps
  have hrl := runsOf_length x.bytes x.read
  have hfit : RunsFit (runsOf x.read x.bytes) := fit_runsOf h3 (by omega) (by omega)
  have hitems : ∀ {vs' : List RunV} {tv : Value}, (∀ v ∈ vs', v ∈ vs \/ (CapOk v.2 /\ ∀ g, v.2.ownBlock = some g -> w.heap.size <= g)) -> (∀ v ∈ vs', v.2.ownBlock = none \/ v.2.ownBlock ≠ tv.ownBlock) -> ∀ v ∈ vs', CapOk v.2 /\ ∀ g, v.2.ownBlock = some g -> (U g \/ w.heap.size <= g) /\ tv.ownBlock ≠ some g := by
    intro vs' tv ha hb v hv
    have hx : ∀ g, v.2.ownBlock = some g -> tv.ownBlock ≠ some g := fun g hg e => by
      rcases hb v hv with q | q
      · rw [q] at hg; cases hg
      · exact q (by rw [hg, e])
    rcases ha v hv with q | q
    · exact ⟨(hcap v q).1, fun g hg => ⟨Or.inl ((hcap v q).2 g hg), hx g hg⟩⟩
    · exact ⟨q.1, fun g hg => ⟨Or.inr (q.2 g hg), hx g hg⟩⟩
  by_cases hno : most = 0 \/ leadS x.bytes = 0
  · have hk : takeK x most = 0 := by unfold takeK; rcases hno with e | e <;> omega
    have hcov : most = 0 \/ coversR (runsOf x.read x.bytes) x.read (x.read + 1) = false := hno.imp id fun e => by
      rw [covers_lead, e]
      exact decide_eq_false (by omega)
    refine (x_Take_none x.read most lv vs _ b 0 _ 204 w h.blk rfl hr hfit (by omega) hcov).mono ?_
    rintro e w' ⟨rfl, ho⟩
    refine ⟨_, rfl, ?_, lv, vs, ?_, hitems ho.items (fun v hv => ?_), ho.at_, ho.chg, ho.blk⟩
    · rw [hk]
      exact World.ownsRow_nil _ _ _ _
    · rw [hk]
      simpa using ho.runs
    · cases hq : v.2.ownBlock with
      | none => exact Or.inl rfl
      | some q => exact Or.inr (by simp [Value.ownBlock])
  · have hl0 : 0 < leadS x.bytes := by omega
    have hm0 : 0 < most := by omega
    have hrl2 := runsOf_lead x.bytes x.read hl0
    have hr2 := hr
    have hfit2 := hfit
    rw [hrl2] at hr2 hfit2
    refine (x_Take_some x.read most _ _ lv vs b 0 _ 204 w h.blk rfl (by decide) (by decide) hr2 hfit2 hm0 hm.2).mono ?_
    rintro e w' ⟨tv, lv', vs', rfl, how, ho, hne⟩
    have hrt := runs_take x.read x.bytes most.toNat
    have hmn : ((most.toNat : Nat) : Int) = most := by omega
    rw [hmn] at hrt
    have hru := ho.runs
    rw [hrt] at hru
    rw [takeK_taken] at how
    have hkl : (x.bytes.take (takeK x most)).length = takeK x most := by
      have := leadS_le x.bytes
      rw [List.length_take]
      unfold takeK
      omega
    rw [hkl] at how
    exact ⟨tv, rfl, how, lv', vs', hru, hitems ho.items hne, ho.at_, ho.chg, ho.blk⟩
structure TReadOut (U : Nat -> Prop) (w : World) (b : Nat) (lv : Value) (piece : Int) (x : StrS) (most : Int) (e : Ending) (w' : World) : Prop where
  ex : ∃ tv lv', e = .returned (.agg #[tv, .bool (readX x most).1.fin, .bool (readX x most).1.rst]) /\ w'.ownsRow w.heap.size 5 1 tv (readX x most).1.bytes.length (U8 (readX x most).1.bytes) /\
    StrAt (fun g => (U g \/ w.heap.size <= g) /\ tv.ownBlock ≠ some g) w' b lv' piece (readX x most).2 /\ (lv'.ownBlock = lv.ownBlock \/ ∀ g, lv'.ownBlock = some g -> w.heap.size <= g)
  chg : Chg (fun q => q = b \/ lv.ownBlock = some q) w w'
set_option maxHeartbeats 8000000 in
set_option maxRecDepth 8000 in
theorem tRead_at (U : Nat -> Prop) (b : Nat) (lv : Value) (piece : Int) (x : StrS) (most gaps : Int) (w : World) (h : StrAt U w b lv piece x) (hI : StrInv gaps x) (hg : gaps <= 8) (hm : 0 <= most /\ most <= 9223372036854775807) :
    Calls Tryz.prog 74 #[.pointer (some ⟨b, 0, none⟩), .int .i64 most] w fun e w' => TReadOut U w b lv piece x most e w' := by
  have hb0 := below_alloc w (.cells #[.slice none 0 0, .bool false, .bool false] 46)
  have h0 := h.below hb0
  have hxg : (w.alloc (.cells #[.slice none 0 0, .bool false, .bool false] 46)).heap[w.heap.size]? = some (.cells #[.slice none 0 0, .bool false, .bool false] 46 (0, 0)) := heap_alloc_new w _
  have hbl : b < w.heap.size := h.lt
  cases hrs : x.reset with
  | true =>
    have c7 : (w.alloc (.cells #[.slice none 0 0, .bool false, .bool false] 46)).cell? ⟨b, 7, none⟩ = some (.bool true) := by rw [<- hrs]; exact h0.cell 7
    have hbn := (hI.rst hrs).1
    have hk : takeK x most = 0 := by unfold takeK; rw [hbn]; simp [leadS]
    have hX : readX x most = (⟨[], false, true⟩, { x with done := true }) := by
      unfold readX
      rw [hk, hbn, hrs]
      simp
    have HE : Hid (∀ W : World, Below w.heap.size w W -> TReadOut U w b lv piece x most (.returned (.agg #[.slice none 0 0, .bool false, .bool true])) W) := fun W hW => by
      refine ⟨⟨.slice none 0 0, lv, by rw [hX], by rw [hX]; exact World.ownsRow_nil _ _ _ _, ?_, Or.inl rfl⟩, Chg.of_below hW⟩
      rw [hX]
      have h1 := h.below hW
      obtain ⟨vs, hr, hc⟩ := h1.runs
      refine ⟨h1.blk, vs, hr, fun v hv => ⟨(hc v hv).1, fun g hg => ⟨Or.inl ((hc v hv).2 g hg), by simp [Value.ownBlock]⟩⟩⟩
    have HX := hideIt hxg
    have HB := hideIt hb0
    clear h h0 hI hxg hb0 hX hbn
    go_enter Tryz.func74, Tryz.ntmps74
    go_wp2_with fail
    refine bodyPost_ret (results_cell_row (P := Tryz.prog) Tryz.results74 _ _ w.heap.size 46 #[.slice none 0 0, .bool false, .bool true] (0, 0) _ rfl (heap_alloc_new w _) Tryz.underlying46 rfl (by kernel_rfl)) rfl ?_
    exact HE.out _ (below_alloc w _)
  | false =>
    have hkle : takeK x most <= x.bytes.length := by
      have := leadS_le x.bytes
      unfold takeK
      omega
    have hlen := hI.len
    have hcr := hI.cred
    have hrd := hI.read
    have hf0 := hI.fin0
    obtain ⟨k, hk⟩ : ∃ k, takeK x most = k := ⟨_, rfl⟩
    have HT : Hid (∀ W : World, Below w.heap.size w W -> Calls Tryz.prog 131 #[.pointer (some ⟨b, 0, none⟩), .int .i64 x.read, .int .i64 most] W fun e w1 => ∃ ta tc lv', e = .returned (.slice ta k tc) /\ w1.ownsRow w.heap.size 5 1 (.slice ta k tc) k (U8 (x.bytes.take k)) /\
        (∃ vs', x_RunsAt w1 lv' vs' (runsOf (x.read + k) (x.bytes.drop k)) /\ (∀ v ∈ vs', CapOk v.2 /\ ∀ g, v.2.ownBlock = some g -> (U g \/ w.heap.size <= g) /\ (Value.slice ta k tc).ownBlock ≠ some g)) /\ (lv'.ownBlock = lv.ownBlock \/ ∀ g, lv'.ownBlock = some g -> w.heap.size <= g) /\ Chg (fun q => q = b \/ lv.ownBlock = some q) w w1 /\
        w1.heap[b]? = some (.cells #[lv', .int .i64 x.read, .int .i64 x.highest, .int .i64 x.credit, .int .i64 piece, .int .i64 (max x.final 0), .bool (decide (0 <= x.final)), .bool x.reset] 204 (0, 0)) /\ ∀ q, w.heap.size <= q -> q < W.heap.size -> w1.heap[q]? = W.heap[q]?) := by
      intro W hW
      refine (xTake_at U b lv piece x most gaps W (h.below hW) hI hg hm).mono ?_
      rintro e w1 ⟨tv, rfl, how, lv', vs', hr, hc, hat, hch, hbk⟩
      rw [hk] at how hr
      obtain ⟨ta, tc, rfl⟩ := own_form how
      have hs := hW.size
      refine ⟨ta, tc, lv', rfl, own_mono how hs, ⟨vs', hr, fun v hv => ⟨(hc v hv).1, fun g hg => ⟨((hc v hv).2 g hg).1.imp id fun e => by omega, ((hc v hv).2 g hg).2⟩⟩⟩, hat.imp id fun e g hg => Nat.le_trans hs (e g hg), (Chg.of_below hW).trans hch, hbk, fun q h1 h2 => hch.block q h2 fun e => ?_⟩
      rcases e with e | e
      · omega
      · obtain ⟨vs0, h5⟩ := h.own
        have := (h5.lt q e).2
        omega
    have c7 : (w.alloc (.cells #[.slice none 0 0, .bool false, .bool false] 46)).cell? ⟨b, 7, none⟩ = some (.bool x.reset) := h0.cell 7
    rw [hrs] at c7
    have c1 : ∀ W : World, Below w.heap.size w W -> W.cell? ⟨b, 1, none⟩ = some (.int .i64 x.read) := fun W hW => (h.below hW).cell 1
    have c1a := c1 _ hb0
    have HX := hideIt hxg
    have HB := hideIt hb0
    clear h h0 hI hxg c1
    go_enter Tryz.func74, Tryz.ntmps74
    go_wp2_with fail
    go_region_with (first
      | (go_at_call 131; refine (HT.out _ (below_drewN HB.out 1)).mono ?_; rintro e w1 ⟨ta, tc, lv', rfl, how, hru, hat, hch, hbk, hkp⟩))
    have d1 : w1.cell? ⟨b, 1, none⟩ = some (.int .i64 x.read) := by simp [World.cell?, hbk]
    have z1 : w1.frozen? ⟨b, 1, none⟩ = false := frozen_of_row _ _ _ _ _ hbk
    have hgb : w1.heap[w.heap.size]? = some (.cells #[.slice none 0 0, .bool false, .bool false] 46 (0, 0)) := (hkp w.heap.size (Nat.le_refl _) (by show w.heap.size < (w.alloc _).heap.size; simp)).trans HX.out
    have hwk : IntKind.i64.wrap (x.read + (k : Int)) = x.read + k := by rw [IntKind.wrap_i64]; omega
    have hb2 := block_set hbk 1 (.int .i64 (x.read + (k : Int)))
    have hg2 : (w1.setCell ⟨b, 1, none⟩ (.int .i64 (x.read + (k : Int)))).heap[w.heap.size]? = some (.cells #[.slice none 0 0, .bool false, .bool false] 46 (0, 0)) := by
      rw [heap_setCell_other _ _ _ _ (show w.heap.size ≠ b by omega)]
      exact hgb
    have e1 : (w1.setCell ⟨b, 1, none⟩ (.int .i64 (x.read + (k : Int)))).cell? ⟨b, 1, none⟩ = some (.int .i64 (x.read + k)) := by simp only [World.cell?, hb2]; rfl
    have e5 : (w1.setCell ⟨b, 1, none⟩ (.int .i64 (x.read + (k : Int)))).cell? ⟨b, 5, none⟩ = some (.int .i64 (max x.final 0)) := by simp only [World.cell?, hb2]; rfl
    have e6 : (w1.setCell ⟨b, 1, none⟩ (.int .i64 (x.read + (k : Int)))).cell? ⟨b, 6, none⟩ = some (.bool (decide (0 <= x.final))) := by simp only [World.cell?, hb2]; rfl
    have q0 : (w1.setCell ⟨b, 1, none⟩ (.int .i64 (x.read + (k : Int)))).cell? ⟨w.heap.size, 0, none⟩ = some (.slice none 0 0) := by simp only [World.cell?, hg2]; rfl
    have q1 : (w1.setCell ⟨b, 1, none⟩ (.int .i64 (x.read + (k : Int)))).cell? ⟨w.heap.size, 1, none⟩ = some (.bool false) := by simp only [World.cell?, hg2]; rfl
    have q2 : (w1.setCell ⟨b, 1, none⟩ (.int .i64 (x.read + (k : Int)))).cell? ⟨w.heap.size, 2, none⟩ = some (.bool false) := by simp only [World.cell?, hg2]; rfl
    have y0 : ∀ j, (w1.setCell ⟨b, 1, none⟩ (.int .i64 (x.read + (k : Int)))).frozen? ⟨w.heap.size, j, none⟩ = false := fun j => frozen_of_row _ _ j _ _ hg2
    have y00 := y0 0
    have y01 := y0 1
    have y02 := y0 2
    have HOw := hideIt how
    have HRu := hideIt hru
    have HAt := hideIt hat
    have HCh := hideIt hch
    have HBk := hideIt hbk
    clear how hru hat hch hbk hkp hgb c7 c1a HT
    have hX1 : (readX x most).1 = ⟨x.bytes.take k, decide (x.read + k = x.final), false⟩ := by
      unfold readX
      rw [hk, hrs]
      simp
    have hX2 : (readX x most).2 = { x with bytes := x.bytes.drop k, read := x.read + k, done := (readX x most).2.done } := by
      unfold readX
      rw [hk]
    have hlk : (x.bytes.take k).length = k := by rw [List.length_take]; omega
    have HEnd : Hid (∀ fin : Bool, fin = decide (x.read + k = x.final) -> ((((w1.setCell ⟨b, 1, none⟩ (.int .i64 (x.read + (k : Int)))).setCell ⟨w.heap.size, 0, none⟩ (.slice ta k tc)).setCell ⟨w.heap.size, 1, none⟩ (.bool fin)).setCell ⟨w.heap.size, 2, none⟩ (.bool false)).drew.heap[w.heap.size]? = some (.cells #[.slice ta k tc, .bool fin, .bool false] 46 (0, 0)) /\
        TReadOut U w b lv piece x most (.returned (.agg #[.slice ta k tc, .bool fin, .bool false])) ((((w1.setCell ⟨b, 1, none⟩ (.int .i64 (x.read + (k : Int)))).setCell ⟨w.heap.size, 0, none⟩ (.slice ta k tc)).setCell ⟨w.heap.size, 1, none⟩ (.bool fin)).setCell ⟨w.heap.size, 2, none⟩ (.bool false)).drew) := by
      intro fin hfin
      have b1 := block_set hg2 0 (.slice ta k tc)
      have b2 := block_set b1 1 (.bool fin)
      have b3 := block_set b2 2 (.bool false)
      have hw1 : w.heap.size < w1.heap.size := (Array.getElem?_eq_some_iff.1 hg2).1 |> fun h => by simpa using h
      have hC : Chg (fun q => q = b \/ w.heap.size = q) w1 ((((w1.setCell ⟨b, 1, none⟩ (.int .i64 (x.read + (k : Int)))).setCell ⟨w.heap.size, 0, none⟩ (.slice ta k tc)).setCell ⟨w.heap.size, 1, none⟩ (.bool fin)).setCell ⟨w.heap.size, 2, none⟩ (.bool false)).drew := by
        refine ⟨rfl, rfl, rfl, by show w1.heap.size <= _; simp, fun q hq hn => ?_⟩
        have n1 : q ≠ b := fun e => hn (Or.inl e)
        have n2 : q ≠ w.heap.size := fun e => hn (Or.inr e.symm)
        show (((w1.setCell _ _).setCell _ _).setCell _ _ |>.setCell _ _).heap[q]? = _
        rw [heap_setCell_other _ _ _ _ n2, heap_setCell_other _ _ _ _ n2, heap_setCell_other _ _ _ _ n2, heap_setCell_other _ _ _ _ n1]
      refine ⟨b3, ⟨.slice ta k tc, lv', by rw [hX1, hfin], ?_, ?_, HAt.out⟩, ?_⟩
      · rw [hX1]
        simp only [hlk]
        refine own_chg HOw.out hC (fun g hg e => ?_)
        obtain ⟨cc, hcc⟩ := own_blockN HOw.out hg
        rcases e with e | e
        · rw [e, HBk.out] at hcc
          simp only [Option.some.injEq, Obj.cells.injEq] at hcc
          exact absurd hcc.2.1 (by decide)
        · rw [<- e] at hcc
          have h9 : w1.heap[w.heap.size]? = some (.cells #[.slice none 0 0, .bool false, .bool false] 46 (0, 0)) := by
            rw [heap_setCell_other _ _ _ _ (show w.heap.size ≠ b by omega)] at hg2
            exact hg2
          rw [h9] at hcc
          simp only [Option.some.injEq, Obj.cells.injEq] at hcc
          exact absurd hcc.2.1 (by decide)
      · rw [hX2]
        obtain ⟨vs', hru, hcv⟩ := HRu.out
        refine ⟨?_, vs', ?_, hcv⟩
        · show (((w1.setCell _ _).setCell _ _).setCell _ _ |>.setCell _ _).heap[b]? = _
          have n3 : b ≠ w.heap.size := by omega
          rw [heap_setCell_other _ _ _ _ n3, heap_setCell_other _ _ _ _ n3, heap_setCell_other _ _ _ _ n3]
          exact hb2
        · refine hru.chg hC (fun g hg e => ?_) (fun q cur fr hq e => ?_)
          · obtain ⟨cc, hcc⟩ := own_blockN hru.own hg
            rcases e with e | e
            · rw [e, HBk.out] at hcc
              simp only [Option.some.injEq, Obj.cells.injEq] at hcc
              exact absurd hcc.2.1 (by decide)
            · rw [<- e] at hcc
              have h9 : w1.heap[w.heap.size]? = some (.cells #[.slice none 0 0, .bool false, .bool false] 46 (0, 0)) := by
                rw [heap_setCell_other _ _ _ _ (show w.heap.size ≠ b by omega)] at hg2
                exact hg2
              rw [h9] at hcc
              simp only [Option.some.injEq, Obj.cells.injEq] at hcc
              exact absurd hcc.2.1 (by decide)
          · rcases e with e | e
            · rw [e, HBk.out] at hq
              simp only [Option.some.injEq, Obj.cells.injEq] at hq
              exact absurd hq.2.1 (by decide)
            · have h9 : w1.heap[w.heap.size]? = some (.cells #[.slice none 0 0, .bool false, .bool false] 46 (0, 0)) := by
                rw [heap_setCell_other _ _ _ _ (show w.heap.size ≠ b by omega)] at hg2
                exact hg2
              rw [<- e, h9] at hq
              simp only [Option.some.injEq, Obj.cells.injEq] at hq
              exact absurd hq.2.1 (by decide)
      · refine chg_then HCh.out hC (fun q hq e => ?_)
        rcases e with e | e
        · exact Or.inl e
        · omega
    clear hb2 hg2 HOw HRu HAt HCh HBk hX1 hX2
    by_cases hkn : 0 <= x.final
    · rw [show decide (0 <= x.final) = true from decide_eq_true hkn] at e6
      have hmx : max x.final 0 = x.final := by omega
      rw [hmx] at e5
      obtain ⟨hg3, hfin⟩ := HEnd.out (x.read + (k : Int) == x.final) rfl
      have HG3 := hideIt hg3
      have HFn := hideIt hfin
      clear HEnd hg3 hfin
      go_wp2_with fail
      go_region
      go_wp2_with fail
      refine bodyPost_ret (results_cell_row (P := Tryz.prog) Tryz.results74 _ _ w.heap.size 46 #[.slice ta k tc, .bool (x.read + (k : Int) == x.final), .bool false] (0, 0) _ rfl HG3.out Tryz.underlying46 rfl (by kernel_rfl)) rfl ?_
      exact HFn.out
    · rw [show decide (0 <= x.final) = false from decide_eq_false hkn] at e6
      obtain ⟨hg3, hfin⟩ := HEnd.out false (decide_eq_false (by omega)).symm
      have HG3 := hideIt hg3
      have HFn := hideIt hfin
      clear HEnd hg3 hfin
      go_wp2_with fail
      go_region
      go_wp2_with fail
      refine bodyPost_ret (results_cell_row (P := Tryz.prog) Tryz.results74 _ _ w.heap.size 46 #[.slice ta k tc, .bool false, .bool false] (0, 0) _ rfl HG3.out Tryz.underlying46 rfl (by kernel_rfl)) rfl ?_
      exact HFn.out
theorem read_split {α : Type} {gaps piece : Int} {l : List StrS} {sl : List (Int × α)} (hi : ∀ x ∈ l, StrInv gaps x) (h : MapS piece l sl) : readAll l = pastS l + sumK (atS (·.read) l) sl := by
  have h1 := sum_split (fun x => if x.done then 0 else x.read) (fun x _ hd => by simp [hd]) (by simp [strNew]) h
  have h2 : sumK (atS (fun x => if x.done then 0 else x.read) l) sl = sumK (atS (·.read) l) sl := by
    unfold sumK
    congr 1
    refine List.map_congr_left fun p hp => ?_
    obtain ⟨_, x, hx, hd⟩ := h.str p hp
    simp [atS, hx, hd]
  rw [<- h2, <- h1]
  unfold readAll pastS
  rw [sum_filter, <- sum_add]
  congr 1
  refine List.map_congr_left fun x hx => ?_
  have hx1 := hi x hx
  unfold readOf
  cases hd : x.done with
  | false => simp
  | true =>
    cases hr : x.reset with
    | true => simp
    | false =>
      have := (hx1.dn hd).2.2 hr
      simp [this]
set_option maxHeartbeats 4000000 in
theorem csumR_any (cb sm n : Nat) (sl : List (Int × Nat)) (hi : Int -> Int) (w : World) (hc : w.cell? ⟨cb, 21, none⟩ = some (.map (some sm))) (hm : MapIs ptrC Tryz.prog 3 w sm n sl) (hs : ∀ p ∈ sl, w.cell? ⟨p.2, 1, none⟩ = some (.int .i64 (hi p.1))) (hr : ∀ p ∈ sl, 0 <= hi p.1 /\ hi p.1 <= 1073741823) (hl : sl.length <= 1073741823) :
    Calls Tryz.prog 70 #[.pointer (some ⟨cb, 0, none⟩), .func (.func 134) #[] #[]] w fun e w' => e = .returned (.int .i64 (sumK hi sl)) /\ Below w.heap.size w w' := by
  have hS : sumK hi sl <= 1152921504606846976 := by
    have := sumK_le (B := 1073741823) fun p hp => (hr p hp).2
    omega
  have HM := hideIt hm
  have HS := hideIt hs
  have HR := hideIt hr
  clear hm hs hr
  go_enter Tryz.func70, Tryz.ntmps70
  go_wp2_with (first
    | (at_range; refine wpList_mrange _ rfl _ 134 rfl 140 Tryz.underlying3 Tryz.underlying134 sm n sl rfl HM.out ?_; intro w0 hrg0 hg0 hs0))
  have hb0 : Below w.heap.size w w0 := grown_below hg0
  have H0 := hideIt (And.intro hrg0 hb0)
  clear hrg0 hg0 hs0 hb0 hc
  go_frame
  go_loopw [5] (fun s wr => ∃ (rest : List (Int × Nat)) (cnt : Nat), RangeIs ptrC Tryz.prog 3 wr sm w.heap.size n sl rest cnt /\ s = .int .i64 (sumK hi sl - sumK hi rest) /\ Hid (∀ p ∈ rest, p ∈ sl) /\ Hid (sumK hi rest <= sumK hi sl) /\ Below w.heap.size w wr) (fun _ wr => wr.rangeLeft sm w.heap.size)
  case atStart => exact ⟨sl, _, H0.out.1, by rw [Int.sub_self], fun p hp => hp, hideIt (Int.le_refl _), H0.out.2⟩
  case round =>
    obtain ⟨rest, cnt, hrg, rfl, hsub, hsm, hbw⟩ := hrel
    have HBw := hideIt hbw
    have HRg := hideIt hrg
    clear hbw
    go_wp2_with (first
      | (at_next; refine wpList_mnext _ rfl _ rfl Tryz.underlying3 sm w.heap.size n sl rest cnt rfl hrg ?_ ?_))
    · intro hnil
      subst hnil
      go_wp2_with fail
      go_ret
      exact ⟨by simp [sumK], HBw.out⟩
    · intro k y r1 r2 w1 cnt1 hre hwk hat hrg1 hlt hg1 hs1 hen
      have hky : (k, y) ∈ sl := hsub.out _ (by rw [hre]; simp)
      have hb1 : Below w.heap.size w w1 := HBw.out.grown hg1 HBw.out.size (fun g hg => by cases hg; exact Nat.le_refl _)
      have hcell : w1.cell? ⟨y, 1, none⟩ = some (.int .i64 (hi k)) := cell_below (HS.out (k, y) hky) hb1
      have hmid := sumK_mid (f := hi) r1 r2 k y
      rw [<- hre] at hmid
      have hn1 : 0 <= sumK hi (r1 ++ r2) := sumK_nonneg fun p hp => (HR.out p (hsub.out p (by rw [hre]; simp at hp ⊢; rcases hp with h | h <;> simp [h]))).1
      have hsb : Hid (∀ p ∈ r1 ++ r2, p ∈ sl) := fun p hp => hsub.out p (by rw [hre]; simp at hp ⊢; rcases hp with h | h <;> simp [h])
      have hk : 0 <= hi k /\ hi k <= 1073741823 := HR.out (k, y) hky
      obtain ⟨hk0, hk1⟩ := hk
      have hn2 := hsm.out
      have hw : IntKind.i64.wrap (sumK hi sl - sumK hi rest + hi k) = sumK hi sl - sumK hi (r1 ++ r2) := by
        rw [IntKind.wrap_i64]
        omega
      have HM2 := hideIt hmid
      have HE := hideIt (tBytesRead_any y (hi k) w1 hcell)
      have H1 := hideIt (And.intro hrg1 (And.intro hb1 (And.intro hlt hsb)))
      have HN := hideIt (show sumK hi (r1 ++ r2) <= sumK hi sl from by omega)
      generalize sumK hi rest = Sr at hw HM2 ⊢
      clear hmid hn1 hb1 hcell hky hrg1 hlt hsb hn2 hg1 hs1 hat
      go_wp2_with fail
      refine HE.out.mono ?_
      rintro e w2 ⟨rfl, rfl⟩
      clear HE
      go_wp2_with fail
      go_roundw
      case rel => exact ⟨r1 ++ r2, cnt1, H1.out.1, rfl, H1.out.2.2.2, HN, H1.out.2.1⟩
      case measure =>
        have h1 := H1.out.1.left_eq
        have h2 := HRg.out.left_eq
        have h3 := H1.out.2.2.1
        rw [h1, h2]
        exact h3
set_option maxHeartbeats 2000000 in
theorem cbytesRead_any (cb sm n : Nat) (sl : List (Int × Nat)) (hi : Int -> Int) (past : Int) (w : World) (hc : w.cell? ⟨cb, 21, none⟩ = some (.map (some sm))) (hp : w.cell? ⟨cb, 23, none⟩ = some (.int .i64 past)) (hm : MapIs ptrC Tryz.prog 3 w sm n sl) (hs : ∀ p ∈ sl, w.cell? ⟨p.2, 1, none⟩ = some (.int .i64 (hi p.1))) (hr : ∀ p ∈ sl, 0 <= hi p.1 /\ hi p.1 <= 1073741823) (hl : sl.length <= 1073741823) (hpr : 0 <= past /\ past <= 1152921504606846976) :
    Calls Tryz.prog 81 #[.pointer (some ⟨cb, 0, none⟩)] w fun e w' => e = .returned (.int .i64 (past + sumK hi sl)) /\ Below w.heap.size w w' := by
  have h1 : 0 <= sumK hi sl := sumK_nonneg fun p hp => (hr p hp).1
  have h2 : sumK hi sl <= 1152921504606846976 := by
    have := sumK_le (B := 1073741823) fun p hp => (hr p hp).2
    omega
  have HS := hideIt (fun W (hW : Below w.heap.size w W) => csumR_any cb sm n sl hi W (cell_below hc hW) (hm.same (hW.block sm hm.lt)) (fun p hp => cell_below (hs p hp) hW) hr hl)
  have hw : IntKind.i64.wrap (past + sumK hi sl) = past + sumK hi sl := by rw [IntKind.wrap_i64]; omega
  generalize sumK hi sl = S at HS hw ⊢
  clear hc hm hs hr hl hpr h1 h2
  go_enter Tryz.func81, Tryz.ntmps81
  go_wp2_with fail
  go_region_held3 (fun w' => w'.cell? ⟨cb, 23, none⟩ = some (.int .i64 past)) (first | assumption | go_keep) (first
    | (go_at_call 70; refine (HS.out _ (below_drewN (Below.refl _ w) 1)).mono ?_; rintro e w1 ⟨rfl, hb1⟩; have k23 := cell_below hp (below_undrew hb1)))
  have HB := hideIt (below_undrew hb1)
  clear hb1 HS k23
  go_wp2_with fail
  go_ret
  exact ⟨rfl, HB.out⟩
end Go.Proofs.YthmdjhlhodpbhaaGreatDoor
