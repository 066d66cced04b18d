/- Shuffled, 33 -/
import Derived.Test.YthmdjhlhodpbhaaGreatDoorS03
import Derived.Test.YthmdjhlhodpbhaaGreatDoorS09
import Derived.Test.YthmdjhlhodpbhaaGreatDoorS28
import Derived.Test.YthmdjhlhodpbhaaGreatDoorS29
import Derived.Test.YthmdjhlhodpbhaaGreatDoorS32
set_option maxHeartbeats 16000000
set_option maxRecDepth 8000
namespace Go.Proofs.YthmdjhlhodpbhaaGreatDoor
open Go.RowKit
theorem PSrv.lookI {N : Nat} {w : World} {sb : Nat} {s : SrvS} {cm : Nat} {wv : Value} {cbs : List Nat} {xs : List ConX} {ws : List Nat} (h : PSrv N w sb s cm wv cbs xs ws) {cid : Int} (hc : -9223372036854775808 <= cid /\ cid <= 9223372036854775807) (hno : cid ∉ s.conns.map (·.cid)) : (Instr.lookup 98 (.map (some cm)) (.int .i64 cid) false).run Tryz.prog w = .ok (.pointer none) w := by
 obtain ⟨n, _, hm⟩ := h.map
 have h1 := run_look (C := ptrC) (e := 97) Tryz.underlying3 Tryz.underlying98 (fun W => by kernel_rfl) hm (wf_key (k := cid) hc)
 have h2 : atK ((s.conns.map (·.cid)).zip cbs) cid = none := by
  refine atK_none.2 ?_
  rw [List.map_fst_zip (by simp [h.len1])]
  exact hno
 unfold lookV at h1
 rw [h2] at h1
 exact h1
theorem sLook_any (N : Nat) (sb : Nat) (s : SrvS) (cm : Nat) (wv : Value) (cbs : List Nat) (xs : List ConX) (ws : List Nat) (cid : Int) (w : World) (h : PSrv N w sb s cm wv cbs xs ws) {M L : Int} (hI : SrvInv M L s) (hc : -9223372036854775808 <= cid /\ cid <= 9223372036854775807) :
  Calls Tryz.prog 16 #[.pointer (some ⟨sb, 0, none⟩), .int .i64 cid] w fun e w' => e = .returned (.tuple #[.agg (lookS s cid).1, .int .i64 (lookS s cid).2]) /\ Below w.heap.size w w' := by
 have hb0 : Below w.heap.size w (w.alloc (.cells #[.bool false, .int .i64 0, .int .i64 0, .int .i64 0, .int .i64 0, .int .i64 0] 34)) := below_alloc w _
 have k11 : (w.alloc (.cells #[.bool false, .int .i64 0, .int .i64 0, .int .i64 0, .int .i64 0, .int .i64 0] 34)).cell? ⟨sb, 11, none⟩ = some (.map (some cm)) := (h.blk.below hb0).cell 11
 rcases findI_is (l := s.conns) (cid := cid) with ⟨hf, hno⟩ | ⟨k, c, hf, hk, hkc⟩
 ·have hlk := (h.below hb0).lookI hc hno
  have hls : lookS s cid = (zeroLook, 3) := by unfold lookS; rw [hf]
  rw [hls]
  unfold zeroLook
  clear h hI hf hno hls
  go_enter Tryz.func16, Tryz.ntmps16
  go_wp2_with fail
  refine bodyPost_ret (results_cell_row2' (P := Tryz.prog) Tryz.results16 _ _ w.heap.size 34 #[.bool false, .int .i64 0, .int .i64 0, .int .i64 0, .int .i64 0, .int .i64 0] (0, 0) _ (.int .i64 3) (by kernel_rfl) (by kernel_rfl) (heap_alloc_new w _) Tryz.underlying34 rfl (by kernel_rfl)) rfl ?_
  exact ⟨rfl, hb0⟩
 ·obtain ⟨cb, a, hcb, ha, hat⟩ := h.found hI.nd hk
  have hmem := List.mem_of_getElem? hk
  have hcr := (hI.ok c hmem).cid
  have hlk := (h.below hb0).lookS (cid := c.cid) (by omega) hat
  rw [hkc] at hlk
  have hls : lookS s cid = (lookC c, 0) := by unfold lookS; rw [hf]; simp only; rw [hk]
  rw [hls]
  have HC := hideIt (cLook_any N cb s.c c a (w.alloc (.cells #[.bool false, .int .i64 0, .int .i64 0, .int .i64 0, .int .i64 0, .int .i64 0] 34)) ((h.con k c cb a hk hcb ha).below hb0) (hI.inv c hmem) (hI.ok c hmem) hI.cfg)
  have HB0 := hideIt hb0
  have HX : Hid ((w.alloc (.cells #[.bool false, .int .i64 0, .int .i64 0, .int .i64 0, .int .i64 0, .int .i64 0] 34)).heap[w.heap.size]? = some (.cells #[.bool false, .int .i64 0, .int .i64 0, .int .i64 0, .int .i64 0, .int .i64 0] 34 (0, 0))) := heap_alloc_new w _
  have HZ : Hid (w.heap.size < (w.alloc (.cells #[.bool false, .int .i64 0, .int .i64 0, .int .i64 0, .int .i64 0, .int .i64 0] 34)).heap.size) := by show _ < _; simp
  unfold lookC at HC ⊢
  generalize bufS c.streams = B at HC ⊢
  clear h hI hf hk hcb ha hat hmem hcr hls hb0
  go_enter Tryz.func16, Tryz.ntmps16
  go_wp2_with fail
  refine HC.out.mono ?_
  rintro e w1 ⟨rfl, hb1⟩
  have x0 := (hb1.block w.heap.size HZ.out).trans HX.out
  have q0 : w1.cell? ⟨w.heap.size, 0, none⟩ = some (.bool false) := by simp only [World.cell?, x0]; rfl
  have z0 : w1.frozen? ⟨w.heap.size, 0, none⟩ = false := frozen_of_row _ _ _ _ _ x0
  have q1 : w1.cell? ⟨w.heap.size, 1, none⟩ = some (.int .i64 0) := by simp only [World.cell?, x0]; rfl
  have z1 : w1.frozen? ⟨w.heap.size, 1, none⟩ = false := frozen_of_row _ _ _ _ _ x0
  have q2 : w1.cell? ⟨w.heap.size, 2, none⟩ = some (.int .i64 0) := by simp only [World.cell?, x0]; rfl
  have z2 : w1.frozen? ⟨w.heap.size, 2, none⟩ = false := frozen_of_row _ _ _ _ _ x0
  have q3 : w1.cell? ⟨w.heap.size, 3, none⟩ = some (.int .i64 0) := by simp only [World.cell?, x0]; rfl
  have z3 : w1.frozen? ⟨w.heap.size, 3, none⟩ = false := frozen_of_row _ _ _ _ _ x0
  have q4 : w1.cell? ⟨w.heap.size, 4, none⟩ = some (.int .i64 0) := by simp only [World.cell?, x0]; rfl
  have z4 : w1.frozen? ⟨w.heap.size, 4, none⟩ = false := frozen_of_row _ _ _ _ _ x0
  have q5 : w1.cell? ⟨w.heap.size, 5, none⟩ = some (.int .i64 0) := by simp only [World.cell?, x0]; rfl
  have z5 : w1.frozen? ⟨w.heap.size, 5, none⟩ = false := frozen_of_row _ _ _ _ _ x0
  have x1 := block_set x0 0 (.bool c.proven)
  have x2 := block_set x1 1 (.int .i64 c.got)
  have x3 := block_set x2 2 (.int .i64 c.sent)
  have x4 := block_set x3 3 (.int .i64 c.credit)
  have x5 := block_set x4 4 (.int .i64 (c.streams.length : Int))
  have x6 := block_set x5 5 (.int .i64 B)
  have hlt : w.heap.size < w1.heap.size := Nat.lt_of_lt_of_le HZ.out hb1.size
  have HB1 := hideIt (below_join HB0.out hb1)
  have HX6 := hideIt x6
  clear hb1 x0 x1 x2 x3 x4 x5 x6 HC HX HZ hlk k11
  go_wp2_with fail
  refine bodyPost_ret (results_cell_row2' (P := Tryz.prog) Tryz.results16 _ _ w.heap.size 34 #[.bool c.proven, .int .i64 c.got, .int .i64 c.sent, .int .i64 c.credit, .int .i64 (c.streams.length : Int), .int .i64 B] (0, 0) _ (.int .i64 0) (by kernel_rfl) (by kernel_rfl) HX6.out Tryz.underlying34 rfl (by kernel_rfl)) rfl ?_
  exact ⟨rfl, ((((((HB1.out.setCell (Nat.le_refl _) _).setCell (Nat.le_refl _) _).setCell (Nat.le_refl _) _).setCell (Nat.le_refl _) _).setCell (Nat.le_refl _) _).setCell (Nat.le_refl _) _)⟩
theorem PSrv.otherT {F : Nat -> Prop} {T : TypeId} (hT : T ≠ 101 /\ T ≠ 97 /\ T ≠ 137 /\ T ≠ 279 /\ T ≠ 204 /\ T ≠ 259 /\ T ≠ 5) {N : Nat} {w w' : World} {sb : Nat} {s : SrvS} {cm : Nat} {wv : Value} {cbs : List Nat} {xs : List ConX} {ws : List Nat} (h : PSrv N w sb s cm wv cbs xs ws) (hc : Chg F w w') (hF : ∀ k, F k -> ∃ cur fr, w.heap[k]? = some (.cells cur T fr)) : PSrv N w' sb s cm wv cbs xs ws := by
 obtain ⟨n, hn, hm⟩ := h.map
 obtain ⟨t1, t2, t3, t4, t5, t6, t7⟩ := hT
 refine ⟨h.blk.chg hc (fun hf => ?_), ⟨n, hn, hm.same (hc.block cm hm.lt (fun hf => ?_))⟩, h.len1, h.len2, fun i c cb a h1 h2 h3 => ?_, own_chg h.row hc (fun k hk hf => ?_), h.wait, h.apart, h.mne⟩
 ·obtain ⟨cur, fr, e⟩ := hF _ hf
  have h3 : w.heap[sb]? = some (.cells (psrvC s.c s.now cm wv) 101 (0, 0)) := h.blk
  rw [h3] at e
  simp only [Option.some.injEq, Obj.cells.injEq] at e
  exact t1 e.2.1.symm
 ·obtain ⟨cur, fr, e⟩ := hF _ hf
  obtain ⟨es, ck, hb⟩ := hm.is_map
  rw [hb] at e
  cases e
 ·have hC := h.con i c cb a h1 h2 h3
  refine hC.chg hc (fun k hk hf => ?_) (fun k cur fr hk hf => ?_)
  ·obtain ⟨cur, fr, e⟩ := hF _ hf
   exact ConF_type hC e t3 t4 t5 t6 hk
  ·obtain ⟨cur', fr', e⟩ := hF _ hf
   rw [hk] at e
   simp only [Option.some.injEq, Obj.cells.injEq] at e
   exact t7 e.2.1.symm
 ·obtain ⟨cur, fr, e⟩ := hF _ hf
  exact own_not_blockN h.row e (fun e => t2 e.symm) hk
structure SReadOut (N : Nat) (w : World) (sb cm : Nat) (wv : Value) (cbs : List Nat) (xs : List ConX) (r : Int × GotS × SrvS × List (Int × List Int)) (e : Ending) (w' : World) : Prop where
 ex : ∃ tv v xs' ws', e = .returned (.tuple #[.agg #[tv, .bool r.2.1.fin, .bool r.2.1.rst], v, .int .i64 r.1]) /\ (∃ ao l c, v = .slice ao l c) /\ w'.ownsRow w.heap.size 5 1 tv r.2.1.bytes.length (U8 r.2.1.bytes) /\ OutsU (fun k => SrvU xs' k \/ tv.ownBlock = some k) w' w.heap.size v r.2.2.2 /\ (∀ k, tv.ownBlock = some k -> ¬ SrvU xs' k) /\ PSrv (N + 2) w' sb r.2.2.1 cm wv cbs xs' ws' /\ (∀ k, SrvF sb cm wv cbs xs' k -> SrvF sb cm wv cbs xs k \/ w.heap.size <= k) /\ ∀ k, SrvU xs' k -> SrvU xs k \/ w.heap.size <= k
 chg : Chg (SrvF sb cm wv cbs xs) w w'
theorem read_ok {s : SrvS} {cid id most : Int} {k : Nat} {c : ConS} {x : StrS} (hf : findI s.conns cid = some k) (hk : s.conns[k]? = some c) (hp : c.proven = true) (h0 : 0 <= id) (hm : 0 <= most) (hx : c.streams[id.toNat]? = some x) :
  readS s cid id most = (0, (readX x most).1, { s with conns := s.conns.set k (readC s.c c id.toNat x most).1 }, (readC s.c c id.toNat x most).2) := by
 have hl := (List.getElem?_eq_some_iff.1 hx).1
 unfold readS
 rw [hf]
 simp only
 rw [hk]
 simp only
 rw [hp, if_neg (by decide), if_neg (by omega), hx]
theorem sRead_any (N : Nat) (sb : Nat) (s : SrvS) (cm : Nat) (wv : Value) (cbs : List Nat) (xs : List ConX) (ws : List Nat) (cid id most : Int) (w : World) (h : PSrv N w sb s cm wv cbs xs ws) {M L : Int} (hI : SrvInv M L s) (hM : M <= 1125899906842000) (hN : N + 2 < 1125899906842624) (hc : -9223372036854775808 <= cid /\ cid <= 9223372036854775807) (hm : -9223372036854775808 <= most /\ most <= 9223372036854775807) :
  Calls Tryz.prog 17 #[.pointer (some ⟨sb, 0, none⟩), .int .i64 cid, .int .i64 id, .int .i64 most] w fun e w' => SReadOut N w sb cm wv cbs xs (readS s cid id most) e w' := by
 have hb0 : Below w.heap.size w (w.alloc (.cells #[.slice none 0 0, .bool false, .bool false] 46)) := below_alloc w _
 have k11 : (w.alloc (.cells #[.slice none 0 0, .bool false, .bool false] 46)).cell? ⟨sb, 11, none⟩ = some (.map (some cm)) := (h.blk.below hb0).cell 11
 have HX : Hid ((w.alloc (.cells #[.slice none 0 0, .bool false, .bool false] 46)).heap[w.heap.size]? = some (.cells #[.slice none 0 0, .bool false, .bool false] 46 (0, 0))) := heap_alloc_new w _
 have HN : Hid (∀ (W : World) (q : Int), Below w.heap.size w W -> SReadOut N w sb cm wv cbs xs (q, gotNil, s, []) (.returned (.tuple #[.agg #[.slice none 0 0, .bool false, .bool false], .slice none 0 0, .int .i64 q])) W) := fun W q hW =>
  ⟨⟨_, _, xs, ws, rfl, ⟨_, _, _, rfl⟩, World.ownsRow_nil _ _ _ _, OutsU.none (OutsAt.nil _ _) rfl, fun k hk => (by simp [Value.ownBlock] at hk), (h.below hW).mono (by omega), fun k hk => Or.inl hk, fun k hk => Or.inl hk⟩, Chg.of_below hW⟩
 rcases findI_is (l := s.conns) (cid := cid) with ⟨hf, hno⟩ | ⟨k, c, hf, hk, hkc⟩
 ·have hlk := (h.below hb0).lookI hc hno
  have hrs : readS s cid id most = (3, gotNil, s, []) := by unfold readS; rw [hf]
  rw [hrs]
  have E0 : ∀ W : World, (binOp .eql 97 (.pointer none) (.pointer none)).run Tryz.prog W = .ok (.bool true) W := fun W => by kernel_rfl
  have HB0 := hideIt hb0
  clear h hI hf hno hrs hb0
  go_enter Tryz.func17, Tryz.ntmps17
  go_wp2_with fail
  refine bodyPost_ret (results_cell_row3' (P := Tryz.prog) Tryz.results17 _ _ w.heap.size 46 #[.slice none 0 0, .bool false, .bool false] (0, 0) _ (.slice none 0 0) (.int .i64 3) (by kernel_rfl) (by kernel_rfl) (by kernel_rfl) HX.out Tryz.underlying46 rfl (by kernel_rfl)) rfl ?_
  exact HN.out _ 3 HB0.out
 ·obtain ⟨cb, a, hcb, ha, hat⟩ := h.found hI.nd hk
  have hmem := List.mem_of_getElem? hk
  have hok := hI.ok c hmem
  have hcr := hok.cid
  have hlk := (h.below hb0).lookS (cid := c.cid) (by omega) hat
  rw [hkc] at hlk
  have hC := (h.below hb0).con k c cb a hk hcb ha
  have E0 : ∀ W : World, (binOp .eql 97 (.pointer (some ⟨cb, 0, none⟩)) (.pointer none)).run Tryz.prog W = .ok (.bool false) W := fun W => by kernel_rfl
  have HPr := hideIt (cProven_any cb s.c c a.plv a.sm a.dm _ _ hC.blk)
  have HB0 := hideIt hb0
  cases hp : c.proven with
  | false =>
   have hrs : readS s cid id most = (3, gotNil, s, []) := by unfold readS; rw [hf]; simp only; rw [hk]; simp only; rw [hp, if_pos rfl]
   rw [hrs]
   rw [hp] at HPr
   clear h hI hf hk hcb ha hat hmem hok hcr hC hrs hb0
   go_enter Tryz.func17, Tryz.ntmps17
   go_wp2_with fail
   refine HPr.out.mono ?_
   rintro e w1 ⟨rfl, rfl⟩
   clear HPr
   go_wp2_with fail
   refine bodyPost_ret (results_cell_row3' (P := Tryz.prog) Tryz.results17 _ _ w.heap.size 46 #[.slice none 0 0, .bool false, .bool false] (0, 0) _ (.slice none 0 0) (.int .i64 3) (by kernel_rfl) (by kernel_rfl) (by kernel_rfl) HX.out Tryz.underlying46 rfl (by kernel_rfl)) rfl ?_
   exact HN.out _ 3 HB0.out
  | true =>
   have HHa := hideIt (cHas_any cb s.c c a.plv a.sm a.dm _ id _ hC.blk)
   rw [hp] at HPr
   by_cases hid : 0 <= id /\ id < (c.streams.length : Int)
   ·have hha : (decide (0 <= id) && decide (id < (c.streams.length : Int))) = true := by simp [hid]
    rw [hha] at HHa
    by_cases hm0 : 0 <= most
    ·obtain ⟨x, hx⟩ : ∃ x, c.streams[id.toNat]? = some x := ⟨_, List.getElem?_eq_getElem (show id.toNat < c.streams.length by omega)⟩
     rw [read_ok hf hk hp hid.1 hm0 hx]
     have hsl := hok.slen
     have HRd := hideIt (cRead_any N cb s.c c a id most x _ hC (hI.inv c hmem) hI.cfg hok hM hN hx (by omega) (by omega))
     have HEnd : Hid (∀ (e : Ending) (W1 : World), CReadOut N (w.alloc (.cells #[.slice none 0 0, .bool false, .bool false] 46)) cb s.c a (readX x most).1 (readC s.c c id.toNat x most) e W1 -> ∃ tv v, e = .returned (.tuple #[.agg #[tv, .bool (readX x most).1.fin, .bool (readX x most).1.rst], v]) /\ (∃ ao l c, tv = .slice ao l c) /\ (∃ ao l c, v = .slice ao l c) /\
       (W1.alloc (.cells #[tv, .bool (readX x most).1.fin, .bool (readX x most).1.rst] 46)).heap[w.heap.size]? = some (.cells #[.slice none 0 0, .bool false, .bool false] 46 (0, 0)) /\
       ∀ W3, Chg (· = w.heap.size) (W1.alloc (.cells #[tv, .bool (readX x most).1.fin, .bool (readX x most).1.rst] 46)) W3 -> SReadOut N w sb cm wv cbs xs (0, (readX x most).1, { s with conns := s.conns.set k (readC s.c c id.toNat x most).1 }, (readC s.c c id.toNat x most).2) (.returned (.tuple #[.agg #[tv, .bool (readX x most).1.fin, .bool (readX x most).1.rst], v, .int .i64 0])) W3) := by
      intro e W1 hR
      obtain ⟨tv, v, a', rfl, hvf, hby, hou, hsep, hA, hin, hu⟩ := hR.ex
      obtain ⟨ta, tc, htv⟩ := own_formN hby
      obtain ⟨_, _, hS, _⟩ := readC_keep most (hI.inv c hmem) hok hx hI.cfg
      have hs0 : w.heap.size < (w.alloc (.cells #[.slice none 0 0, .bool false, .bool false] 46)).heap.size := by simp
      have hbx := (h.below HB0.out)
      have hP1 := hbx.step (N' := N + 2) (by omega) hk hcb ha hR.chg hA hin hS.cid hS.waits
      have hb2 : Below W1.heap.size W1 (W1.alloc (.cells #[tv, .bool (readX x most).1.fin, .bool (readX x most).1.rst] 46)) := below_alloc W1 _
      have r1 : W1.heap[w.heap.size]? = some (.cells #[.slice none 0 0, .bool false, .bool false] 46 (0, 0)) := by
       refine (hR.chg.block _ hs0 (ConF_type hC HX.out (by decide) (by decide) (by decide) (by decide))).trans HX.out
      have r2 := (hb2.block _ (Array.getElem?_eq_some_iff.1 r1).1).trans r1
      refine ⟨tv, v, rfl, ⟨_, _, _, htv⟩, hvf, r2, fun W3 hc3 => ?_⟩
      have hne : ∀ q cur t fr, (W1.alloc (.cells #[tv, .bool (readX x most).1.fin, .bool (readX x most).1.rst] 46)).heap[q]? = some (.cells cur t fr) -> t ≠ 46 -> ¬ q = w.heap.size := by
       intro q cur t fr hq ht e
       rw [e, r2] at hq
       simp only [Option.some.injEq, Obj.cells.injEq] at hq
       exact ht hq.2.1.symm
      have hUk : ∀ q, SrvU (xs.set k a') q -> a'.u q \/ q < w.heap.size := by
       rintro q ⟨d, hd, hq⟩
       rcases List.mem_or_eq_of_mem_set hd with hd | rfl
       ·exact Or.inr (SrvU_lt h ⟨d, hd, hq⟩)
       ·exact Or.inl hq
      have hF1 := SrvF_set (sb := sb) (cm := cm) (wv := wv) hcb ha hin
      have hU1 := SrvU_set ha hu
      have hP3 := (hP1.below hb2).otherT (T := 46) (by decide) hc3 (fun q e => ⟨_, _, (congrArg (fun j => (W1.alloc (.cells #[tv, .bool (readX x most).1.fin, .bool (readX x most).1.rst] 46)).heap[j]?) e).trans r2⟩)
      refine ⟨⟨tv, v, _, _, rfl, hvf, ?_, ?_, fun q hq hU => ?_, hP3, fun q hq => ?_, fun q hq => ?_⟩, ?_⟩
      ·exact own_typed (own_below (own_mono hby (by omega)) hb2) hc3 fun q cur fr hq => hne _ _ _ _ hq (by decide)
      ·have h1 := (hou.chg (F := fun _ => False) (Chg.of_below hb2) (fun _ _ _ _ h => h) (fun _ _ _ _ h => h)).chg hc3 (fun q cur fr hq => hne _ _ _ _ hq (by decide)) (fun q cur fr hq => hne _ _ _ _ hq (by decide))
       obtain ⟨out, o1, o2, o3⟩ := h1
       refine ⟨out, own_mono o1 (by omega), o2.mono (by omega), fun i p q hp hq hA => ?_⟩
       rcases hA with hA | hA
       ·rcases hUk q hA with hA | hA
        ·exact o3 i p q hp hq (Or.inl hA)
        ·have := (o2.ge hp hq).1
         omega
       ·exact o3 i p q hp hq (Or.inr hA)
      ·rcases hUk q hU with hA | hA
       ·exact hsep q hq hA
       ·have := (hby.lt q hq).1
        omega
      ·rcases hF1 q hq with e | e
       ·exact Or.inl e
       ·exact Or.inr (by omega)
      ·rcases hU1 q hq with e | e
       ·exact Or.inl e
       ·exact Or.inr (by omega)
      ·refine chg_then (chg_then (chg_then (Chg.of_below HB0.out) hR.chg fun q _ e => SrvF_con hcb ha e) (Chg.of_below (F := fun _ => False) hb2) fun q _ e => e.elim) hc3 fun q hq e => ?_
       omega
     clear h hI hf hk hcb ha hat hmem hok hcr hC hb0 hsl hx HN
     generalize (readX x most).1 = gx at *
     generalize readC s.c c id.toNat x most = rc at *
     go_enter Tryz.func17, Tryz.ntmps17
     go_wp2_with fail
     refine HPr.out.mono ?_
     rintro e w1 ⟨rfl, rfl⟩
     clear HPr
     go_wp2_with fail
     refine HHa.out.mono ?_
     rintro e w1 ⟨rfl, rfl⟩
     clear HHa
     go_wp2_with fail
     refine HRd.out.mono ?_
     intro e w1 hR
     obtain ⟨tv, v, rfl, ⟨t1, t2, t3, rfl⟩, ⟨v1, v2, v3, rfl⟩, hres, hfin⟩ := HEnd.out e w1 hR
     have HFin := hideIt hfin
     have HRes := hideIt hres
     have f0 : (w1.alloc (.cells #[.slice t1 t2 t3, .bool gx.fin, .bool gx.rst] 46)).cell? ⟨w.heap.size, 0, none⟩ = some (.slice none 0 0) := box_cells hres 0
     have f1 : (w1.alloc (.cells #[.slice t1 t2 t3, .bool gx.fin, .bool gx.rst] 46)).cell? ⟨w.heap.size, 1, none⟩ = some (.bool false) := box_cells hres 1
     have f2 : (w1.alloc (.cells #[.slice t1 t2 t3, .bool gx.fin, .bool gx.rst] 46)).cell? ⟨w.heap.size, 2, none⟩ = some (.bool false) := box_cells hres 2
     have z0 : (w1.alloc (.cells #[.slice t1 t2 t3, .bool gx.fin, .bool gx.rst] 46)).frozen? ⟨w.heap.size, 0, none⟩ = false := frozen_of_row _ _ 0 _ _ hres
     have z1 : (w1.alloc (.cells #[.slice t1 t2 t3, .bool gx.fin, .bool gx.rst] 46)).frozen? ⟨w.heap.size, 1, none⟩ = false := frozen_of_row _ _ 1 _ _ hres
     have z2 : (w1.alloc (.cells #[.slice t1 t2 t3, .bool gx.fin, .bool gx.rst] 46)).frozen? ⟨w.heap.size, 2, none⟩ = false := frozen_of_row _ _ 2 _ _ hres
     clear hR hfin hres HRd HEnd hlk k11 HX
     go_wp2_with fail
     refine bodyPost_ret (results_cell_row3' (P := Tryz.prog) Tryz.results17 _ _ w.heap.size 46 #[.slice t1 t2 t3, .bool gx.fin, .bool gx.rst] (0, 0) _ (.slice v1 v2 v3) (.int .i64 0) (by kernel_rfl) (by kernel_rfl) (by kernel_rfl) (got_set _ _ _ HRes.out) Tryz.underlying46 rfl (by kernel_rfl)) rfl ?_
     exact HFin.out _ (got_chg _ _ _ _ _)
    ·have hrs : readS s cid id most = (2, gotNil, s, []) := by unfold readS; rw [hf]; simp only; rw [hk]; simp only; rw [hp, if_neg (by decide), if_pos (by omega)]
     rw [hrs]
     clear h hI hf hk hcb ha hat hmem hok hcr hC hrs hb0
     go_enter Tryz.func17, Tryz.ntmps17
     go_wp2_with fail
     refine HPr.out.mono ?_
     rintro e w1 ⟨rfl, rfl⟩
     clear HPr
     go_wp2_with fail
     refine HHa.out.mono ?_
     rintro e w1 ⟨rfl, rfl⟩
     clear HHa
     go_wp2_with fail
     refine bodyPost_ret (results_cell_row3' (P := Tryz.prog) Tryz.results17 _ _ w.heap.size 46 #[.slice none 0 0, .bool false, .bool false] (0, 0) _ (.slice none 0 0) (.int .i64 2) (by kernel_rfl) (by kernel_rfl) (by kernel_rfl) HX.out Tryz.underlying46 rfl (by kernel_rfl)) rfl ?_
     exact HN.out _ 2 HB0.out
   ·have hha : (decide (0 <= id) && decide (id < (c.streams.length : Int))) = false := by
     simp only [Bool.and_eq_false_iff, decide_eq_false_iff_not]
     omega
    rw [hha] at HHa
    have hrs : readS s cid id most = (2, gotNil, s, []) := by unfold readS; rw [hf]; simp only; rw [hk]; simp only; rw [hp, if_neg (by decide), if_pos (by omega)]
    rw [hrs]
    clear h hI hf hk hcb ha hat hmem hok hcr hC hrs hb0
    go_enter Tryz.func17, Tryz.ntmps17
    go_wp2_with fail
    refine HPr.out.mono ?_
    rintro e w1 ⟨rfl, rfl⟩
    clear HPr
    go_wp2_with fail
    refine HHa.out.mono ?_
    rintro e w1 ⟨rfl, rfl⟩
    clear HHa
    go_wp2_with fail
    refine bodyPost_ret (results_cell_row3' (P := Tryz.prog) Tryz.results17 _ _ w.heap.size 46 #[.slice none 0 0, .bool false, .bool false] (0, 0) _ (.slice none 0 0) (.int .i64 2) (by kernel_rfl) (by kernel_rfl) (by kernel_rfl) HX.out Tryz.underlying46 rfl (by kernel_rfl)) rfl ?_
    exact HN.out _ 2 HB0.out
def SrvT (e : TypeId) : Prop := e = 101 \/ e = 97 \/ e = 137 \/ e = 279 \/ e = 204 \/ e = 259
def SF (w0 w : World) (k : Nat) : Prop := w0.heap.size <= k /\ ((∃ es ck, w.heap[k]? = some (.map es ck)) \/ ∃ cur e fr, w.heap[k]? = some (.cells cur e fr) /\ SrvT e)
theorem SF.not {w0 w : World} {k : Nat} {cur : Array Value} {e : TypeId} {fr : Nat × Nat} (hk : w.heap[k]? = some (.cells cur e fr)) (he : ¬ SrvT e) : ¬ SF w0 w k := by
 rintro ⟨_, ⟨es, ck, h⟩ | ⟨cur', e', fr', h, h2⟩⟩
 ·rw [hk] at h
  cases h
 ·rw [hk] at h
  simp only [Option.some.injEq, Obj.cells.injEq] at h
  exact he (by rw [h.2.1]; exact h2)
theorem ConF_SF {N : Nat} {w : World} {cb : Nat} {g : Cfg} {c : ConS} {a : ConX} (h : ConAt N w cb g c a) {k : Nat} (hk : ConF cb a k) : (∃ es ck, w.heap[k]? = some (.map es ck)) \/ ∃ cur e fr, w.heap[k]? = some (.cells cur e fr) /\ SrvT e := by
 rcases hk with e | e | e | e | ⟨p, hp, e⟩
 ·subst e
  exact Or.inr ⟨_, _, _, h.blk, by simp [SrvT]⟩
 ·obtain ⟨vs, hvs⟩ := h.pk
  obtain ⟨c1, e1⟩ := own_blockN hvs.own e
  exact Or.inr ⟨_, _, _, e1, by simp [SrvT]⟩
 ·obtain ⟨n, _, hm⟩ := h.smap
  obtain ⟨es, ck, e1⟩ := hm.is_map
  exact Or.inl ⟨es, ck, by rw [e]; exact e1⟩
 ·obtain ⟨n, _, hm⟩ := h.dmap
  obtain ⟨es, ck, e1⟩ := hm.is_map
  exact Or.inl ⟨es, ck, by rw [e]; exact e1⟩
 ·obtain ⟨_, x, hx, _⟩ := h.mp.str p hp
  have hs := h.str p hp x hx
  rcases e with e | e
  ·exact Or.inr ⟨_, _, _, by rw [e]; exact hs.blk, by simp [SrvT]⟩
  ·obtain ⟨vs, ho⟩ := hs.own
   obtain ⟨c1, e1⟩ := own_blockN ho e
   exact Or.inr ⟨_, _, _, e1, by simp [SrvT]⟩
theorem SrvF_SF {N : Nat} {w : World} {sb : Nat} {s : SrvS} {cm : Nat} {wv : Value} {cbs : List Nat} {xs : List ConX} {ws : List Nat} (h : PSrv N w sb s cm wv cbs xs ws) {k : Nat} (hk : SrvF sb cm wv cbs xs k) : (∃ es ck, w.heap[k]? = some (.map es ck)) \/ ∃ cur e fr, w.heap[k]? = some (.cells cur e fr) /\ SrvT e := by
 rcases hk with e | e | e | ⟨i, cb, a, h1, h2, e⟩
 ·subst e
  exact Or.inr ⟨_, _, _, h.blk, by simp [SrvT]⟩
 ·obtain ⟨n, _, hm⟩ := h.map
  obtain ⟨es, ck, e1⟩ := hm.is_map
  exact Or.inl ⟨es, ck, by rw [e]; exact e1⟩
 ·obtain ⟨c1, e1⟩ := own_blockN h.row e
  exact Or.inr ⟨_, _, _, e1, by simp [SrvT]⟩
 ·have hi : i < s.conns.length := by
   rw [<- h.len1]
   exact (List.getElem?_eq_some_iff.1 h1).1
  exact ConF_SF (h.con i _ cb a (List.getElem?_eq_getElem hi) h1 h2) e
structure Live (w0 : World) (N : Nat) (M L : Int) (w : World) (sb : Nat) (s : SrvS) : Prop where
 bel : Below w0.heap.size w0 w
 srv : ∃ cm wv cbs xs ws, PSrv N w sb s cm wv cbs xs ws /\ ∀ k, SrvF sb cm wv cbs xs k -> w0.heap.size <= k
 inv : SrvInv M L s
theorem Live.below {w0 : World} {N : Nat} {M L : Int} {w w' : World} {sb : Nat} {s : SrvS} (h : Live w0 N M L w sb s) (hb : Below w.heap.size w w') : Live w0 N M L w' sb s := by
 obtain ⟨cm, wv, cbs, xs, ws, hP, hF⟩ := h.srv
 exact ⟨below_join h.bel hb, ⟨cm, wv, cbs, xs, ws, hP.below hb, hF⟩, h.inv⟩
theorem Live.mono {w0 : World} {N N' : Nat} {M M' L L' : Int} {w : World} {sb : Nat} {s : SrvS} (h : Live w0 N M L w sb s) (hN : N <= N') (hM : M <= M') (hL : L <= L') : Live w0 N' M' L' w sb s := by
 obtain ⟨cm, wv, cbs, xs, ws, hP, hF⟩ := h.srv
 exact ⟨h.bel, ⟨cm, wv, cbs, xs, ws, hP.mono hN, hF⟩, h.inv.mono hM hL⟩
theorem Live.other {F : Nat -> Prop} {T : TypeId} (hT : ¬ SrvT T /\ T ≠ 5) {w0 : World} {N : Nat} {M L : Int} {w w' : World} {sb : Nat} {s : SrvS} (h : Live w0 N M L w sb s) (hc : Chg F w w') (hF : ∀ k, F k -> w0.heap.size <= k /\ ∃ cur fr, w.heap[k]? = some (.cells cur T fr)) : Live w0 N M L w' sb s := by
 obtain ⟨cm, wv, cbs, xs, ws, hP, hG⟩ := h.srv
 unfold SrvT at hT
 refine ⟨⟨hc.os.trans h.bel.os, hc.tape.trans h.bel.tape, hc.output.trans h.bel.output, Nat.le_trans h.bel.size hc.size, fun k hk => ?_⟩, ⟨cm, wv, cbs, xs, ws, hP.otherT (T := T) (by simp only [not_or] at hT; exact ⟨hT.1.1, hT.1.2.1, hT.1.2.2.1, hT.1.2.2.2.1, hT.1.2.2.2.2.1, hT.1.2.2.2.2.2, hT.2⟩) hc (fun k hk => (hF k hk).2), hG⟩, h.inv⟩
 rw [hc.block k (Nat.lt_of_lt_of_le hk h.bel.size) (fun e => by have := (hF k e).1; omega), h.bel.block k hk]
theorem live_chg {w0 : World} {N : Nat} {w w' : World} {sb : Nat} {s : SrvS} {cm : Nat} {wv : Value} {cbs : List Nat} {xs : List ConX} {ws : List Nat} (hb : Below w0.heap.size w0 w) (h : PSrv N w sb s cm wv cbs xs ws) (hF : ∀ k, SrvF sb cm wv cbs xs k -> w0.heap.size <= k) (hc : Chg (SrvF sb cm wv cbs xs) w w') : Chg (SF w0 w) w w' /\ Below w0.heap.size w0 w' := by
 refine ⟨hc.mono fun k _ e => ⟨hF k e, SrvF_SF h e⟩, ⟨hc.os.trans hb.os, hc.tape.trans hb.tape, hc.output.trans hb.output, Nat.le_trans hb.size hc.size, fun k hk => ?_⟩⟩
 rw [hc.block k (Nat.lt_of_lt_of_le hk hb.size) (fun e => by have := hF k e; omega), hb.block k hk]
theorem Live.receive {w0 : World} {N : Nat} {M L : Int} {w : World} {sb : Nat} {s : SrvS} (h : Live w0 N M L w sb s) (hE : Env w0) (addr : Int) {b : List Int} {bv : Value} (hbv : RdB w bv b) (hl : b.length <= 1073741823) (hM0 : 0 <= M) (hM : M + b.length + 100 <= 1125899906842624) (hN : N + 1 + b.length < 1125899906842624) :
  Calls Tryz.prog 20 #[.pointer (some ⟨sb, 0, none⟩), .int .i64 addr, bv] w fun e w' => (∃ v, e = .returned v /\ OutsAt w' w.heap.size v (receiveS s addr b).2) /\ Live w0 (N + 1 + b.length) (M + b.length + 100) (L + 2) w' sb (receiveS s addr b).1 /\ Chg (SF w0 w) w w' := by
 obtain ⟨cm, wv, cbs, xs, ws, hP, hF⟩ := h.srv
 refine (sReceive_any N sb s cm wv cbs xs ws addr b bv w hP h.inv hbv hl hM0 hM hN (fun W hW => hE.below (live_chg h.bel hP hF hW).2)).mono ?_
 intro e w' ho
 obtain ⟨q1, q2⟩ := live_chg h.bel hP hF ho.chg
 obtain ⟨v, wv', cbs', xs', ws', rfl, hO, hP', hin, _⟩ := ho.ex
 have hs := h.bel.size
 refine ⟨⟨v, rfl, hO.at⟩, ⟨q2, ⟨cm, wv', cbs', xs', ws', hP', fun k hk => ?_⟩, receive_inv h.inv hM0 hbv.1⟩, q1⟩
 rcases hin k hk with e | e
 ·exact hF k e
 ·omega
theorem Live.read {w0 : World} {N : Nat} {M L : Int} {w : World} {sb : Nat} {s : SrvS} (h : Live w0 N M L w sb s) (cid id most : Int) (hM : M <= 1125899906842000) (hN : N + 2 < 1125899906842624) (hc : -9223372036854775808 <= cid /\ cid <= 9223372036854775807) (hm : -9223372036854775808 <= most /\ most <= 9223372036854775807) :
  Calls Tryz.prog 17 #[.pointer (some ⟨sb, 0, none⟩), .int .i64 cid, .int .i64 id, .int .i64 most] w fun e w' => (∃ tv v, e = .returned (.tuple #[.agg #[tv, .bool (readS s cid id most).2.1.fin, .bool (readS s cid id most).2.1.rst], v, .int .i64 (readS s cid id most).1]) /\ w'.ownsRow w.heap.size 5 1 tv (readS s cid id most).2.1.bytes.length (U8 (readS s cid id most).2.1.bytes) /\ OutsAt w' w.heap.size v (readS s cid id most).2.2.2) /\ Live w0 (N + 2) (M + 60) L w' sb (readS s cid id most).2.2.1 /\ Chg (SF w0 w) w w' := by
 obtain ⟨cm, wv, cbs, xs, ws, hP, hF⟩ := h.srv
 refine (sRead_any N sb s cm wv cbs xs ws cid id most w hP h.inv hM hN hc hm).mono ?_
 intro e w' ho
 obtain ⟨q1, q2⟩ := live_chg h.bel hP hF ho.chg
 obtain ⟨tv, v, xs', ws', rfl, _, hby, hO, _, hP', hin, _⟩ := ho.ex
 have hs := h.bel.size
 refine ⟨⟨tv, v, rfl, hby, hO.at⟩, ⟨q2, ⟨cm, wv, cbs, xs', ws', hP', fun k hk => ?_⟩, read_inv h.inv⟩, q1⟩
 rcases hin k hk with e | e
 ·exact hF k e
 ·omega
theorem Live.accept {w0 : World} {N : Nat} {M L : Int} {w : World} {sb : Nat} {s : SrvS} (h : Live w0 N M L w sb s) :
  Calls Tryz.prog 21 #[.pointer (some ⟨sb, 0, none⟩)] w fun e w' => e = .returned (.tuple #[.int .i64 (acceptS s).1, .int .i64 (acceptS s).2.1]) /\ Live w0 N M L w' sb (acceptS s).2.2 /\ Chg (SF w0 w) w w' := by
 obtain ⟨cm, wv, cbs, xs, ws, hP, hF⟩ := h.srv
 refine (sAccept_any N sb s cm wv cbs xs ws w hP h.inv).mono ?_
 intro e w' ho
 obtain ⟨q1, q2⟩ := live_chg h.bel hP hF ho.chg
 obtain ⟨wv', cbs', xs', ws', hP', hin, _⟩ := ho.ex
 have hs := h.bel.size
 refine ⟨ho.ret, ⟨q2, ⟨cm, wv', cbs', xs', ws', hP', fun k hk => ?_⟩, accept_inv h.inv⟩, q1⟩
 rcases hin k hk with e | e
 ·exact hF k e
 ·omega
theorem Live.look {w0 : World} {N : Nat} {M L : Int} {w : World} {sb : Nat} {s : SrvS} (h : Live w0 N M L w sb s) (cid : Int) (hc : -9223372036854775808 <= cid /\ cid <= 9223372036854775807) :
  Calls Tryz.prog 16 #[.pointer (some ⟨sb, 0, none⟩), .int .i64 cid] w fun e w' => e = .returned (.tuple #[.agg (lookS s cid).1, .int .i64 (lookS s cid).2]) /\ Below w.heap.size w w' := by
 obtain ⟨cm, wv, cbs, xs, ws, hP, hF⟩ := h.srv
 exact sLook_any N sb s cm wv cbs xs ws cid w hP h.inv hc
theorem right_cfgOk {g : Cfg} (h : g.right = true) : CfgOk g := by
 unfold Cfg.right rightB rightA rightC betw at h
 simp only [Bool.and_eq_true, decide_eq_true_eq] at h
 obtain ⟨⟨h0, h1, h2, h3⟩, ⟨h4, h5, h6, h7⟩, h8, h9⟩ := h
 exact ⟨by omega, by omega, by omega, by omega, by omega, by omega, by omega, by omega, by omega, by omega⟩
theorem live_new (w0 : World) (g : Cfg) (hg : g.right = true) (w : World) (hb : Below w0.heap.size w0 w) :
  Calls Tryz.prog 26 #[.agg #[.int .i64 g.c0, .int .i64 g.c1, .int .i64 g.c2, .int .i64 g.c3, .int .i64 g.c4, .int .i64 g.c5, .int .i64 g.c6, .int .i64 g.c7, .int .i64 g.c8, .int .i64 g.c9]] w fun e w' => (∃ sb, e = .returned (.tuple #[.pointer (some ⟨sb, 0, none⟩), .int .i64 0]) /\ Live w0 0 0 0 w' sb (srvNew g)) /\ Below w.heap.size w w' := by
 refine (sNew_any g w).mono ?_
 intro e w' ho
 unfold SNewOut at ho
 rw [if_pos hg] at ho
 obtain ⟨sb, cm, rfl, hP, h1, h2, hbl⟩ := ho
 have hs := hb.size
 refine ⟨⟨sb, rfl, ⟨below_join hb hbl, ⟨cm, _, [], [], [], hP, fun k hk => ?_⟩, new_inv (right_cfgOk hg)⟩⟩, hbl⟩
 rcases hk with e | e | e | ⟨i, cb, a, e, _⟩
 ·omega
 ·omega
 ·simp [Value.ownBlock] at e
 ·simp at e
theorem OutsAt.sf {w0 w w' : World} {b : Nat} {v : Value} {o : List (Int × List Int)} (h : OutsAt w b v o) (hc : Chg (SF w0 w) w w') : OutsAt w' b v o :=
 h.chg hc (fun k cur fr hk => SF.not hk (by simp [SrvT])) (fun k cur fr hk => SF.not hk (by simp [SrvT]))
theorem box_sf {w0 w w' : World} {k : Nat} {cur : Array Value} {T : TypeId} {fr : Nat × Nat} (h : w.heap[k]? = some (.cells cur T fr)) (hT : ¬ SrvT T) (hc : Chg (SF w0 w) w w') : w'.heap[k]? = some (.cells cur T fr) :=
 (hc.block k (Array.getElem?_eq_some_iff.1 h).1 (SF.not h hT)).trans h
theorem box_below {w w' : World} {k : Nat} {o : Obj} (h : w.heap[k]? = some o) (hb : Below w.heap.size w w') : w'.heap[k]? = some o :=
 (hb.block k (Array.getElem?_eq_some_iff.1 h).1).trans h
theorem OutsAt.below {w w' : World} {b : Nat} {v : Value} {o : List (Int × List Int)} (h : OutsAt w b v o) (hb : Below w.heap.size w w') : OutsAt w' b v o :=
 h.chg (F := fun _ => False) (Chg.of_below hb) (fun _ _ _ _ h => h) (fun _ _ _ _ h => h)
theorem outs_one {w : World} {base : Nat} {v : Value} {a : Int} {B : List Int} (h : OutsAt w base v [(a, B)]) : ∃ g cap bv, v = .slice (some ⟨g, 0, none⟩) 1 cap /\ w.cell? ⟨g, 0, none⟩ = some (.int .i64 a) /\ w.cell? ⟨g, 1, none⟩ = some bv /\ w.ownsRow base 5 1 bv B.length (U8 B) := by
 obtain ⟨out, h1, h2⟩ := h
 have hl : out.length = 1 := h2.1
 match out, hl with
 | [x], _ =>
  obtain ⟨e1, e2⟩ := h2.2.1 0 x (a, B) rfl rfl
  rcases h1.2 with ⟨_, e⟩ | ⟨g, cap, cur, hv, hg, hb, hc⟩
  ·simp at e
  ·subst hv
   have c0 := h1.cellAt 0 (by simp)
   have c1 := h1.cellAt 1 (by simp)
   refine ⟨g, cap, x.2, rfl, ?_, ?_, e2⟩
   ·rw [c0, show a = x.1 from e1.symm]
    rfl
   ·rw [c1]
    rfl
def awakeG : Cfg := ⟨1, 16, 8, 1, 2, 0, 10, 5, 1000, 0⟩
def aw1 : SrvS × List (Int × List Int) := receiveS (srvNew awakeG) 7 (helloL 5 (tokenL 0 7 3) [])
def aw2 : Int × Int × SrvS := acceptS aw1.1
def aw3 : SrvS × List (Int × List Int) := receiveS aw2.2.2 7 (dataL 5 1 [4, 0, 2, 1, 99])
def aw4 : SrvS × List (Int × List Int) := receiveS aw3.1 7 (dataL 5 0 [3, 0, 0, 2, 97, 98])
def aw5 : Int × GotS × SrvS × List (Int × List Int) := readS aw4.1 5 0 9
theorem aw1_out : aw1.2 = [(7, [4, 5, 20, 131, 19, 76, 254, 16, 8, 1])] := by kernel_rfl
theorem aw_rest : (aw2.1, aw2.2.1, aw5.1, aw5.2.1.bytes, aw5.2.1.fin, aw5.2.1.rst) = (5, 0, 0, [97, 98, 99], true, false) := by kernel_rfl
theorem aw_right : awakeG.right = true := by kernel_rfl
theorem aw_tok : tokE 1 16 8 1 2 0 10 5 1000 0 7 3 = 0 := by kernel_rfl
theorem aw_hello : (helloL 5 (tokenL 0 7 3) []).length = 12 := by kernel_rfl
theorem aw_abc : strOfNums [97, 98, 99] = { data := #[97, 98, 99] } := by kernel_rfl
theorem kawake_any (w : World) (hE : Env w) : Calls Tryz.prog 24 #[] w fun e w' => e = .returned (.bool true) /\ Below w.heap.size w w' := by
 have hb0 : Below w.heap.size w (w.alloc (.cells #[.int .i64 1, .int .i64 16, .int .i64 8, .int .i64 1, .int .i64 2, .int .i64 0, .int .i64 10, .int .i64 5, .int .i64 1000, .int .i64 0] 26)) := below_alloc w _
 have HX : Hid ((w.alloc (.cells #[.int .i64 1, .int .i64 16, .int .i64 8, .int .i64 1, .int .i64 2, .int .i64 0, .int .i64 10, .int .i64 5, .int .i64 1000, .int .i64 0] 26)).heap[w.heap.size]? = some (.cells #[.int .i64 1, .int .i64 16, .int .i64 8, .int .i64 1, .int .i64 2, .int .i64 0, .int .i64 10, .int .i64 5, .int .i64 1000, .int .i64 0] 26 (0, 0))) := heap_alloc_new w _
 have HNew := hideIt (live_new w awakeG aw_right _ hb0)
 have HTk := hideIt (fun W => Token_any 1 16 8 1 2 0 10 5 1000 0 7 3 W)
 rw [aw_tok] at HTk
 have E0 : ∀ (sb : Nat) (W : World), (binOp .eql 37 (.pointer (some ⟨sb, 0, none⟩)) (.pointer none)).run Tryz.prog W = .ok (.bool false) W := fun sb W => by kernel_rfl
 have HE := hideIt hE
 clear hE hb0
 go_enter Tryz.func24, Tryz.ntmps24
 go_wp2_with fail
 refine HNew.out.mono ?_
 rintro e w2 ⟨⟨sb, rfl, hL⟩, hb2⟩
 have HL := hideIt hL
 have x2 := box_below HX.out hb2
 have HX2 := hideIt x2
 clear hL hb2 HX HNew
 have c0 : w2.cell? ⟨w.heap.size, 0, none⟩ = some (.int .i64 1) := box_cells x2 0
 have c1 : w2.cell? ⟨w.heap.size, 1, none⟩ = some (.int .i64 16) := box_cells x2 1
 have c2 : w2.cell? ⟨w.heap.size, 2, none⟩ = some (.int .i64 8) := box_cells x2 2
 have c3 : w2.cell? ⟨w.heap.size, 3, none⟩ = some (.int .i64 1) := box_cells x2 3
 have c4 : w2.cell? ⟨w.heap.size, 4, none⟩ = some (.int .i64 2) := box_cells x2 4
 have c5 : w2.cell? ⟨w.heap.size, 5, none⟩ = some (.int .i64 0) := box_cells x2 5
 have c6 : w2.cell? ⟨w.heap.size, 6, none⟩ = some (.int .i64 10) := box_cells x2 6
 have c7 : w2.cell? ⟨w.heap.size, 7, none⟩ = some (.int .i64 5) := box_cells x2 7
 have c8 : w2.cell? ⟨w.heap.size, 8, none⟩ = some (.int .i64 1000) := box_cells x2 8
 have c9 : w2.cell? ⟨w.heap.size, 9, none⟩ = some (.int .i64 0) := box_cells x2 9
 clear x2
 go_wp2_with fail
 refine (HTk.out w2).mono ?_
 rintro e w3 ⟨tv, rfl, ht, hb3⟩
 obtain ⟨t1, t2, rfl⟩ := own_form ht
 rw [show tokM 1 16 8 1 2 0 10 5 1000 0 7 3 = tokenL 0 7 3 by unfold tokM; rw [aw_tok]; rfl] at ht ⊢
 rw [show (tokenL 0 7 3).length = 9 by kernel_rfl] at ht ⊢
 have HHe := hideIt (khello_any 5 (tokenL 0 7 3) [] (.slice t1 9 t2) (.slice none 0 0) w3 (by decide) (RdB.of_own ht (tokenL_bytes _ _ _ (by decide) (by decide)) (by decide)) (RdB.nil _) (by decide) (by decide))
 have HL3 := hideIt (HL.out.below hb3)
 clear c0 c1 c2 c3 c4 c5 c6 c7 c8 c9 ht hb3 HTk HX2 HL
 go_wp2_with fail
 refine HHe.out.mono ?_
 rintro e w4 ⟨hv, rfl, ho, hb4⟩
 obtain ⟨h1, h2, rfl⟩ := own_form ho
 rw [aw_hello] at ho ⊢
 have HRc := hideIt ((HL3.out.below hb4).receive HE.out 7 (RdB.of_own ho (helloL_bytes (by decide) (tokenL_bytes _ _ _ (by decide) (by decide)) Bytes.nil (by decide)) (by decide)) (by decide) (by decide) (by decide) (by decide))
 clear ho hb4 HHe HL3
 go_wp2_with fail
 refine HRc.out.mono ?_
 rintro e w5 ⟨⟨v5, rfl, ho5⟩, hL5, _⟩
 have HO5 : Hid (OutsAt w5 w4.heap.size v5 [(7, [4, 5, 20, 131, 19, 76, 254, 16, 8, 1])]) := by
  show OutsAt _ _ _ _
  rw [<- aw1_out]
  exact ho5
 obtain ⟨l1, l2, rfl⟩ := HO5.out.form
 rw [show ([(7, [4, 5, 20, 131, 19, 76, 254, 16, 8, 1])] : List (Int × List Int)).length = 1 from rfl] at HO5
 have HL5 : Hid (Live w 20 1000 10 w5 sb aw1.1) := hL5.mono (by decide) (by decide) (by decide)
 clear ho5 hL5 HRc
 have hrest := aw_rest
 simp only [Prod.mk.injEq] at hrest
 obtain ⟨r1, r2, r3, r4, r5, r6⟩ := hrest
 have HAc := hideIt HL5.out.accept
 rw [show (acceptS aw1.1).1 = 5 from r1, show (acceptS aw1.1).2.1 = 0 from r2] at HAc
 have HR5 := hideIt (And.intro r3 (And.intro r4 (And.intro r5 r6)))
 clear r1 r2 r3 r4 r5 r6
 go_wp2_with fail
 refine HAc.out.mono ?_
 rintro e w6 ⟨rfl, hL6, hc6⟩
 have HL6 : Hid (Live w 20 1000 10 w6 sb aw2.2.2) := hL6
 have HO6 := hideIt (HO5.out.sf hc6)
 clear hL6 hc6 HO5 HL5 HAc
 have hb7 : Below w6.heap.size w6 (w6.alloc (.cells #[.int .u8 4, .int .u8 0, .int .u8 2, .int .u8 1, .int .u8 99] 5)) := below_alloc w6 _
 have HD1 := hideIt (kdata_any 5 1 [4, 0, 2, 1, 99] (.slice (some ⟨w6.heap.size, 0, none⟩) 5 5) (w6.alloc (.cells #[.int .u8 4, .int .u8 0, .int .u8 2, .int .u8 1, .int .u8 99] 5)) (by decide) (by decide) (RdB.lit w6 [4, 0, 2, 1, 99] (by unfold Bytes; decide) (by decide) (by decide)) (by decide))
 have HL7 := hideIt (HL6.out.below hb7)
 have HO7 := hideIt (HO6.out.below hb7)
 clear hb7 HL6 HO6
 go_wp2_with fail
 refine HD1.out.mono ?_
 rintro e w8 ⟨dv, rfl, hd, hb8⟩
 obtain ⟨d1, d2, rfl⟩ := own_form hd
 rw [show (dataL 5 1 [4, 0, 2, 1, 99]).length = 8 by kernel_rfl] at hd ⊢
 have HRc := hideIt ((HL7.out.below hb8).receive HE.out 7 (RdB.of_own hd (dataL_bytes (by decide) (by decide) (by unfold Bytes; decide)) (by decide)) (by decide) (by decide) (by decide) (by decide))
 have HO8 := hideIt (HO7.out.below hb8)
 clear hd hb8 HD1 HL7 HO7
 go_wp2_with fail
 refine HRc.out.mono ?_
 rintro e w9 ⟨⟨v9, rfl, _⟩, hL9, hc9⟩
 have HL9 : Hid (Live w 50 2000 20 w9 sb aw3.1) := hL9.mono (by decide) (by decide) (by decide)
 have HO9 := hideIt (HO8.out.sf hc9)
 clear hL9 hc9 HRc HO8
 have hb10 : Below w9.heap.size w9 (w9.alloc (.cells #[.int .u8 3, .int .u8 0, .int .u8 0, .int .u8 2, .int .u8 97, .int .u8 98] 5)) := below_alloc w9 _
 have HD2 := hideIt (kdata_any 5 0 [3, 0, 0, 2, 97, 98] (.slice (some ⟨w9.heap.size, 0, none⟩) 6 6) (w9.alloc (.cells #[.int .u8 3, .int .u8 0, .int .u8 0, .int .u8 2, .int .u8 97, .int .u8 98] 5)) (by decide) (by decide) (RdB.lit w9 [3, 0, 0, 2, 97, 98] (by unfold Bytes; decide) (by decide) (by decide)) (by decide))
 have HL10 := hideIt (HL9.out.below hb10)
 have HO10 := hideIt (HO9.out.below hb10)
 clear hb10 HL9 HO9
 go_wp2_with fail
 refine HD2.out.mono ?_
 rintro e w11 ⟨dv, rfl, hd, hb11⟩
 obtain ⟨d3, d4, rfl⟩ := own_form hd
 rw [show (dataL 5 0 [3, 0, 0, 2, 97, 98]).length = 9 by kernel_rfl] at hd ⊢
 have HRc := hideIt ((HL10.out.below hb11).receive HE.out 7 (RdB.of_own hd (dataL_bytes (by decide) (by decide) (by unfold Bytes; decide)) (by decide)) (by decide) (by decide) (by decide) (by decide))
 have HO11 := hideIt (HO10.out.below hb11)
 clear hd hb11 HD2 HL10 HO10
 go_wp2_with fail
 refine HRc.out.mono ?_
 rintro e w12 ⟨⟨v12, rfl, _⟩, hL12, hc12⟩
 have HL12 : Hid (Live w 100 3000 30 w12 sb aw4.1) := hL12.mono (by decide) (by decide) (by decide)
 have HO12 := hideIt (HO11.out.sf hc12)
 clear hL12 hc12 HRc HO11
 have HRd := hideIt (HL12.out.read 5 0 9 (by decide) (by decide) (by decide) (by decide))
 clear HL12
 go_wp2_with fail
 refine HRd.out.mono ?_
 rintro e w13 ⟨⟨gv, v13, rfl, hg, ho13⟩, hL13, hc13⟩
 have HB13 := hideIt hL13.bel
 have HO13 := hideIt (HO12.out.sf hc13)
 obtain ⟨g1, g2, rfl⟩ := own_form hg
 obtain ⟨s1, s2, rfl⟩ := ho13.form
 have q1 : (readS aw4.1 5 0 9).1 = 0 := HR5.out.1
 have q2 : (readS aw4.1 5 0 9).2.1.bytes = [97, 98, 99] := HR5.out.2.1
 have q3 : (readS aw4.1 5 0 9).2.1.fin = true := HR5.out.2.2.1
 have q4 : (readS aw4.1 5 0 9).2.1.rst = false := HR5.out.2.2.2
 rw [q2] at hg
 rw [q1, q2, q3, q4]
 generalize (readS aw4.1 5 0 9).2.2.2.length = nl
 have HG := hideIt hg
 clear hg ho13 hL13 hc13 HRd HO12 q1 q2 q3 q4 HR5
 rw [show ([97, 98, 99] : List Int).length = 3 from rfl] at HG ⊢
 have hb14 : Below w13.heap.size w13 (w13.alloc (.cells #[.slice g1 3 g2, .bool true, .bool false] 46)) := below_alloc w13 _
 obtain ⟨ga, gc, bv, e1, k0, k1, hbv⟩ := outs_one (HO13.out.below hb14)
 obtain ⟨bb, bc, e2, _, _, _⟩ := own_some hbv (by decide)
 have m0 := own_read (e2 ▸ hbv) 0 (by decide)
 have m2 := own_read (e2 ▸ hbv) 2 (by decide)
 simp only [Value.slice.injEq] at e1
 obtain ⟨rfl, _, rfl⟩ := e1
 subst e2
 have kc := conv_own (l := [97, 98, 99]) (own_below HG.out hb14)
 rw [aw_abc] at kc
 have HBf := hideIt (below_join HB13.out hb14)
 clear HG HO13 hbv hb14 HB13
 go_wp2_with fail
 go_ret
 exact ⟨rfl, HBf.out⟩
end Go.Proofs.YthmdjhlhodpbhaaGreatDoor
