/- Tokens, 37 -/
import Derived.BigRegion
import Derived.StillTailTactics
import Derived.Deep.RegionHeld3
import Derived.Deep.CutRange
import Derived.ProofKit
import Derived.Deep.Slices
import Derived.SizedLaws
import Derived.OpenShut
import Derived.Test.YthmdjhlhodpbhaaGreatDoorT10
import Derived.Test.YthmdjhlhodpbhaaGreatDoorT31
import Derived.Test.YthmdjhlhodpbhaaGreatDoorT36
set_option maxHeartbeats 16000000
set_option maxRecDepth 8000
namespace Go.Proofs.YthmdjhlhodpbhaaGreatDoor
open Go.RowKit
theorem Bytes.set {l : List Int} {y : Int} (h : Bytes l) (hy : 0 <= y /\ y < 256) (i : Nat) : Bytes (l.set i y) := fun x hx => by
  rcases List.mem_or_eq_of_mem_set hx with hx | rfl
  . exact h x hx
  . exact hy
theorem RdB.setAt {w : World} {jb n c i : Nat} {l : List Int} {y : Int} {cur0 : Array Value} (hblk : w.heap[jb]? = some (.cells cur0 5 (0, 0))) (h : RdB w (.slice (some ⟨jb, 0, none⟩) n c) l) (hi : i < l.length) (hy : 0 <= y /\ y < 256) : RdB (w.setCell ⟨jb, i, none⟩ (.int .u8 y)) (.slice (some ⟨jb, 0, none⟩) n c) (l.set i y) := by
  obtain ⟨h1, h2, ao, cap, e, h3, h4, h5, h6⟩ := h
  obtain ⟨b, off, cur, fr, e2, hb, hc⟩ := h6 (by omega)
  simp only [Value.slice.injEq] at e
  obtain ⟨rfl, rfl, rfl⟩ := e
  simp only [Option.some.injEq, Addr.mk.injEq] at e2
  obtain ⟨rfl, rfl, _⟩ := e2
  rw [hblk] at hb
  simp only [Option.some.injEq, Obj.cells.injEq, true_and] at hb
  obtain ⟨rfl, rfl⟩ := hb
  refine ⟨h1.set hy i, by rw [List.length_set]; exact h2, _, _, by rw [List.length_set], by rw [List.length_set]; exact h3, h4, h5, fun _ => ⟨jb, 0, _, _, rfl, block_set hblk i _, fun j hj => ?_⟩⟩
  rw [List.length_set] at hj
  have hcj := hc j hj
  rw [Nat.zero_add] at hcj ⊢
  have hsz : j < cur0.size := (Array.getElem?_eq_some_iff.1 hcj).1
  by_cases hij : i = j
  . subst hij
    rw [Array.getElem?_setIfInBounds_self_of_lt hsz]
    simp [List.getD, hi]
  . rw [Array.getElem?_setIfInBounds_ne hij, hcj]
    simp [List.getD, List.getElem?_set_ne hij]
theorem Live.bytes {w0 : World} {N : Nat} {M L : Int} {w w' : World} {sb jb : Nat} {g : Cfg} {T : Int} {cur : Array Value} {fr : Nat × Nat} (h : Live w0 N M L w sb (srvT g T)) (hc : Chg (· = jb) w w') (hj : w0.heap.size <= jb) (ht : w.heap[jb]? = some (.cells cur 5 fr)) : Live w0 N M L w' sb (srvT g T) := by
  obtain ⟨cm, wv, cbs, xs, ws, hP, hG⟩ := h.srv
  obtain ⟨n, hn, hm⟩ := hP.map
  have hne : ∀ k, SrvF sb cm wv cbs xs k -> ¬ k = jb := by
    intro k hk e
    rcases SrvF_SF hP hk with ⟨es, ck, q⟩ | ⟨c', e', fr', q, hT⟩
    . rw [e, ht] at q
      cases q
    . rw [e, ht] at q
      simp only [Option.some.injEq, Obj.cells.injEq] at q
      rw [<- q.2.1] at hT
      simp [SrvT] at hT
  refine ⟨⟨hc.os.trans h.bel.os, hc.tape.trans h.bel.tape, hc.output.trans h.bel.output, Nat.le_trans h.bel.size hc.size, fun k hk => ?_⟩, ⟨cm, wv, cbs, xs, ws, ⟨hP.blk.chg hc (hne _ (Or.inl rfl)), ⟨n, hn, hm.same (hc.block cm hm.lt (hne _ (Or.inr (Or.inl rfl))))⟩, hP.len1, hP.len2, fun i c cb a h1 => (by simp [srvT] at h1), own_chg hP.row hc (fun k hk => hne k (Or.inr (Or.inr (Or.inl hk)))), hP.wait, hP.apart, hP.mne⟩, hG⟩, h.inv⟩
  rw [hc.block k (Nat.lt_of_lt_of_le hk h.bel.size) (fun e => by omega), h.bel.block k hk]
theorem tok_accept2 (g : Cfg) (T a id got sent : Int) : ∃ s r1 r2 r3 r4 r5, acceptS ⟨g, T, [conT g T a id got sent], 1⟩ = (id, 0, s) /\ lookS s id = (#[.bool true, .int .i64 r1, .int .i64 r2, .int .i64 r3, .int .i64 r4, .int .i64 r5], 0) := by
  refine ⟨⟨g, T, [{ conT g T a id got sent with waits := 0 }], 1⟩, got, sent, g.c1, ((List.replicate g.c3.toNat (strNew g.c2)).length : Int), bufS (List.replicate g.c3.toNat (strNew g.c2)), by rfl, ?_⟩
  simp [lookS, findI, conT, lookC]
theorem xor_byte {a b : Int} (ha : 0 <= a /\ a < 256) (hb : 0 < b /\ b < 256) : a ≠ bits .xor .u8 a b /\ 0 <= bits .xor .u8 a b /\ bits .xor .u8 a b < 256 := by
  obtain ⟨x, rfl⟩ := Int.eq_ofNat_of_zero_le ha.1
  obtain ⟨y, rfl⟩ := Int.eq_ofNat_of_zero_le (Int.le_of_lt hb.1)
  have hz : x ^^^ y < 2 ^ 8 := Nat.xor_lt_two_pow (by omega) (by omega)
  have hx : ((x : Int) % ((2 ^ 8 : Nat) : Int)).toNat = x := by omega
  have hy : ((y : Int) % ((2 ^ 8 : Nat) : Int)).toNat = y := by omega
  have ht : (BitVec.ofInt 8 (x : Int) ^^^ BitVec.ofInt 8 (y : Int)).toNat = x ^^^ y := by
    rw [BitVec.toNat_xor, BitVec.toNat_ofInt, BitVec.toNat_ofInt, hx, hy]
  have e : bits .xor .u8 (x : Int) (y : Int) = ((x ^^^ y : Nat) : Int) := by
    show IntKind.u8.wrap ((BitVec.ofInt 8 (x : Int) ^^^ BitVec.ofInt 8 (y : Int)).toNat : Int) = _
    rw [ht]
    show (((x ^^^ y : Nat) : Int)) % 2 ^ 8 = _
    omega
  rw [e]
  refine ⟨fun h => ?_, by omega, by omega⟩
  have h1 : x ^^^ y = x := by omega
  have h2 : y = 0 := by
    have := congrArg (x ^^^ ·) h1
    simpa [<- Nat.xor_assoc] using this
  omega
theorem ktokens_any (raw : Cfg) (pa po pc pw pt ph : Int) (w : World) (hE : Env w) (hraw : CfgRaw raw) (ha : -9223372036854775808 <= pa /\ pa <= 9223372036854775807) (ho : -9223372036854775808 <= po /\ po <= 9223372036854775807) (hc : -9223372036854775808 <= pc /\ pc <= 9223372036854775807) (hw : -9223372036854775808 <= pw /\ pw <= 9223372036854775807) (ht : -9223372036854775808 <= pt /\ pt <= 9223372036854775807) (hh : -9223372036854775808 <= ph /\ ph <= 9223372036854775807) :
    Calls Tryz.prog 10 #[.agg (cfgC raw), .int .i64 pa, .int .i64 po, .int .i64 pc, .int .i64 pw, .int .i64 pt, .int .i64 ph] w fun e w' => e = .returned (.bool true) /\ Below w.heap.size w w' := by
  have hb0 : Below w.heap.size w (w.alloc (.cells (cfgC raw) 26)) := below_alloc w _
  have HX : Hid ((w.alloc (.cells (cfgC raw) 26)).heap[w.heap.size]? = some (.cells (cfgC raw) 26 (0, 0))) := heap_alloc_new w _
  have HAw := hideIt (kawake_any _ (hE.below hb0))
  have HCf := hideIt (fun W => kconfig_any raw W hraw)
  have hok := tokC_ok raw
  have hright := ok_right hok
  have h5 : (tokC raw).c5 = 0 := rfl
  have h8 : (tokC raw).c8 = 100000 := rfl
  have HNew := hideIt (fun W (hW : Below w.heap.size w W) => live_new w (tokC raw) hright W hW)
  have E0 : ∀ (sb : Nat) (W : World), (binOp .eql 37 (.pointer (some ⟨sb, 0, none⟩)) (.pointer none)).run Tryz.prog W = .ok (.bool false) W := fun sb W => by kernel_rfl
  have k7 := hok.c7
  have HPa := hideIt (fun W => kpick_any pa 256 W ha (by decide))
  have ra := pickN_range pa (n := 256) (by decide)
  have HPo := hideIt (fun W => kpick_any po 256 W ho (by decide))
  have ro := pickN_range po (n := 256) (by decide)
  have HPc := hideIt (fun W => kpick_any pc 1073741824 W hc (by decide))
  have rc := pickN_range pc (n := 1073741824) (by decide)
  have HPw := hideIt (fun W => kpick_any pw (2 * (tokC raw).c7) W hw (by omega))
  have rw' := pickN_range pw (n := 2 * (tokC raw).c7) (by omega)
  have HPt := hideIt (fun W => kpick_any pt 9 W ht (by decide))
  have rt := pickN_range pt (n := 9) (by decide)
  have HPh := hideIt (fun W => kpick_any ph 255 W hh (by decide))
  have rh := pickN_range ph (n := 255) (by decide)
  generalize pickN pa 256 = a at *
  generalize pickN po 256 = b at *
  generalize pickN pc 1073741824 = id at *
  generalize pickN pw (2 * (tokC raw).c7) = T at *
  generalize pickN pt 9 = i at *
  generalize pickN ph 255 = m at *
  have HE := hideIt hE
  have HB0 := hideIt hb0
  have HOk := hideIt hok
  have hcfg : cfgC (cfgN raw) = #[.int .i64 (tokC raw).c0, .int .i64 (tokC raw).c1, .int .i64 (tokC raw).c2, .int .i64 (tokC raw).c3, .int .i64 (tokC raw).c4, .int .i64 (cfgN raw).c5, .int .i64 (tokC raw).c6, .int .i64 (tokC raw).c7, .int .i64 (cfgN raw).c8, .int .i64 (tokC raw).c9] := rfl
  rw [hcfg] at HCf
  generalize (cfgN raw).c8 = k8 at *
  generalize (cfgN raw).c5 = k5 at *
  generalize hG : tokC raw = G at *
  obtain ⟨G0, G1, G2, G3, G4, G5, G6, G7, G8, G9⟩ := G
  simp only at *
  subst h8 h5
  clear hE hb0 hright hok hcfg hG hraw ha ho hc hw ht hh
  unfold cfgC at HX HCf ⊢
  go_enter Tryz.func10, Tryz.ntmps10
  go_wp2_with fail
  refine HAw.out.mono ?_
  rintro e w1 ⟨rfl, hb1⟩
  have x1 := box_below HX.out hb1
  have r0 : w1.cell? ⟨w.heap.size, 0, none⟩ = some (.int .i64 raw.c0) := box_cells x1 0
  have r1 : w1.cell? ⟨w.heap.size, 1, none⟩ = some (.int .i64 raw.c1) := box_cells x1 1
  have r2 : w1.cell? ⟨w.heap.size, 2, none⟩ = some (.int .i64 raw.c2) := box_cells x1 2
  have r3 : w1.cell? ⟨w.heap.size, 3, none⟩ = some (.int .i64 raw.c3) := box_cells x1 3
  have r4 : w1.cell? ⟨w.heap.size, 4, none⟩ = some (.int .i64 raw.c4) := box_cells x1 4
  have r5 : w1.cell? ⟨w.heap.size, 5, none⟩ = some (.int .i64 raw.c5) := box_cells x1 5
  have r6 : w1.cell? ⟨w.heap.size, 6, none⟩ = some (.int .i64 raw.c6) := box_cells x1 6
  have r7 : w1.cell? ⟨w.heap.size, 7, none⟩ = some (.int .i64 raw.c7) := box_cells x1 7
  have r8 : w1.cell? ⟨w.heap.size, 8, none⟩ = some (.int .i64 raw.c8) := box_cells x1 8
  have r9 : w1.cell? ⟨w.heap.size, 9, none⟩ = some (.int .i64 raw.c9) := box_cells x1 9
  have HB1 := hideIt (below_join HB0.out hb1)
  clear x1 hb1 HB0 HX HAw
  go_wp2_with fail
  refine (HCf.out w1).mono ?_
  rintro e w2 ⟨rfl, hb2⟩
  have HB2 := hideIt (below_join HB1.out hb2)
  clear hb2 HB1 HCf r0 r1 r2 r3 r4 r5 r6 r7 r8 r9
  go_wp2_with fail
  have hb3 : Below w2.heap.size w2 (w2.alloc (.cells #[.int .i64 G0, .int .i64 G1, .int .i64 G2, .int .i64 G3, .int .i64 G4, .int .i64 0, .int .i64 G6, .int .i64 G7, .int .i64 100000, .int .i64 G9] 26)) := below_alloc w2 _
  have x3 : (w2.alloc (.cells #[.int .i64 G0, .int .i64 G1, .int .i64 G2, .int .i64 G3, .int .i64 G4, .int .i64 0, .int .i64 G6, .int .i64 G7, .int .i64 100000, .int .i64 G9] 26)).heap[w2.heap.size]? = some (.cells #[.int .i64 G0, .int .i64 G1, .int .i64 G2, .int .i64 G3, .int .i64 G4, .int .i64 0, .int .i64 G6, .int .i64 G7, .int .i64 100000, .int .i64 G9] 26 (0, 0)) := heap_alloc_new w2 _
  refine (HNew.out _ (below_join HB2.out hb3)).mono ?_
  rintro e w4 ⟨⟨sb, rfl, hL4⟩, hb4⟩
  have HX4 := hideIt (box_below x3 hb4)
  have HL4 : Hid (Live w 0 0 0 w4 sb (srvT ⟨G0, G1, G2, G3, G4, 0, G6, G7, 100000, G9⟩ 0)) := hL4
  clear hb3 x3 hL4 hb4 HNew HB2
  go_wp2_with fail
  refine (HPa.out _).mono ?_
  rintro e w5 ⟨rfl, rfl⟩
  clear HPa
  go_wp2_with fail
  refine (HPc.out _).mono ?_
  rintro e w5 ⟨rfl, rfl⟩
  clear HPc
  go_wp2_with fail
  have hb5 : Below w4.heap.size w4 (w4.alloc (.cells #[.int .u8 0, .int .u8 0, .int .u8 0, .int .u8 0] 5)) := below_alloc w4 _
  have HHe := hideIt (khello_any id [] [0, 0, 0, 0] (.slice none 0 0) (.slice (some ⟨w4.heap.size, 0, none⟩) 4 4) (w4.alloc (.cells #[.int .u8 0, .int .u8 0, .int .u8 0, .int .u8 0] 5)) (by omega) (RdB.nil _) (RdB.lit w4 [0, 0, 0, 0] (by unfold Bytes; decide) (by decide) (by decide)) (by decide) (by decide))
  have HL5 := hideIt (HL4.out.below hb5)
  have HX5 := hideIt (box_below HX4.out hb5)
  have hlh : (helloL id [] [0, 0, 0, 0]).length <= 20 := by
    have q1 := putL_length id
    have q2 := putL_length (([] : List Int).length : Int)
    simp only [helloL, List.length_append, List.length_cons, List.length_nil] at q2 ⊢
    omega
  have HBh := hideIt (helloL_bytes (cid := id) (tok := []) (fr := [0, 0, 0, 0]) (by omega) Bytes.nil (by unfold Bytes; decide) (by decide))
  have hRt := tok_retry (g := ⟨G0, G1, G2, G3, G4, 0, G6, G7, 100000, G9⟩) rfl (a := a) (id := id) (by omega) (by omega)
  generalize helloL id [] [0, 0, 0, 0] = HLo at *
  clear hb5 HL4 HX4
  refine HHe.out.mono ?_
  rintro e w6 ⟨hv, rfl, hho, hb6⟩
  obtain ⟨h1, h2, rfl⟩ := own_form hho
  have HRc := hideIt ((HL5.out.below hb6).receive HE.out a (RdB.of_own hho HBh.out (by omega)) (by omega) (by decide) (by omega) (by omega))
  rw [hRt] at HRc
  have HX6 := hideIt (box_below HX5.out hb6)
  clear hho hb6 HHe HL5 HX5 hRt HBh
  go_wp2_with fail
  refine HRc.out.mono ?_
  rintro e w7 ⟨⟨v7, rfl, ho7⟩, hL7, hc7⟩
  have HL7 : Hid (Live w 50 200 10 w7 sb (srvT ⟨G0, G1, G2, G3, G4, 0, G6, G7, 100000, G9⟩ 0)) := hL7.mono (by omega) (by omega) (by decide)
  have HX7 := hideIt (box_sf HX6.out (by simp [SrvT]) hc7)
  obtain ⟨l1, l2, rfl⟩ := ho7.form
  have HO7 : Hid (OutsAt w7 w6.heap.size (.slice l1 1 l2) [(a, [3] ++ putL id ++ [9] ++ tokenL G9 a G7)]) := ho7
  have HMe := hideIt HL7.out.memory
  rw [show memS (srvT ⟨G0, G1, G2, G3, G4, 0, G6, G7, 100000, G9⟩ 0) = 0 by simp [memS, srvT]] at HMe
  clear ho7 hL7 hc7 HRc HX6 hlh
  go_wp2_with fail
  refine HMe.out.mono ?_
  rintro e w8 ⟨rfl, hb8⟩
  have HL8 := hideIt (HL7.out.below hb8)
  have HX8 := hideIt (box_below HX7.out hb8)
  have HO8 := hideIt (HO7.out.below hb8)
  clear hb8 HMe HL7 HX7 HO7
  obtain ⟨ga, gc, bv, e1, q0, q1, hbv⟩ := outs_one HO8.out
  simp only [Value.slice.injEq] at e1
  obtain ⟨rfl, _, rfl⟩ := e1
  have hRl : ([3] ++ putL id ++ [9] ++ tokenL G9 a G7).length = 11 + (putL id).length := by
    simp only [List.length_append, List.length_cons, List.length_nil, tok_len]
    omega
  obtain ⟨bb, bc, e2, _, _, hbc⟩ := own_some hbv (by omega)
  have m0 : w8.cell? ⟨bb, 0, none⟩ = some (.int .u8 3) := by
    have := own_read (e2 ▸ hbv) 0 (by omega)
    simpa using this
  rw [hRl] at e2
  rw [e2] at q1
  have hpl := putL_length id
  have HN := hideIt (fun W => knumber_any id W (by omega))
  obtain ⟨pl, hpe⟩ : ∃ pl, (putL id).length = pl := ⟨_, rfl⟩
  rw [hpe] at q1 hpl hRl
  have HPe := hideIt hpe
  have HBv := hideIt hbv
  have HE2 := hideIt e2
  have HRl := hideIt hRl
  have f5 : (0 : Int) < ((11 + pl : Nat) : Int) := by omega
  have f6 : (0 : Nat) < 11 + pl := by omega
  have f7 : (0 : Int) < 11 + (pl : Int) := by omega
  have f1 : (a != a) = false := by simp
  have f2 : (((11 + pl : Nat) : Int) != 11 + (pl : Int)) = false := by simp
  have f3 : IntKind.i64.wrap (11 + (pl : Int)) = 11 + (pl : Int) := by rw [IntKind.wrap_i64]; omega
  have d0 : w8.drew.cell? ⟨ga, 0, none⟩ = some (.int .i64 a) := q0
  have d1 : w8.drew.cell? ⟨ga, 1, none⟩ = some (.slice (some ⟨bb, 0, none⟩) (11 + pl) bc) := q1
  have d2 : w8.drew.cell? ⟨bb, 0, none⟩ = some (.int .u8 3) := m0
  clear hbv e2 hpe hRl HO8
  go_wp2_with fail
  go_cut [104] from 69 to 103 (fun s104 wx => s104 = .bool false /\ Below w8.heap.size w8 wx)
  case first =>
    have hS := And.intro d0 (And.intro d1 d2)
    go_region_held3 (fun w' => w'.cell? ⟨ga, 0, none⟩ = some (.int .i64 a) /\ w'.cell? ⟨ga, 1, none⟩ = some (.slice (some ⟨bb, 0, none⟩) (11 + pl) bc) /\ w'.cell? ⟨bb, 0, none⟩ = some (.int .u8 3)) (first | with_reducible assumption | go_keep) (first
      | (go_at_call 31; refine (HN.out _).mono ?_; rintro e w9 ⟨nv, rfl, hno, hb9⟩; obtain ⟨n1, n2, rfl⟩ := own_form hno; rw [HPe.out]; have k0 := cell_below q0 (below_undrew hb9); have k1 := cell_below q1 (below_undrew hb9); have k2 := cell_below m0 (below_undrew hb9); have hS9 := And.intro k0 (And.intro k1 k2)))
    all_goals
      have HB9 := hideIt (below_undrew hb9)
      clear hno hb9 k0 k1 k2 hS9 hS
      go_wp2_with fail
      go_meet
      exact ⟨rfl, HB9.out⟩
  case rest =>
    obtain ⟨rfl, hb9⟩ := hcut
    obtain ⟨w9, rfl⟩ : ∃ w9, w9 = wc := ⟨_, rfl⟩
    have HL9 := hideIt (HL8.out.below hb9)
    have HX9 := hideIt (box_below HX8.out hb9)
    have HBv9 := hideIt (own_below HBv.out hb9)
    have q1c := cell_below q1 hb9
    have d1c : w9.drew.cell? ⟨ga, 1, none⟩ = some (.slice (some ⟨bb, 0, none⟩) (11 + pl) bc) := q1c
    clear hb9 d0 d1 d2 q0 q1 m0 HL8 HX8 HBv
    have f4 : IntKind.i64.wrap (2 + (pl : Int)) = 2 + (pl : Int) := by rw [IntKind.wrap_i64]; omega
    have hRb : Bytes ([3] ++ putL id ++ [9] ++ tokenL G9 a G7) := (((Bytes.cons (by decide) Bytes.nil).append (putL_bytes _ (by omega) (by omega))).append (Bytes.cons (by decide) Bytes.nil)).append (tokenL_bytes _ _ _ (by omega) (by omega))
    have hRd : RdB w9 (.slice (some ⟨bb, 0, none⟩) (11 + pl) bc) ([3] ++ putL id ++ [9] ++ tokenL G9 a G7) := by
      have q := RdB.of_own HBv9.out hRb (by rw [HRl.out]; omega)
      rw [HE2.out, HPe.out] at q
      exact q
    obtain ⟨tv, hTd, ⟨ta, tc, htf⟩, hTs⟩ := hRd.drop (k := 2 + pl) (by rw [HRl.out]; omega)
    have hdr : ([3] ++ putL id ++ [9] ++ tokenL G9 a G7).drop (2 + pl) = tokenL G9 a G7 := by
      rw [List.drop_append_of_le_length (by simp only [List.length_append, List.length_cons, List.length_nil, HPe.out]; omega), List.drop_eq_nil_of_le (by simp only [List.length_append, List.length_cons, List.length_nil, HPe.out]; omega), List.nil_append]
    rw [hdr] at hTd
    rw [HRl.out, show 11 + pl - (2 + pl) = 9 by omega] at htf
    subst htf
    have hTs' : ∀ W : World, (Instr.slice 44 (.slice (some ⟨bb, 0, none⟩) (11 + pl) bc) (some (.int .i64 (2 + (pl : Int)))) none none).run Tryz.prog W = .ok (.slice ta 9 tc) W := fun W => by
      have := hTs W
      rw [show (((2 + pl : Nat) : Int)) = 2 + (pl : Int) by omega] at this
      exact this
    have HTd := hideIt hTd
    clear hRb hRd hTd hTs hdr HBv9
    go_wp2_with fail
    go_cut [23] from 105 to 113 (fun s23 wx => s23 = .slice ta 9 tc /\ Below w9.heap.size w9 wx)
    case first =>
      go_region_held3 (fun w' => w'.cell? ⟨ga, 1, none⟩ = some (.slice (some ⟨bb, 0, none⟩) (11 + pl) bc)) (first | with_reducible assumption | go_keep) (first
        | (go_at_call 31; refine (HN.out _).mono ?_; rintro e w10 ⟨nv, rfl, hno, hb9⟩; obtain ⟨n1, n2, rfl⟩ := own_form hno; rw [HPe.out]; have k1 := cell_below q1c (below_undrew hb9)))
      all_goals
        have HB9 := hideIt (below_undrew hb9)
        clear hno hb9 k1
        go_wp2_with fail
        go_meet
        exact ⟨rfl, HB9.out⟩
    case rest =>
      obtain ⟨rfl, hb10⟩ := hcut
      obtain ⟨w10, rfl⟩ : ∃ w10, w10 = wc := ⟨_, rfl⟩
      have HL10 := hideIt (HL9.out.below hb10)
      have HX10 := hideIt (box_below HX9.out hb10)
      have HT10 := hideIt (HTd.out.below hb10)
      have HAc := hideIt HL10.out.accept
      rw [tok_accept0] at HAc
      clear hb10 HL9 HX9 HTd q1c d1c hTs'
      go_wp2_with fail
      refine HAc.out.mono ?_
      rintro e w11 ⟨rfl, hL11, hc11⟩
      have HL11 := hideIt hL11
      have HT11 := hideIt (HT10.out.sf hc11)
      have x11 := box_sf HX10.out (by simp [SrvT]) hc11
      have HX11 := hideIt x11
      have l7 : w11.cell? ⟨w2.heap.size, 7, none⟩ = some (.int .i64 G7) := box_cells x11 7
      clear hL11 hc11 x11 HAc HL10 HX10 HT10
      go_wp2_with fail
      refine (HPw.out _).mono ?_
      rintro e w12 ⟨rfl, rfl⟩
      have HCk := hideIt (HL11.out.clock T (by show (0 : Int) <= T; omega) (by omega))
      rw [tok_clock] at HCk
      clear HPw HL11
      go_wp2_with fail
      refine HCk.out.mono ?_
      rintro e w12 ⟨rfl, hL12, hc12⟩
      have HL12 := hideIt hL12
      have HLw12 := hideIt hL12.bel.size
      have HT12 := hideIt (HT11.out.sf hc12)
      have x12 := box_sf HX11.out (by simp [SrvT]) hc12
      have HX12 := hideIt x12
      clear hL12 hc12 x12 HCk HT11 HX11 l7
      have hb13 : Below w12.heap.size w12 (w12.alloc (.cells #[.slice ta 9 tc] 44)) := below_alloc w12 _
      have HJ := hideIt (kjoined_any [(.slice ta 9 tc, tokenL G9 a G7)] w12.heap.size 1 (w12.alloc (.cells #[.slice ta 9 tc] 44)) (fun j p hj => by
        cases j with
        | zero => simp only [List.getElem?_cons_zero, Option.some.injEq] at hj; subst hj; simp
        | succ j => simp at hj) (fun p hp => by rw [List.mem_singleton.1 hp]; exact HT12.out.below hb13) (by simp) (by simp [joinL, tok_len]))
      rw [show joinL [(.slice ta 9 tc, tokenL G9 a G7)] = tokenL G9 a G7 by simp [joinL], tok_len, show ([(.slice ta 9 tc, tokenL G9 a G7)] : List (Value × List Int)).length = 1 from rfl] at HJ
      have HL13 := hideIt (HL12.out.below hb13)
      have HT13 := hideIt (HT12.out.below hb13)
      have HX13 := hideIt (box_below HX12.out hb13)
      have HB13 := hideIt hb13
      clear hb13 HL12 HX12
      go_wp2_with fail
      refine HJ.out.mono ?_
      rintro e w14 ⟨jv, rfl, hj, hb14⟩
      have HL14 := hideIt (HL13.out.below hb14)
      have HT14 := hideIt (HT13.out.below hb14)
      have HX14 := hideIt (box_below HX13.out hb14)
      obtain ⟨jb, jc, e14, hjb, _, hjc⟩ := own_some hj (by decide)
      subst e14
      have HB14 := hideIt (below_join HB13.out hb14)
      clear hb14 HJ HL13 HT13 HX13 HB13
      obtain ⟨ii, hii⟩ : ∃ ii : Nat, i = ii := ⟨i.toNat, by omega⟩
      subst hii
      obtain ⟨mm, hmm⟩ : ∃ mm : Nat, m = mm := ⟨m.toNat, by omega⟩
      subst hmm
      have hjl : (tokenL G9 a G7).length = 9 := tok_len _ _ _
      have hci := own_read hj ii (by rw [hjl]; exact Int.ofNat_lt.1 rt.2)
      rw [Nat.zero_add] at hci
      obtain ⟨cur0, hblk⟩ := own_blockN hj rfl
      have zi : w14.frozen? ⟨jb, ii, none⟩ = false := frozen_of_row _ _ _ _ _ hblk
      have hilt : ii < (tokenL G9 a G7).length := by rw [hjl]; exact Int.ofNat_lt.1 rt.2
      have hxb : 0 <= (tokenL G9 a G7).getD ii 0 /\ (tokenL G9 a G7).getD ii 0 < 256 := by
        have e : (tokenL G9 a G7).getD ii 0 = (tokenL G9 a G7)[ii] := by simp [List.getD, List.getElem?_eq_getElem hilt]
        rw [e]
        exact tokenL_bytes G9 a G7 ra.1 ra.2 _ (List.getElem_mem hilt)
      have hxx := xor_byte hxb (b := 1 + (mm : Int)) ⟨by omega, by omega⟩
      have HBad := hideIt (tok_bad (k := G9) (a := a) (t := G7) ⟨by omega, by omega⟩ hxx.2 (hjl ▸ hilt) hxx.1)
      have HRb := hideIt (RdB.setAt hblk (RdB.of_own hj (tokenL_bytes G9 a G7 ra.1 ra.2) (by rw [hjl]; decide)) hilt hxx.2)
      have HLb := hideIt (HL14.out.bytes (chg_set (cb := jb) (Below.refl _ w14) ii (.int .u8 (bits .xor .u8 ((tokenL G9 a G7).getD ii 0) (1 + (mm : Int))))) (by have := HL14.out.bel.size; have := HB14.out.size; have h9 := HLw12.out; simp at hjb; omega) hblk)
      have Q9 : Calls Tryz.prog 19 #[.int .i64 pt, .int .i64 9] w14.drew (fun e w'' => e = .returned (.int .i64 (ii : Int)) /\ w'' = w14.drew) := (HPt.out _).mono (fun _ _ h => And.imp_right Eq.symm h)
      have Q255 : Calls Tryz.prog 19 #[.int .i64 ph, .int .i64 255] w14.drew (fun e w'' => e = .returned (.int .i64 (mm : Int)) /\ w'' = w14.drew) := (HPh.out _).mono (fun _ _ h => And.imp_right Eq.symm h)
      have HQ9 := hideIt Q9
      have HQ255 := hideIt Q255
      clear Q9 Q255
      obtain ⟨x, hxe⟩ : ∃ x, (tokenL G9 a G7).getD ii 0 = x := ⟨_, rfl⟩
      rw [hxe] at hci hxb hxx HBad HRb HLb
      have g1 : IntKind.i64.wrap (1 + (mm : Int)) = 1 + (mm : Int) := by rw [IntKind.wrap_i64]; omega
      have g2 : IntKind.u8.wrap (1 + (mm : Int)) = 1 + (mm : Int) := by
        show (1 + (mm : Int)) % 2 ^ 8 = _
        omega
      have d1 : w14.drew.cell? ⟨jb, ii, none⟩ = some (.int .u8 x) := hci
      have z1 : w14.drew.frozen? ⟨jb, ii, none⟩ = false := zi
      have hi9 : (ii : Int) < 9 := rt.2
      have hi0 : (0 : Int) <= (ii : Int) := rt.1
      have hm0 : (0 : Int) <= 1 + (mm : Int) := by omega
      have hm1 : 1 + (mm : Int) < 256 := by omega
      clear HPt HPh hxe
      go_wp2_with fail
      go_cut [28] from 141 to 154 (fun s28 wx => s28 = .slice (some ⟨jb, 0, none⟩) 9 jc /\ ∃ q, wx = (w14.setCell ⟨jb, ii, none⟩ (.int .u8 (bits .xor .u8 x (1 + (mm : Int))))).drewN q)
      case first =>
        refine wp_region_still_tail 14 (by kernel_rfl) (by kernel_rfl) ?_
        simp only [List.take_succ_cons, List.take_zero, List.drop_succ_cons, List.drop_zero]
        still_step
        still_step
        still_call HQ9.out
        still_step
        still_step
        still_call HQ9.out
        still_step
        still_step
        still_step
        still_call HQ255.out
        still_step
        still_step
        still_step
        still_step
        refine wpStill_nil ?_
        have e15 : ({ heap := w14.heap, tape := w14.tape, drawn := w14.drawn + 1, os := w14.os, output := w14.output } : World) = w14.drew := rfl
        rw [e15]
        go_wp2_with fail
        go_meet
        exact ⟨rfl, 1, rfl⟩
      case rest =>
        obtain ⟨rfl, q, rfl⟩ := hcut
        have hcw : Chg (· = jb) w14 ((w14.setCell ⟨jb, ii, none⟩ (.int .u8 (bits .xor .u8 x (1 + (mm : Int))))).drewN q) := (chg_set (Below.refl _ w14) ii _).trans (Chg.of_below (below_drewN (Below.refl _ _) q))
        have HRb2 := hideIt (HRb.out.below (below_drewN (Below.refl _ _) q))
        have HLb2 := hideIt (HLb.out.below (below_drewN (Below.refl _ _) q))
        have HX16 : Hid (((w14.setCell ⟨jb, ii, none⟩ (.int .u8 (bits .xor .u8 x (1 + (mm : Int))))).drewN q).heap[w2.heap.size]? = some (.cells #[.int .i64 G0, .int .i64 G1, .int .i64 G2, .int .i64 G3, .int .i64 G4, .int .i64 0, .int .i64 G6, .int .i64 G7, .int .i64 100000, .int .i64 G9] 26 (0, 0))) := (hcw.block _ (Array.getElem?_eq_some_iff.1 HX14.out).1 (fun e => by
          have h1 := HX14.out
          rw [e, hblk] at h1
          simp only [Option.some.injEq, Obj.cells.injEq] at h1
          exact absurd h1.2.1 (by decide))).trans HX14.out
        have HT16 : Hid (RdB ((w14.setCell ⟨jb, ii, none⟩ (.int .u8 (bits .xor .u8 x (1 + (mm : Int))))).drewN q) (.slice ta 9 tc) (tokenL G9 a G7)) := by
          have hcc : Chg (fun k => w12.heap.size <= k) w12 ((w14.setCell ⟨jb, ii, none⟩ (.int .u8 (bits .xor .u8 x (1 + (mm : Int))))).drewN q) := chg_then (Chg.of_below HB14.out) hcw fun k hk e => by
            simp at hjb
            omega
          exact HT12.out.chg hcc fun k cur fr hk e => by
            have := (Array.getElem?_eq_some_iff.1 hk).1
            omega
        have HGd : Hid (goodS ⟨G0, G1, G2, G3, G4, 0, G6, G7, 100000, G9⟩ T a ((tokenL G9 a G7).set ii (bits .xor .u8 x (1 + (mm : Int)))) = false) := by
          show _ = _
          unfold goodS
          rw [decide_eq_false HBad.out]
          simp
        have hbl : ((tokenL G9 a G7).set ii (bits .xor .u8 x (1 + (mm : Int)))).length = 9 := by rw [List.length_set]; exact hjl
        have HNo := hideIt (tok_no (g := ⟨G0, G1, G2, G3, G4, 0, G6, G7, 100000, G9⟩) (T := T) (a := a) (id := id) ⟨rc.1, by omega⟩ hbl HGd.out)
        generalize (tokenL G9 a G7).set ii (bits .xor .u8 x (1 + (mm : Int))) = bad at *
        generalize (w14.setCell ⟨jb, ii, none⟩ (.int .u8 (bits .xor .u8 x (1 + (mm : Int))))).drewN q = w16 at *
        clear hcw HRb HLb HX14 HT14 HL14 HBad hci hblk zi d1 z1 hj hjb hxx hxb HGd HQ9 HQ255 hilt
        have HHe := hideIt (khello_any id bad [] (.slice (some ⟨jb, 0, none⟩) 9 jc) (.slice none 0 0) w16 ⟨rc.1, by omega⟩ HRb2.out (RdB.nil _) (by omega) (by decide))
        go_wp2_with fail
        refine HHe.out.mono ?_
        rintro e w17 ⟨hv, rfl, hho, hb17⟩
        obtain ⟨h1, h2, rfl⟩ := own_form hho
        have hlh : (helloL id bad []).length <= 30 := by
          have q1 := putL_length id
          have q2 := putL_length (bad.length : Int)
          simp only [helloL, List.length_append, List.length_cons, List.length_nil]
          omega
        have hHb := helloL_bytes (cid := id) (tok := bad) (fr := []) ⟨rc.1, by omega⟩ HRb2.out.1 Bytes.nil (by omega)
        have HRc := hideIt ((HLb2.out.below hb17).receive HE.out a (RdB.of_own hho hHb (by omega)) (by omega) (by decide) (by omega) (by omega))
        rw [HNo.out] at HRc
        have HT17 := hideIt (HT16.out.below hb17)
        have HX17 := hideIt (box_below HX16.out hb17)
        clear hho hHb HHe HLb2 HT16 HX16 HNo HRb2
        go_wp2_with fail
        refine HRc.out.mono ?_
        rintro e w18 ⟨⟨v18, rfl, ho18⟩, hL18, hc18⟩
        obtain ⟨z1, z2, rfl⟩ := ho18.form
        have HL18 : Hid (Live w 200 1000 20 w18 sb (srvT ⟨G0, G1, G2, G3, G4, 0, G6, G7, 100000, G9⟩ T)) := hL18.mono (by omega) (by omega) (by decide)
        have HT18 := hideIt (HT17.out.sf hc18)
        have HX18 := hideIt (box_sf HX17.out (by simp [SrvT]) hc18)
        clear ho18 hL18 hc18 HRc HT17 HX17 hb17 hlh hbl
        have HOkg := hideIt HOk.out
        have hlt : (helloL id (tokenL G9 a G7) []).length <= 30 := by
          have q1 := putL_length id
          have q2 := putL_length (((tokenL G9 a G7).length : Nat) : Int)
          simp only [helloL, List.length_append, List.length_cons, List.length_nil, hjl] at q2 ⊢
          omega
        have HHt : Hid (∀ W, RdB W (.slice ta 9 tc) (tokenL G9 a G7) -> Calls Tryz.prog 30 #[.int .i64 id, .slice ta 9 tc, .slice none 0 0] W fun e w' => ∃ n1 n2 n3, e = .returned (.slice n1 n2 n3) /\ RdB w' (.slice n1 n2 n3) (helloL id (tokenL G9 a G7) []) /\ Below W.heap.size W w') := by
          intro W hW
          refine (khello_any id (tokenL G9 a G7) [] (.slice ta 9 tc) (.slice none 0 0) W ⟨rc.1, by omega⟩ hW (RdB.nil _) (by rw [hjl]; decide) (by decide)).mono ?_
          rintro e w' ⟨v, rfl, ho, hb⟩
          obtain ⟨n1, n3, rfl⟩ := own_form ho
          exact ⟨_, _, _, rfl, RdB.of_own ho (helloL_bytes ⟨rc.1, by omega⟩ hW.1 Bytes.nil (by rw [hjl]; decide)) (by omega), hb⟩
        have HNot : Hid (∀ (W : World) (v : Value) (c : Int) (N : Nat) (M L : Int), N <= 1000 -> 0 <= M -> M <= 10000 -> Live w N M L W sb (srvT ⟨G0, G1, G2, G3, G4, 0, G6, G7, 100000, G9⟩ T) -> RdB W v (helloL id (tokenL G9 a G7) []) -> goodS ⟨G0, G1, G2, G3, G4, 0, G6, G7, 100000, G9⟩ T c (tokenL G9 a G7) = false -> Calls Tryz.prog 20 #[.pointer (some ⟨sb, 0, none⟩), .int .i64 c, v] W fun e w' => (∃ n1 n3, e = .returned (.slice n1 0 n3)) /\ Live w (N + 40) (M + 200) (L + 2) w' sb (srvT ⟨G0, G1, G2, G3, G4, 0, G6, G7, 100000, G9⟩ T) /\ Chg (SF w W) W w') := by
          intro W v c N M L hN hM0 hM hL hR hG
          have h9 := hL.receive HE.out c hR (by omega) hM0 (by omega) (by omega)
          rw [tok_no (g := ⟨G0, G1, G2, G3, G4, 0, G6, G7, 100000, G9⟩) (T := T) (a := c) (id := id) ⟨rc.1, by omega⟩ hjl hG] at h9
          refine h9.mono ?_
          rintro e w' ⟨⟨v', rfl, ho⟩, hL', hc'⟩
          obtain ⟨n1, n3, rfl⟩ := ho.form
          exact ⟨⟨n1, n3, rfl⟩, hL'.mono (by omega) (by omega) (Int.le_refl _), hc'⟩
        have HYes : Hid (∀ (W : World) (v : Value), Live w 500 4000 50 W sb (srvT ⟨G0, G1, G2, G3, G4, 0, G6, G7, 100000, G9⟩ T) -> RdB W v (helloL id (tokenL G9 a G7) []) -> T <= G7 -> Calls Tryz.prog 20 #[.pointer (some ⟨sb, 0, none⟩), .int .i64 a, v] W fun e w' => (∃ n1 n3, e = .returned (.slice n1 1 n3)) /\ (∃ got sent, Live w 600 5000 60 w' sb ⟨⟨G0, G1, G2, G3, G4, 0, G6, G7, 100000, G9⟩, T, [conT ⟨G0, G1, G2, G3, G4, 0, G6, G7, 100000, G9⟩ T a id got sent], 1⟩) /\ Chg (SF w W) W w') := by
          intro W v hL hR hT
          have hgd : goodS ⟨G0, G1, G2, G3, G4, 0, G6, G7, 100000, G9⟩ T a (tokenL G9 a G7) = true := by
            have := tok_good (g := ⟨G0, G1, G2, G3, G4, 0, G6, G7, 100000, G9⟩) (T := T) (a := a) (t := G7) ⟨by omega, by omega⟩
            rw [this]
            exact decide_eq_true hT
          obtain ⟨gn, gs, B, hy⟩ := tok_yes HOk.out rfl (T := T) (a := a) (id := id) ra ⟨rc.1, by omega⟩ hjl hgd
          have h9 := hL.receive HE.out a hR (by omega) (by decide) (by omega) (by omega)
          rw [hy] at h9
          refine h9.mono ?_
          rintro e w' ⟨⟨v', rfl, ho⟩, hL', hc'⟩
          obtain ⟨n1, n3, rfl⟩ := ho.form
          exact ⟨⟨n1, n3, rfl⟩, ⟨gn, gs, hL'.mono (by omega) (by omega) (by decide)⟩, hc'⟩
        clear HE HOk HOkg hlt
        go_wp2_with fail
        refine (HPo.out _).mono ?_
        rintro e w19 ⟨rfl, rfl⟩
        clear HPo
        go_wp2_with fail
        refine (HHt.out _ HT18.out).mono ?_
        rintro e w19 ⟨n1, n2, n3, rfl, hR19, hb19⟩
        have HL19 := hideIt (HL18.out.below hb19)
        have HT19 := hideIt (HT18.out.below hb19)
        have HX19 := hideIt (box_below HX18.out hb19)
        have HR19 := hideIt hR19
        clear hb19 hR19 HL18 HT18 HX18
        go_wp2_with fail
        by_cases hT : T <= G7
        . have hTb : ¬ G7 < T := by omega
          by_cases hba : b = a
          . subst hba
            have hbb : (b != b) = false := by simp
            refine (HYes.out _ _ (HL19.out.mono (by decide) (by decide) (by decide)) HR19.out hT).mono ?_
            rintro e w20 ⟨⟨y1, y3, rfl⟩, ⟨gn, gs, hL20⟩, hc20⟩
            have HL20 := hideIt hL20
            have HX20 := hideIt (box_sf HX19.out (by simp [SrvT]) hc20)
            clear hL20 hc20 HYes HNot HHt HT19 HX19 HL19 HR19
            obtain ⟨a, rfl⟩ : ∃ a, a = b := ⟨_, rfl⟩
            obtain ⟨s2, r1, r2, r3, r4, r5, hac, hlo⟩ := tok_accept2 ⟨G0, G1, G2, G3, G4, 0, G6, G7, 100000, G9⟩ T a id gn gs
            have HAc := hideIt HL20.out.accept
            rw [hac] at HAc
            go_wp2_with fail
            refine HAc.out.mono ?_
            rintro e w30 ⟨rfl, hL30, hc30⟩
            have x30 := box_sf HX20.out (by simp [SrvT]) hc30
            have l7 : w30.cell? ⟨w2.heap.size, 7, none⟩ = some (.int .i64 G7) := box_cells x30 7
            have HLk := hideIt (hL30.look id ⟨by omega, by omega⟩)
            rw [hlo] at HLk
            have HBf := hideIt hL30.bel
            clear hL30 hc30 x30 HAc hac hlo
            go_wp2_with fail
            refine HLk.out.mono ?_
            rintro e w31 ⟨rfl, hb31⟩
            have HB31 := hideIt (below_join HBf.out (below_join hb31 (below_alloc w31 (.cells #[.bool true, .int .i64 r1, .int .i64 r2, .int .i64 r3, .int .i64 r4, .int .i64 r5] 34))))
            clear hb31 HLk l7
            go_wp2_with fail
            go_ret
            exact ⟨rfl, HB31.out⟩
          . have hbb : (b != a) = true := by simp [hba]
            refine (HNot.out _ _ b 200 1000 20 (by decide) (by decide) (by decide) HL19.out HR19.out (tok_other hba)).mono ?_
            rintro e w20 ⟨⟨y1, y3, rfl⟩, hL20, hc20⟩
            have HL20 := hideIt hL20
            have HT20 := hideIt (HT19.out.sf hc20)
            have HX20 := hideIt (box_sf HX19.out (by simp [SrvT]) hc20)
            clear hL20 hc20 HT19 HX19 HL19 HR19
            go_wp2_with fail
            refine (HHt.out _ HT20.out).mono ?_
            rintro e w21 ⟨n1, n2, n3, rfl, hR21, hb21⟩
            have HL21 := hideIt (HL20.out.below hb21)
            have HX21 := hideIt (box_below HX20.out hb21)
            have HR21 := hideIt hR21
            clear hb21 hR21 HL20 HT20 HX20
            go_wp2_with fail
            refine (HYes.out _ _ (HL21.out.mono (by decide) (by decide) (by decide)) HR21.out hT).mono ?_
            rintro e w22 ⟨⟨y1, y3, rfl⟩, ⟨gn, gs, hL22⟩, hc22⟩
            have HL22 := hideIt hL22
            have HX22 := hideIt (box_sf HX21.out (by simp [SrvT]) hc22)
            clear hL22 hc22 HYes HNot HHt HX21 HL21 HR21
            obtain ⟨s2, r1, r2, r3, r4, r5, hac, hlo⟩ := tok_accept2 ⟨G0, G1, G2, G3, G4, 0, G6, G7, 100000, G9⟩ T a id gn gs
            have HAc := hideIt HL22.out.accept
            rw [hac] at HAc
            go_wp2_with fail
            refine HAc.out.mono ?_
            rintro e w30 ⟨rfl, hL30, hc30⟩
            have x30 := box_sf HX22.out (by simp [SrvT]) hc30
            have l7 : w30.cell? ⟨w2.heap.size, 7, none⟩ = some (.int .i64 G7) := box_cells x30 7
            have HLk := hideIt (hL30.look id ⟨by omega, by omega⟩)
            rw [hlo] at HLk
            have HBf := hideIt hL30.bel
            clear hL30 hc30 x30 HAc hac hlo
            go_wp2_with fail
            refine HLk.out.mono ?_
            rintro e w31 ⟨rfl, hb31⟩
            have HB31 := hideIt (below_join HBf.out (below_join hb31 (below_alloc w31 (.cells #[.bool true, .int .i64 r1, .int .i64 r2, .int .i64 r3, .int .i64 r4, .int .i64 r5] 34))))
            clear hb31 HLk l7
            go_wp2_with fail
            go_ret
            exact ⟨rfl, HB31.out⟩
        . have hTb : G7 < T := by omega
          have hgn : goodS ⟨G0, G1, G2, G3, G4, 0, G6, G7, 100000, G9⟩ T a (tokenL G9 a G7) = false := by
            have := tok_good (g := ⟨G0, G1, G2, G3, G4, 0, G6, G7, 100000, G9⟩) (T := T) (a := a) (t := G7) ⟨by omega, by omega⟩
            rw [this]
            exact decide_eq_false hT
          by_cases hba : b = a
          . subst hba
            have hbb : (b != b) = false := by simp
            refine (HNot.out _ _ b 200 1000 20 (by decide) (by decide) (by decide) HL19.out HR19.out hgn).mono ?_
            rintro e w20 ⟨⟨y1, y3, rfl⟩, hL20, hc20⟩
            have HL20 := hideIt hL20
            have HX20 := hideIt (box_sf HX19.out (by simp [SrvT]) hc20)
            clear hL20 hc20 HYes HNot HHt HT19 HX19 HL19 HR19
            have x20 := HX20.out
            have l7 : w20.cell? ⟨w2.heap.size, 7, none⟩ = some (.int .i64 G7) := box_cells x20 7
            have HAc := hideIt HL20.out.accept
            rw [tok_accept0] at HAc
            clear x20 l7
            go_wp2_with fail
            refine HAc.out.mono ?_
            rintro e w30 ⟨rfl, hL30, hc30⟩
            have x30 := box_sf HX20.out (by simp [SrvT]) hc30
            have l7 : w30.cell? ⟨w2.heap.size, 7, none⟩ = some (.int .i64 G7) := box_cells x30 7
            have HBf := hideIt hL30.bel
            clear hL30 hc30 x30 HAc
            go_wp2_with fail
            go_ret
            exact ⟨rfl, HBf.out⟩
          . have hbb : (b != a) = true := by simp [hba]
            refine (HNot.out _ _ b 200 1000 20 (by decide) (by decide) (by decide) HL19.out HR19.out (tok_other hba)).mono ?_
            rintro e w20 ⟨⟨y1, y3, rfl⟩, hL20, hc20⟩
            have HL20 := hideIt hL20
            have HT20 := hideIt (HT19.out.sf hc20)
            have HX20 := hideIt (box_sf HX19.out (by simp [SrvT]) hc20)
            clear hL20 hc20 HT19 HX19 HL19 HR19
            go_wp2_with fail
            refine (HHt.out _ HT20.out).mono ?_
            rintro e w21 ⟨n1, n2, n3, rfl, hR21, hb21⟩
            have HL21 := hideIt (HL20.out.below hb21)
            have HX21 := hideIt (box_below HX20.out hb21)
            have HR21 := hideIt hR21
            clear hb21 hR21 HL20 HT20 HX20
            go_wp2_with fail
            refine (HNot.out _ _ a 240 1200 22 (by decide) (by decide) (by decide) HL21.out HR21.out hgn).mono ?_
            rintro e w22 ⟨⟨y1, y3, rfl⟩, hL22, hc22⟩
            have HL22 := hideIt hL22
            have HX22 := hideIt (box_sf HX21.out (by simp [SrvT]) hc22)
            clear hL22 hc22 HYes HNot HHt HX21 HL21 HR21
            have x22 := HX22.out
            have HAc := hideIt HL22.out.accept
            rw [tok_accept0] at HAc
            clear x22
            go_wp2_with fail
            refine HAc.out.mono ?_
            rintro e w30 ⟨rfl, hL30, hc30⟩
            have x30 := box_sf HX22.out (by simp [SrvT]) hc30
            have l7 : w30.cell? ⟨w2.heap.size, 7, none⟩ = some (.int .i64 G7) := box_cells x30 7
            have HBf := hideIt hL30.bel
            clear hL30 hc30 x30 HAc
            go_wp2_with fail
            go_ret
            exact ⟨rfl, HBf.out⟩
end Go.Proofs.YthmdjhlhodpbhaaGreatDoor
namespace Go.Proofs.YthmdjhlhodpbhaaGreatDoor
open Go.RowKit Go.Deep Go.ChangeShapes Go.WideShapes Go.ChangeAt
theorem kcells_int : Tryz.prog.cellsOf 3 = 1 := by kernel_rfl
theorem kcells_cfg : Tryz.prog.cellsOf 26 = 10 := by kernel_rfl
theorem klen10 {α : Type} {l : List α} (h : l.length = 10) : ∃ x0 x1 x2 x3 x4 x5 x6 x7 x8 x9 : α, l = [x0, x1, x2, x3, x4, x5, x6, x7, x8, x9] := by
  match l, h with
  | [x0, x1, x2, x3, x4, x5, x6, x7, x8, x9], _ => exact ⟨x0, x1, x2, x3, x4, x5, x6, x7, x8, x9, rfl⟩
section
variable {H : Type} {enc : TypeId × Value -> H} {w : World} {spare : Nat -> Bool} {held : Bool}
theorem kint_of_trod {n : Nat} {x : Value} {xs : List (DataW H × List MemPlace)} {i : Nat} (hi : i < xs.length) (h : DataW.trod enc Tryz.prog w 0 spare held n 3 [x] = xs[i]?) : ∃ c, x = .int .i64 c /\ -9223372036854775808 <= c /\ c <= 9223372036854775807 := by
  rw [List.getElem?_eq_getElem hi] at h
  obtain ⟨c, e, _, hwf⟩ := DataW.trod_int Tryz.underlying3 h
  simp only [List.cons.injEq, and_true] at e
  exact ⟨c, e, bounds_i64 hwf⟩
theorem kcfg_of_trod {n : Nat} {cs : List Value} {x : DataW H × List MemPlace} (h : DataW.trod enc Tryz.prog w 0 spare held n 26 cs = some x) : ∃ g : Cfg, cs = (cfgC g).toList /\ CfgRaw g := by
  obtain ⟨xs, m, _, _, hl, hlen, hf⟩ := DataW.trod_struct Tryz.underlying26 h
  have hlen' : xs.length = 10 := hlen
  rw [kcells_cfg] at hl
  obtain ⟨x0, x1, x2, x3, x4, x5, x6, x7, x8, x9, rfl⟩ := klen10 hl
  have g0 : DataW.trod enc Tryz.prog w 0 spare held m 3 ((List.drop 0 [x0, x1, x2, x3, x4, x5, x6, x7, x8, x9]).take (Tryz.prog.cellsOf 3)) = xs[0]? := hf 0 _ rfl
  rw [kcells_int] at g0
  obtain ⟨c0, rfl, r0⟩ := kint_of_trod (xs := xs) (i := 0) (by omega) (by simpa using g0)
  have g1 : DataW.trod enc Tryz.prog w 0 spare held m 3 ((List.drop 1 [.int .i64 c0, x1, x2, x3, x4, x5, x6, x7, x8, x9]).take (Tryz.prog.cellsOf 3)) = xs[1]? := hf 1 _ rfl
  rw [kcells_int] at g1
  obtain ⟨c1, rfl, r1⟩ := kint_of_trod (xs := xs) (i := 1) (by omega) (by simpa using g1)
  have g2 : DataW.trod enc Tryz.prog w 0 spare held m 3 ((List.drop 2 [.int .i64 c0, .int .i64 c1, x2, x3, x4, x5, x6, x7, x8, x9]).take (Tryz.prog.cellsOf 3)) = xs[2]? := hf 2 _ rfl
  rw [kcells_int] at g2
  obtain ⟨c2, rfl, r2⟩ := kint_of_trod (xs := xs) (i := 2) (by omega) (by simpa using g2)
  have g3 : DataW.trod enc Tryz.prog w 0 spare held m 3 ((List.drop 3 [.int .i64 c0, .int .i64 c1, .int .i64 c2, x3, x4, x5, x6, x7, x8, x9]).take (Tryz.prog.cellsOf 3)) = xs[3]? := hf 3 _ rfl
  rw [kcells_int] at g3
  obtain ⟨c3, rfl, r3⟩ := kint_of_trod (xs := xs) (i := 3) (by omega) (by simpa using g3)
  have g4 : DataW.trod enc Tryz.prog w 0 spare held m 3 ((List.drop 4 [.int .i64 c0, .int .i64 c1, .int .i64 c2, .int .i64 c3, x4, x5, x6, x7, x8, x9]).take (Tryz.prog.cellsOf 3)) = xs[4]? := hf 4 _ rfl
  rw [kcells_int] at g4
  obtain ⟨c4, rfl, r4⟩ := kint_of_trod (xs := xs) (i := 4) (by omega) (by simpa using g4)
  have g5 : DataW.trod enc Tryz.prog w 0 spare held m 3 ((List.drop 5 [.int .i64 c0, .int .i64 c1, .int .i64 c2, .int .i64 c3, .int .i64 c4, x5, x6, x7, x8, x9]).take (Tryz.prog.cellsOf 3)) = xs[5]? := hf 5 _ rfl
  rw [kcells_int] at g5
  obtain ⟨c5, rfl, r5⟩ := kint_of_trod (xs := xs) (i := 5) (by omega) (by simpa using g5)
  have g6 : DataW.trod enc Tryz.prog w 0 spare held m 3 ((List.drop 6 [.int .i64 c0, .int .i64 c1, .int .i64 c2, .int .i64 c3, .int .i64 c4, .int .i64 c5, x6, x7, x8, x9]).take (Tryz.prog.cellsOf 3)) = xs[6]? := hf 6 _ rfl
  rw [kcells_int] at g6
  obtain ⟨c6, rfl, r6⟩ := kint_of_trod (xs := xs) (i := 6) (by omega) (by simpa using g6)
  have g7 : DataW.trod enc Tryz.prog w 0 spare held m 3 ((List.drop 7 [.int .i64 c0, .int .i64 c1, .int .i64 c2, .int .i64 c3, .int .i64 c4, .int .i64 c5, .int .i64 c6, x7, x8, x9]).take (Tryz.prog.cellsOf 3)) = xs[7]? := hf 7 _ rfl
  rw [kcells_int] at g7
  obtain ⟨c7, rfl, r7⟩ := kint_of_trod (xs := xs) (i := 7) (by omega) (by simpa using g7)
  have g8 : DataW.trod enc Tryz.prog w 0 spare held m 3 ((List.drop 8 [.int .i64 c0, .int .i64 c1, .int .i64 c2, .int .i64 c3, .int .i64 c4, .int .i64 c5, .int .i64 c6, .int .i64 c7, x8, x9]).take (Tryz.prog.cellsOf 3)) = xs[8]? := hf 8 _ rfl
  rw [kcells_int] at g8
  obtain ⟨c8, rfl, r8⟩ := kint_of_trod (xs := xs) (i := 8) (by omega) (by simpa using g8)
  have g9 : DataW.trod enc Tryz.prog w 0 spare held m 3 ((List.drop 9 [.int .i64 c0, .int .i64 c1, .int .i64 c2, .int .i64 c3, .int .i64 c4, .int .i64 c5, .int .i64 c6, .int .i64 c7, .int .i64 c8, x9]).take (Tryz.prog.cellsOf 3)) = xs[9]? := hf 9 _ rfl
  rw [kcells_int] at g9
  obtain ⟨c9, rfl, r9⟩ := kint_of_trod (xs := xs) (i := 9) (by omega) (by simpa using g9)
  exact ⟨⟨c0, c1, c2, c3, c4, c5, c6, c7, c8, c9⟩, rfl, ⟨r0, r1, r2, r3, r4, r5, r6, r7, r8, r9⟩⟩
end
end Go.Proofs.YthmdjhlhodpbhaaGreatDoor
