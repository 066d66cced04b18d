/- Breached, part 38 -/
import Derived.BigRegion
import Derived.Deep.RegionHeld3
import Derived.Deep.CutRange
import Derived.Deep.CutBlock
import Derived.ProofKit
import Derived.Deep.Slices
import Derived.SizedLaws
import Derived.OpenShut
import Derived.Test.YthmdjhlhodpbhaaGreatDoorB11
import Derived.Test.YthmdjhlhodpbhaaGreatDoorB33
import Derived.Test.YthmdjhlhodpbhaaGreatDoorB37
namespace Go.Proofs.YthmdjhlhodpbhaaGreatDoor
open Go.RowKit
def clientC (sb : Nat) (g : Cfg) : Array Value := #[.pointer (some ⟨sb, 0, none⟩), .int .i64 g.c0, .int .i64 g.c1, .int .i64 g.c2, .int .i64 g.c3, .int .i64 g.c4, .int .i64 g.c5, .int .i64 g.c6, .int .i64 g.c7, .int .i64 g.c8, .int .i64 g.c9, .bool true, .int .i64 g.c1, .slice none 0 0, .int .i64 g.c3, .slice none 0 0, .slice none 0 0, .slice none 0 0, .slice none 0 0, .slice none 0 0, .int .i64 0, .slice none 0 0]
theorem right_tok {g : Cfg} (h : g.right = true) (a t : Int) (ha : betw a 0 255 = true) (ht : betw t 0 4294967295 = true) : tokE g.c0 g.c1 g.c2 g.c3 g.c4 g.c5 g.c6 g.c7 g.c8 g.c9 a t = 0 := by
  have hc : cfgE g.c0 g.c1 g.c2 g.c3 g.c4 g.c5 g.c6 g.c7 g.c8 g.c9 = 0 := by
    unfold cfgE
    rw [if_pos (show rightB g.c0 g.c1 g.c2 g.c3 g.c4 g.c5 g.c6 g.c7 g.c8 g.c9 = true from h)]
  unfold tokE orE
  rw [hc, argE_yes ha, argE_yes ht]
  rfl
structure ConnOut (w : World) (raw : Cfg) (e : Ending) (w' : World) : Prop where
  ex : ∃ sb xb got sent, e = .returned (.pointer (some ⟨xb, 0, none⟩)) /\ Live w 100 1000 100 w' sb (srvA (keepC raw) (conA (keepC raw) got sent [] (List.replicate (keepC raw).c3.toNat (strNew (keepC raw).c2)))) /\ w'.heap[xb]? = some (.cells (clientC sb (keepC raw)) 42 (0, 0)) /\ w.heap.size <= xb
  bel : Below w.heap.size w w'
set_option maxHeartbeats 8000000 in
set_option maxRecDepth 8000 in
theorem kconnected_any (raw : Cfg) (w : World) (hE : Env w) (hraw : CfgRaw raw) : Calls Tryz.prog 13 #[.agg (cfgC raw)] w fun e w' => ConnOut w raw e w' := by
  have hb0 : Below w.heap.size w (w.alloc (.cells (cfgC raw) 26)) := below_alloc w _
  have HX : Hid ((w.alloc (.cells (cfgC raw) 26)).heap[w.heap.size]? = some (.cells (cfgC raw) 26 (0, 0))) := heap_alloc_new w _
  have HAw := hideIt (kawake_any _ (hE.below hb0))
  have HCf := hideIt (fun W => kconfig_any raw W hraw)
  have hright := keepC_right raw
  have hok := keepC_ok raw
  have h8 : (keepC raw).c8 = 100000 := rfl
  obtain ⟨got, sent, B, h300⟩ := hello300 hok h8
  have HNew := hideIt (fun W (hW : Below w.heap.size w W) => live_new w (keepC raw) hright W hW)
  have HTk := hideIt (fun W => Token_any (keepC raw).c0 (keepC raw).c1 (keepC raw).c2 (keepC raw).c3 (keepC raw).c4 (keepC raw).c5 (keepC raw).c6 (keepC raw).c7 (keepC raw).c8 (keepC raw).c9 1 0 W)
  have htk := right_tok hright 1 0 (by decide) (by decide)
  have htm : tokM (keepC raw).c0 (keepC raw).c1 (keepC raw).c2 (keepC raw).c3 (keepC raw).c4 (keepC raw).c5 (keepC raw).c6 (keepC raw).c7 (keepC raw).c8 (keepC raw).c9 1 0 = tokenL (keepC raw).c9 1 0 := by
    unfold tokM
    rw [htk]
    rfl
  rw [htk, htm, tok_len] at HTk
  have E0 : ∀ (sb : Nat) (W : World), (binOp .eql 37 (.pointer (some ⟨sb, 0, none⟩)) (.pointer none)).run Tryz.prog W = .ok (.bool false) W := fun sb W => by kernel_rfl
  have HE := hideIt hE
  have HB0 := hideIt hb0
  have hcfg : cfgC (cfgN raw) = #[.int .i64 (keepC raw).c0, .int .i64 (keepC raw).c1, .int .i64 (keepC raw).c2, .int .i64 (keepC raw).c3, .int .i64 (keepC raw).c4, .int .i64 (keepC raw).c5, .int .i64 (keepC raw).c6, .int .i64 (keepC raw).c7, .int .i64 (cfgN raw).c8, .int .i64 (keepC raw).c9] := rfl
  rw [hcfg] at HCf
  have hlen : (helloL 300 (tokenL (keepC raw).c9 1 0) []).length = 13 := by simp [helloL, tok_len, putL]
  have H300 := hideIt h300
  generalize hk8 : (cfgN raw).c8 = k8 at *
  clear hk8
  have HFin : Hid (∀ (w' : World) (sb xb : Nat), Live w 100 1000 100 w' sb (receiveS (srvNew (keepC raw)) 1 (helloL 300 (tokenL (keepC raw).c9 1 0) [])).1 -> w'.heap[xb]? = some (.cells (clientC sb (keepC raw)) 42 (0, 0)) -> w.heap.size <= xb -> ConnOut w raw (.returned (.pointer (some ⟨xb, 0, none⟩))) w') := by
    intro w' sb xb hL hx hxb
    rw [H300.out] at hL
    exact ⟨⟨sb, xb, got, sent, rfl, hL, hx, hxb⟩, hL.bel⟩
  have HOut : Hid (∀ (w' : World) (b : Nat) (v : Value), OutsAt w' b v (receiveS (srvNew (keepC raw)) 1 (helloL 300 (tokenL (keepC raw).c9 1 0) [])).2 -> ∃ ao cap, v = .slice ao 1 cap) := by
    intro w' b v ho
    rw [H300.out] at ho
    exact ho.form
  unfold clientC at HFin
  generalize hG : keepC raw = G at *
  obtain ⟨G0, G1, G2, G3, G4, G5, G6, G7, G8, G9⟩ := G
  simp only at *
  subst h8
  have HHe := hideIt (fun W (tv : Value) (ht : RdB W tv (tokenL G9 1 0)) => khello_any 300 (tokenL G9 1 0) [] tv (.slice none 0 0) W (by decide) ht (RdB.nil _) (by rw [tok_len]; decide) (by decide))
  clear hE hb0 hright hok h300 htk htm hcfg H300 hG hraw
  unfold cfgC at HX HCf ⊢
  go_enter Tryz.func13, Tryz.ntmps13
  go_wp2_with fail
  refine HAw.out.mono ?_
  rintro e w1 ⟨rfl, hb1⟩
  have x1 := box_below HX.out hb1
  have r0 : w1.cell? ⟨w.heap.size, 0, none⟩ = some (.int .i64 raw.c0) := box_cells x1 0
  have r1 : w1.cell? ⟨w.heap.size, 1, none⟩ = some (.int .i64 raw.c1) := box_cells x1 1
  have r2 : w1.cell? ⟨w.heap.size, 2, none⟩ = some (.int .i64 raw.c2) := box_cells x1 2
  have r3 : w1.cell? ⟨w.heap.size, 3, none⟩ = some (.int .i64 raw.c3) := box_cells x1 3
  have r4 : w1.cell? ⟨w.heap.size, 4, none⟩ = some (.int .i64 raw.c4) := box_cells x1 4
  have r5 : w1.cell? ⟨w.heap.size, 5, none⟩ = some (.int .i64 raw.c5) := box_cells x1 5
  have r6 : w1.cell? ⟨w.heap.size, 6, none⟩ = some (.int .i64 raw.c6) := box_cells x1 6
  have r7 : w1.cell? ⟨w.heap.size, 7, none⟩ = some (.int .i64 raw.c7) := box_cells x1 7
  have r8 : w1.cell? ⟨w.heap.size, 8, none⟩ = some (.int .i64 raw.c8) := box_cells x1 8
  have r9 : w1.cell? ⟨w.heap.size, 9, none⟩ = some (.int .i64 raw.c9) := box_cells x1 9
  have HB1 := hideIt (below_join HB0.out hb1)
  clear x1 hb1 HB0 HX HAw
  go_wp2_with fail
  refine (HCf.out w1).mono ?_
  rintro e w2 ⟨rfl, hb2⟩
  have HB2 := hideIt (below_join HB1.out hb2)
  clear hb2 HB1 HCf r0 r1 r2 r3 r4 r5 r6 r7 r8 r9
  go_wp2_with fail
  have hb3 : Below w2.heap.size w2 (w2.alloc (.cells #[.int .i64 G0, .int .i64 G1, .int .i64 G2, .int .i64 G3, .int .i64 G4, .int .i64 G5, .int .i64 G6, .int .i64 G7, .int .i64 100000, .int .i64 G9] 26)) := below_alloc w2 _
  have x3 : (w2.alloc (.cells #[.int .i64 G0, .int .i64 G1, .int .i64 G2, .int .i64 G3, .int .i64 G4, .int .i64 G5, .int .i64 G6, .int .i64 G7, .int .i64 100000, .int .i64 G9] 26)).heap[w2.heap.size]? = some (.cells #[.int .i64 G0, .int .i64 G1, .int .i64 G2, .int .i64 G3, .int .i64 G4, .int .i64 G5, .int .i64 G6, .int .i64 G7, .int .i64 100000, .int .i64 G9] 26 (0, 0)) := heap_alloc_new w2 _
  refine (HNew.out _ (below_join HB2.out hb3)).mono ?_
  rintro e w4 ⟨⟨sb, rfl, hL4⟩, hb4⟩
  have x4 := box_below x3 hb4
  have HL4 := hideIt hL4
  have c0 : w4.cell? ⟨w2.heap.size, 0, none⟩ = some (.int .i64 G0) := box_cells x4 0
  have c1 : w4.cell? ⟨w2.heap.size, 1, none⟩ = some (.int .i64 G1) := box_cells x4 1
  have c2 : w4.cell? ⟨w2.heap.size, 2, none⟩ = some (.int .i64 G2) := box_cells x4 2
  have c3 : w4.cell? ⟨w2.heap.size, 3, none⟩ = some (.int .i64 G3) := box_cells x4 3
  have c4 : w4.cell? ⟨w2.heap.size, 4, none⟩ = some (.int .i64 G4) := box_cells x4 4
  have c5 : w4.cell? ⟨w2.heap.size, 5, none⟩ = some (.int .i64 G5) := box_cells x4 5
  have c6 : w4.cell? ⟨w2.heap.size, 6, none⟩ = some (.int .i64 G6) := box_cells x4 6
  have c7 : w4.cell? ⟨w2.heap.size, 7, none⟩ = some (.int .i64 G7) := box_cells x4 7
  have c8 : w4.cell? ⟨w2.heap.size, 8, none⟩ = some (.int .i64 100000) := box_cells x4 8
  have c9 : w4.cell? ⟨w2.heap.size, 9, none⟩ = some (.int .i64 G9) := box_cells x4 9
  have HX4 := hideIt x4
  clear hb3 x3 hL4 hb4 x4 HNew HB2
  go_wp2_with fail
  refine (HTk.out w4).mono ?_
  rintro e w5 ⟨tv, rfl, ht, hb5⟩
  obtain ⟨t1, t2, rfl⟩ := own_form ht
  have x5 := box_below HX4.out hb5
  have HL5 := hideIt (HL4.out.below hb5)
  have HT5 := hideIt ht
  clear ht hb5 HTk HX4 HL4 c0 c1 c2 c3 c4 c5 c6 c7 c8 c9
  have c0 : w5.cell? ⟨w2.heap.size, 0, none⟩ = some (.int .i64 G0) := box_cells x5 0
  have c1 : w5.cell? ⟨w2.heap.size, 1, none⟩ = some (.int .i64 G1) := box_cells x5 1
  have c2 : w5.cell? ⟨w2.heap.size, 2, none⟩ = some (.int .i64 G2) := box_cells x5 2
  have c3 : w5.cell? ⟨w2.heap.size, 3, none⟩ = some (.int .i64 G3) := box_cells x5 3
  have c4 : w5.cell? ⟨w2.heap.size, 4, none⟩ = some (.int .i64 G4) := box_cells x5 4
  have c5 : w5.cell? ⟨w2.heap.size, 5, none⟩ = some (.int .i64 G5) := box_cells x5 5
  have c6 : w5.cell? ⟨w2.heap.size, 6, none⟩ = some (.int .i64 G6) := box_cells x5 6
  have c7 : w5.cell? ⟨w2.heap.size, 7, none⟩ = some (.int .i64 G7) := box_cells x5 7
  have c8 : w5.cell? ⟨w2.heap.size, 8, none⟩ = some (.int .i64 100000) := box_cells x5 8
  have c9 : w5.cell? ⟨w2.heap.size, 9, none⟩ = some (.int .i64 G9) := box_cells x5 9
  clear x5
  have hb6 : Below w5.heap.size w5 (w5.alloc (.cells #[.pointer (some ⟨sb, 0, none⟩), .int .i64 G0, .int .i64 G1, .int .i64 G2, .int .i64 G3, .int .i64 G4, .int .i64 G5, .int .i64 G6, .int .i64 G7, .int .i64 100000, .int .i64 G9, .bool true, .int .i64 G1, .slice none 0 0, .int .i64 G3, .slice none 0 0, .slice none 0 0, .slice none 0 0, .slice none 0 0, .slice none 0 0, .int .i64 0, .slice none 0 0] 42)) := below_alloc w5 _
  have x6 : (w5.alloc (.cells #[.pointer (some ⟨sb, 0, none⟩), .int .i64 G0, .int .i64 G1, .int .i64 G2, .int .i64 G3, .int .i64 G4, .int .i64 G5, .int .i64 G6, .int .i64 G7, .int .i64 100000, .int .i64 G9, .bool true, .int .i64 G1, .slice none 0 0, .int .i64 G3, .slice none 0 0, .slice none 0 0, .slice none 0 0, .slice none 0 0, .slice none 0 0, .int .i64 0, .slice none 0 0] 42)).heap[w5.heap.size]? = some (.cells #[.pointer (some ⟨sb, 0, none⟩), .int .i64 G0, .int .i64 G1, .int .i64 G2, .int .i64 G3, .int .i64 G4, .int .i64 G5, .int .i64 G6, .int .i64 G7, .int .i64 100000, .int .i64 G9, .bool true, .int .i64 G1, .slice none 0 0, .int .i64 G3, .slice none 0 0, .slice none 0 0, .slice none 0 0, .slice none 0 0, .slice none 0 0, .int .i64 0, .slice none 0 0] 42 (0, 0)) := heap_alloc_new w5 _
  have HX6 := hideIt x6
  have HH6 := hideIt (HHe.out (w5.alloc (.cells #[.pointer (some ⟨sb, 0, none⟩), .int .i64 G0, .int .i64 G1, .int .i64 G2, .int .i64 G3, .int .i64 G4, .int .i64 G5, .int .i64 G6, .int .i64 G7, .int .i64 100000, .int .i64 G9, .bool true, .int .i64 G1, .slice none 0 0, .int .i64 G3, .slice none 0 0, .slice none 0 0, .slice none 0 0, .slice none 0 0, .slice none 0 0, .int .i64 0, .slice none 0 0] 42)) (.slice t1 9 t2) (RdB.of_own (own_below HT5.out hb6) (tokenL_bytes _ _ _ (by decide) (by decide)) (by rw [tok_len]; decide)))
  have HL6 := hideIt (HL5.out.below hb6)
  have HS5 := hideIt (HL5.out.bel.size)
  clear hb6 x6 HHe HT5 HL5
  go_wp2_with fail
  refine HH6.out.mono ?_
  rintro e w7 ⟨hv, rfl, hh, hb7⟩
  obtain ⟨h1, h2, rfl⟩ := own_form hh
  rw [hlen] at hh ⊢
  have HRc := hideIt ((HL6.out.below hb7).receive HE.out 1 (RdB.of_own hh (helloL_bytes (by decide) (tokenL_bytes _ _ _ (by decide) (by decide)) Bytes.nil (by rw [tok_len]; decide)) (by rw [hlen]; decide)) (by rw [hlen]; decide) (by decide) (by rw [hlen]; decide) (by rw [hlen]; decide))
  have HX7 := hideIt (box_below HX6.out hb7)
  clear hh hb7 HH6 HL6 HX6 c0 c1 c2 c3 c4 c5 c6 c7 c8 c9
  go_wp2_with fail
  refine HRc.out.mono ?_
  rintro e w8 ⟨⟨v8, rfl, ho8⟩, hL8, hc8⟩
  obtain ⟨o1, o2, rfl⟩ := HOut.out _ _ _ ho8
  have HF := hideIt (HFin.out w8 sb w5.heap.size (hL8.mono (by rw [hlen]; decide) (by rw [hlen]; decide) (by decide)) (box_sf HX7.out (by simp [SrvT]) hc8) HS5.out)
  clear ho8 hL8 hc8 HRc HX7 HFin HOut HE HS5
  go_wp2_with fail
  go_ret
  exact HF.out
theorem pieceL_bytes {k st fr tt : Int} (hk : 0 <= k /\ k < 256) (hs : 0 <= st /\ st <= 1073741823) (hf : 0 <= fr /\ fr <= tt) (ht : tt <= 1000000) : Bytes (pieceL k st fr tt) := by
  refine ((((Bytes.cons hk Bytes.nil).append (putL_bytes _ hs.1 hs.2)).append (putL_bytes _ (by omega) (by omega))).append (putL_bytes _ (by omega) (by omega))).append ?_
  intro x hx
  obtain ⟨i, _, rfl⟩ := List.mem_map.1 hx
  exact letterN_byte
theorem pieceL_len {k st fr tt : Int} (hf : 0 <= fr /\ fr <= tt) (ht : tt <= 1000000) : (pieceL k st fr tt).length <= 1000013 := by
  have k1 := putL_length st
  have k2 := putL_length fr
  have k3 := putL_length (tt - fr)
  simp only [pieceL, List.length_append, List.length_cons, List.length_nil, lettersL_len]
  omega
theorem xor_all : ∀ k : Nat, k < 256 -> bits .xor .u8 (k : Int) 1 ≠ (k : Int) /\ 0 <= bits .xor .u8 (k : Int) 1 /\ bits .xor .u8 (k : Int) 1 < 256 := by decide +kernel
theorem xor_letter (st p : Int) : letterN st p ≠ bits .xor .u8 (letterN st p) 1 /\ 0 <= bits .xor .u8 (letterN st p) 1 /\ bits .xor .u8 (letterN st p) 1 < 256 := by
  have h := letterN_byte (st := st) (p := p)
  have q := xor_all (letterN st p).toNat (by omega)
  rw [Int.toNat_of_nonneg h.1] at q
  exact ⟨Ne.symm q.1, q.2⟩
theorem pieceL_len2 {k st fr tt : Int} (hf : 0 <= fr /\ fr <= tt) : ((pieceL k st fr tt).length : Int) <= 13 + (tt - fr) := by
  have k1 := putL_length st
  have k2 := putL_length fr
  have k3 := putL_length (tt - fr)
  simp only [pieceL, List.length_append, List.length_cons, List.length_nil, lettersL_len]
  omega
theorem breachF_len {g : Cfg} (hg : CfgOk g) {q n x' : Int} (hn : 0 <= n /\ n < g.c2) : (breachF g q n x').1.length <= 20000 := by
  have h1 := hg.c1
  have h2 := hg.c2
  have k0 := putL_length n
  unfold breachF
  split
  · have := pieceL_len2 (k := 3) (st := 0) (fr := g.c2) (tt := g.c2 + 1) (by omega); simp only; omega
  · split
    · have := pieceL_len2 (k := 3) (st := g.c3) (fr := 0) (tt := 0) (by omega); simp only; omega
    · split
      · have a1 := pieceL_len2 (k := 3) (st := 0) (fr := 0) (tt := n + 1) (by omega)
        have a2 := pieceL_len2 (k := 3) (st := 0) (fr := n) (tt := n) (by omega)
        simp only [List.length_append, List.length_cons, List.length_nil]
        omega
      · split
        · have a1 := pieceL_len2 (k := 4) (st := 0) (fr := 0) (tt := n) (by omega)
          have a2 := pieceL_len2 (k := 3) (st := 0) (fr := n) (tt := n + 1) (by omega)
          simp only [List.length_append]
          omega
        · have a1 := pieceL_len2 (k := 3) (st := 0) (fr := 0) (tt := n) (by omega)
          simp only [List.length_append, List.length_cons, List.length_nil]
          omega
theorem breachF_code (g : Cfg) (q n x' : Int) : 0 <= (breachF g q n x').2 /\ (breachF g q n x').2 < 64 := by
  unfold breachF
  repeat' split
  all_goals simp
theorem kpiece_rd (k st fr tt : Int) (w : World) (hk : 0 <= k /\ k < 256) (hs : 0 <= st /\ st <= 1073741823) (hf : 0 <= fr /\ fr <= tt) (ht : tt <= 1000000) :
    Calls Tryz.prog 23 #[.int .i64 k, .int .i64 st, .int .i64 fr, .int .i64 tt] w fun e w' => ∃ ao l cap, e = .returned (.slice ao l cap) /\ RdB w' (.slice ao l cap) (pieceL k st fr tt) /\ Below w.heap.size w w' := by
  refine (kpiece_any k st fr tt w hk hs hf ht).mono ?_
  rintro e w' ⟨v, rfl, ho, hb⟩
  obtain ⟨ao, cap, rfl⟩ := own_form ho
  exact ⟨_, _, _, rfl, RdB.of_own ho (pieceL_bytes hk hs hf ht) (by have := pieceL_len (k := k) (st := st) hf ht; omega), hb⟩
theorem kjoin2 (v1 v2 : Value) (l1 l2 : List Int) (w : World) (h1 : RdB w v1 l1) (h2 : RdB w v2 l2) (hl : l1.length + l2.length <= 100000000) :
    Calls Tryz.prog 32 #[.slice (some ⟨w.heap.size, 0, none⟩) 2 2] (w.alloc (.cells #[v1, v2] 44)) fun e w' => ∃ ao l cap, e = .returned (.slice ao l cap) /\ RdB w' (.slice ao l cap) (l1 ++ l2) /\ Below w.heap.size w w' := by
  have hb := below_alloc w (.cells #[v1, v2] 44)
  have e : joinL [(v1, l1), (v2, l2)] = l1 ++ l2 := by simp [joinL]
  have h9 := kjoined_any [(v1, l1), (v2, l2)] w.heap.size 2 (w.alloc (.cells #[v1, v2] 44)) (fun j p hj => ?_) (fun p hp => ?_) (by simp) (by rw [e, List.length_append]; omega)
  · rw [e] at h9
    refine h9.mono ?_
    rintro e' w' ⟨v, rfl, ho, hbl⟩
    obtain ⟨ao, cap, rfl⟩ := own_form ho
    exact ⟨_, _, _, rfl, RdB.of_own ho (h1.1.append h2.1) (by rw [List.length_append]; omega), below_join hb hbl⟩
  · match j with
    | 0 => simp only [List.getElem?_cons_zero, Option.some.injEq] at hj; subst hj; simp
    | 1 => simp only [List.getElem?_cons_succ, List.getElem?_cons_zero, Option.some.injEq] at hj; subst hj; simp
    | j + 2 => simp at hj
  · simp only [List.mem_cons, List.not_mem_nil, or_false] at hp
    rcases hp with rfl | rfl
    · exact h1.below hb
    · exact h2.below hb
theorem kjoin4 (v1 v2 v3 v4 : Value) (l1 l2 l3 l4 : List Int) (w : World) (h1 : RdB w v1 l1) (h2 : RdB w v2 l2) (h3 : RdB w v3 l3) (h4 : RdB w v4 l4) (hl : l1.length + l2.length + l3.length + l4.length <= 100000000) :
    Calls Tryz.prog 32 #[.slice (some ⟨w.heap.size, 0, none⟩) 4 4] (w.alloc (.cells #[v1, v2, v3, v4] 44)) fun e w' => ∃ ao l cap, e = .returned (.slice ao l cap) /\ RdB w' (.slice ao l cap) (l1 ++ l2 ++ l3 ++ l4) /\ Below w.heap.size w w' := by
  have hb := below_alloc w (.cells #[v1, v2, v3, v4] 44)
  have e : joinL [(v1, l1), (v2, l2), (v3, l3), (v4, l4)] = l1 ++ l2 ++ l3 ++ l4 := by simp [joinL]
  have h9 := kjoined_any [(v1, l1), (v2, l2), (v3, l3), (v4, l4)] w.heap.size 4 (w.alloc (.cells #[v1, v2, v3, v4] 44)) (fun j p hj => ?_) (fun p hp => ?_) (by simp) (by rw [e]; simp only [List.length_append]; omega)
  · rw [e] at h9
    refine h9.mono ?_
    rintro e' w' ⟨v, rfl, ho, hbl⟩
    obtain ⟨ao, cap, rfl⟩ := own_form ho
    exact ⟨_, _, _, rfl, RdB.of_own ho (((h1.1.append h2.1).append h3.1).append h4.1) (by simp only [List.length_append]; omega), below_join hb hbl⟩
  · match j with
    | 0 => simp only [List.getElem?_cons_zero, Option.some.injEq] at hj; subst hj; simp
    | 1 => simp only [List.getElem?_cons_succ, List.getElem?_cons_zero, Option.some.injEq] at hj; subst hj; simp
    | 2 => simp only [List.getElem?_cons_succ, List.getElem?_cons_zero, Option.some.injEq] at hj; subst hj; simp
    | 3 => simp only [List.getElem?_cons_succ, List.getElem?_cons_zero, Option.some.injEq] at hj; subst hj; simp
    | j + 4 => simp at hj
  · simp only [List.mem_cons, List.not_mem_nil, or_false] at hp
    rcases hp with rfl | rfl | rfl | rfl
    · exact h1.below hb
    · exact h2.below hb
    · exact h3.below hb
    · exact h4.below hb
set_option maxHeartbeats 16000000 in
set_option maxRecDepth 8000 in
theorem kbreached_any (raw : Cfg) (kind p : Int) (w : World) (hE : Env w) (hraw : CfgRaw raw) (hk : -9223372036854775808 <= kind /\ kind <= 9223372036854775807) (hp : -9223372036854775808 <= p /\ p <= 9223372036854775807) :
    Calls Tryz.prog 11 #[.agg (cfgC raw), .int .i64 kind, .int .i64 p] w fun e w' => e = .returned (.bool true) /\ Below w.heap.size w w' := by
  have hb0 : Below w.heap.size w (w.alloc (.cells (cfgC raw) 26)) := below_alloc w _
  have HCn := hideIt (kconnected_any raw (w.alloc (.cells (cfgC raw) 26)) (hE.below hb0) hraw)
  have E0 : ∀ (xb : Nat) (W : World), (binOp .eql 28 (.pointer (some ⟨xb, 0, none⟩)) (.pointer none)).run Tryz.prog W = .ok (.bool false) W := fun xb W => by kernel_rfl
  have hok := keepC_ok raw
  have k1 := hok.c1
  have k2 := hok.c2
  have k3 := hok.c3
  have HPn := hideIt (fun W => kpick_any p (keepC raw).c2 W hp (by omega))
  have hn := pickN_range p (n := (keepC raw).c2) (by omega)
  have HPk := hideIt (fun W => kpick_any kind 5 W hk (by decide))
  have hq := pickN_range kind (n := 5) (by decide)
  generalize pickN p (keepC raw).c2 = n at *
  generalize pickN kind 5 = q at *
  have HE := hideIt (hE.below hb0)
  have HB0 := hideIt hb0
  have HOk := hideIt hok
  clear hE hb0 hraw hk hp hok
  unfold cfgC at HCn HE HB0 ⊢
  go_enter Tryz.func11, Tryz.ntmps11
  go_wp2_with fail
  refine HCn.out.mono ?_
  intro e w1 hC
  obtain ⟨sb, xb, got, sent, rfl, hL, hx, hxb⟩ := hC.ex
  have HL := hideIt hL
  have HX := hideIt hx
  have HB1 := hideIt (below_join HB0.out hC.bel)
  have x0 : w1.cell? ⟨xb, 0, none⟩ = some (.pointer (some ⟨sb, 0, none⟩)) := box_cells hx 0
  have x3 : w1.cell? ⟨xb, 3, none⟩ = some (.int .i64 (keepC raw).c2) := box_cells hx 3
  have x4 : w1.cell? ⟨xb, 4, none⟩ = some (.int .i64 (keepC raw).c3) := box_cells hx 4
  clear hC hL hx HCn HB0
  generalize keepC raw = G at *
  go_wp2_with fail
  refine (HPn.out _).mono ?_
  rintro e w2 ⟨rfl, rfl⟩
  clear HPn
  go_wp2_with fail
  refine (HPk.out _).mono ?_
  rintro e w2 ⟨rfl, rfl⟩
  clear HPk
  go_upto_block 0 with fail
  have hbw : Below w1.heap.size w1 (w1.alloc (.cells #[] 5)) := below_alloc w1 _
  have y0 := cell_below x0 hbw
  have y3 := cell_below x3 hbw
  have y4 := cell_below x4 hbw
  have HBw := hideIt hbw
  generalize w1.alloc (.cells #[] 5) = w2 at *
  clear hbw
  go_cut [9, 10] from 32 to 90 (fun s9 s10 wx => ∃ fa fl fc, s9 = .slice fa fl fc /\ s10 = .int .i64 (breachF G q n (bits .xor .u8 (letterN 0 n) 1)).2 /\ Hid (RdB wx (.slice fa fl fc) (breachF G q n (bits .xor .u8 (letterN 0 n) 1)).1) /\ Below w1.heap.size w1 wx)
  case first =>
    have hq5 : q = 0 \/ q = 1 \/ q = 2 \/ q = 3 \/ q = 4 := by omega
    have HPi := hideIt (fun (k st fr tt : Int) (W : World) (h1 : 0 <= k /\ k < 256) (h2 : 0 <= st /\ st <= 1073741823) (h3 : 0 <= fr /\ fr <= tt) (h4 : tt <= 1000000) => kpiece_rd k st fr tt W h1 h2 h3 h4)
    have HLn := hideIt (fun (k st fr tt : Int) (h3 : 0 <= fr /\ fr <= tt) (h4 : tt <= 1000000) => pieceL_len (k := k) (st := st) h3 h4)
    clear HL HX HE
    rcases hq5 with rfl | rfl | rfl | rfl | rfl
    · have hwr : IntKind.i64.wrap (G.c2 + 1) = G.c2 + 1 := by rw [IntKind.wrap_i64]; omega
      have d3 : w2.drew.cell? ⟨xb, 3, none⟩ = some (.int .i64 G.c2) := y3
      go_wp2_with fail
      go_region_held3 (fun w' => w'.cell? ⟨xb, 3, none⟩ = some (.int .i64 G.c2)) (first | with_reducible assumption | go_keep) (first
        | (go_at_call 23; refine (HPi.out _ _ _ _ _ (by decide) (by decide) (by omega) (by omega)).mono ?_; rintro e w3 ⟨fa, fl, fc, rfl, hrd, hb3⟩; have k3 := cell_below y3 (below_undrew hb3)))
      all_goals
        have HR := hideIt hrd
        have HB3 := hideIt (below_join HBw.out (below_undrew hb3))
        clear hrd hb3 k3
        go_wp2_with fail
        go_meet
        exact ⟨_, _, _, rfl, rfl, HR, HB3.out⟩
    · go_wp2_with fail
      refine (HPi.out _ _ _ _ _ (by decide) (by omega) (by omega) (by omega)).mono ?_
      rintro e w3 ⟨fa, fl, fc, rfl, hrd, hb3⟩
      have HR := hideIt hrd
      have HB3 := hideIt (below_join HBw.out hb3)
      clear hrd hb3
      go_wp2_with fail
      go_meet
      exact ⟨_, _, _, rfl, rfl, HR, HB3.out⟩
    · go_wp2_with fail
      refine (HPi.out _ _ _ _ _ (by decide) (by decide) (by omega) (by omega)).mono ?_
      rintro e w3 ⟨fa, fl, fc, rfl, hrd, hb3⟩
      have HR3 := hideIt hrd
      have HB3 := hideIt (below_join HBw.out hb3)
      clear hrd hb3 HBw
      go_wp2_with fail
      refine (HPi.out _ _ _ _ _ (by decide) (by decide) (by omega) (by omega)).mono ?_
      rintro e w4 ⟨ga, gl, gc, rfl, hrd, hb4⟩
      have HJ := hideIt (kjoin2 _ _ _ _ w4 (HR3.out.below hb4) hrd (by have := HLn.out 3 0 0 (n + 1) (by omega) (by omega); have := HLn.out 3 0 n n (by omega) (by omega); omega))
      have HB4 := hideIt (below_join HB3.out hb4)
      clear hrd hb4 HR3 HB3
      go_wp2_with fail
      refine HJ.out.mono ?_
      rintro e w5 ⟨ja, jl, jc, rfl, hrd, hb5⟩
      have HR5 := hideIt hrd
      have HB5 := hideIt (below_join HB4.out hb5)
      clear hrd hb5 HJ HB4
      have HNu := hideIt (knumber_any n (w5.alloc (.cells #[.int .u8 3, .int .u8 0] 5)) (by omega))
      go_wp2_with fail
      refine HNu.out.mono ?_
      rintro e w6 ⟨v6, rfl, ho6, hb6⟩
      obtain ⟨na, nc, rfl⟩ := own_form ho6
      have HLt := hideIt (kletter_any 0 n w6 (by decide) (by omega))
      go_wp2_with fail
      refine HLt.out.mono ?_
      rintro e w7 ⟨rfl, rfl⟩
      have hb7 : Below w6.heap.size w6 (w6.alloc (.cells #[.int .u8 1, .int .u8 (bits .xor .u8 (letterN 0 n) 1)] 5)) := below_alloc w6 _
      have hb5a : Below w5.heap.size w5 (w5.alloc (.cells #[.int .u8 3, .int .u8 0] 5)) := below_alloc w5 _
      have hxl := xor_letter 0 n
      have HJ := hideIt (kjoin4 (.slice ja jl jc) (.slice (some ⟨w5.heap.size, 0, none⟩) 2 2) (.slice na (putL n).length nc) (.slice (some ⟨w6.heap.size, 0, none⟩) 2 2) _ [3, 0] (putL n) [1, bits .xor .u8 (letterN 0 n) 1] (w6.alloc (.cells #[.int .u8 1, .int .u8 (bits .xor .u8 (letterN 0 n) 1)] 5)) (((HR5.out.below hb5a).below hb6).below hb7) (((RdB.lit w5 [3, 0] (by unfold Bytes; decide) (by decide) (by decide)).below hb6).below hb7) ((RdB.of_own ho6 (putL_bytes _ (by omega) (by omega)) (by have := putL_length n; omega)).below hb7) (RdB.lit w6 [1, bits .xor .u8 (letterN 0 n) 1] (Bytes.cons (by decide) (Bytes.cons hxl.2 Bytes.nil)) (by simp) (by simp)) (by have := HLn.out 3 0 0 (n + 1) (by omega) (by omega); have := HLn.out 3 0 n n (by omega) (by omega); have := putL_length n; simp only [List.length_append, List.length_cons, List.length_nil]; omega))
      have hsz : (w6.alloc (.cells #[.int .u8 1, .int .u8 (bits .xor .u8 (letterN 0 n) 1)] 5)).heap.size = w6.heap.size + 1 := by simp
      rw [hsz] at HJ
      have HSz := hideIt hsz
      clear hsz
      have HB7 := hideIt (below_join (below_join (below_join HB5.out hb5a) hb6) hb7)
      clear ho6 hb6 hb7 hb5a hxl HNu HLt HR5 HB5
      go_wp2_with fail
      refine HJ.out.mono ?_
      rintro e w8 ⟨ka, kl, kc, rfl, hrd, hb8⟩
      have HR8 := hideIt hrd
      rw [<- HSz.out] at hb8
      have HB8 := hideIt (below_join HB7.out hb8)
      clear hrd hb8 HJ HB7
      go_wp2_with fail
      go_meet
      exact ⟨_, _, _, rfl, rfl, HR8, HB8.out⟩
    · go_wp2_with fail
      refine (HPi.out _ _ _ _ _ (by decide) (by decide) (by omega) (by omega)).mono ?_
      rintro e w3 ⟨fa, fl, fc, rfl, hrd, hb3⟩
      have HR3 := hideIt hrd
      have HB3 := hideIt (below_join HBw.out hb3)
      clear hrd hb3 HBw
      go_wp2_with fail
      refine (HPi.out _ _ _ _ _ (by decide) (by decide) (by omega) (by omega)).mono ?_
      rintro e w4 ⟨ga, gl, gc, rfl, hrd, hb4⟩
      have HJ := hideIt (kjoin2 _ _ _ _ w4 (HR3.out.below hb4) hrd (by have := HLn.out 4 0 0 n (by omega) (by omega); have := HLn.out 3 0 n (n + 1) (by omega) (by omega); omega))
      have HB4 := hideIt (below_join HB3.out hb4)
      clear hrd hb4 HR3 HB3
      go_wp2_with fail
      refine HJ.out.mono ?_
      rintro e w5 ⟨ja, jl, jc, rfl, hrd, hb5⟩
      have HR5 := hideIt hrd
      have HB5 := hideIt (below_join HB4.out hb5)
      clear hrd hb5 HJ HB4
      go_wp2_with fail
      go_meet
      exact ⟨_, _, _, rfl, rfl, HR5, HB5.out⟩
    · go_wp2_with fail
      refine (HPi.out _ _ _ _ _ (by decide) (by decide) (by omega) (by omega)).mono ?_
      rintro e w3 ⟨fa, fl, fc, rfl, hrd, hb3⟩
      have hb4 : Below w3.heap.size w3 (w3.alloc (.cells #[.int .u8 200] 5)) := below_alloc w3 _
      have HJ := hideIt (kjoin2 (.slice fa fl fc) (.slice (some ⟨w3.heap.size, 0, none⟩) 1 1) _ [200] (w3.alloc (.cells #[.int .u8 200] 5)) (hrd.below hb4) (RdB.lit w3 [200] (by unfold Bytes; decide) (by decide) (by decide)) (by have := HLn.out 3 0 0 n (by omega) (by omega); simp only [List.length_singleton]; omega))
      have hsz : (w3.alloc (.cells #[.int .u8 200] 5)).heap.size = w3.heap.size + 1 := by simp
      rw [hsz] at HJ
      have HSz := hideIt hsz
      clear hsz
      have HB4 := hideIt (below_join (below_join HBw.out hb3) hb4)
      clear hrd hb3 hb4 HBw
      go_wp2_with fail
      refine HJ.out.mono ?_
      rintro e w5 ⟨ja, jl, jc, rfl, hrd, hb5⟩
      have HR5 := hideIt hrd
      rw [<- HSz.out] at hb5
      have HB5 := hideIt (below_join HB4.out hb5)
      clear hrd hb5 HJ HB4
      go_wp2_with fail
      go_meet
      exact ⟨_, _, _, rfl, rfl, HR5, HB5.out⟩
  case rest =>
    obtain ⟨fa, fl, fc, rfl, rfl, hRd, hbc⟩ := hcut
    have hxl := (xor_letter 0 n).1
    have hRv := breach_recv HOk.out (got := got) (sent := sent) (q := q) hn hxl
    have hFl := breachF_len HOk.out (q := q) (x' := bits .xor .u8 (letterN 0 n) 1) hn
    have hCd := breachF_code G q n (bits .xor .u8 (letterN 0 n) 1)
    generalize breachF G q n (bits .xor .u8 (letterN 0 n) 1) = BF at *
    have hdl : (dataL 300 0 BF.1).length <= 20013 := by
      have k1 := putL_length 300
      have k2 := putL_length 0
      simp only [dataL, List.length_append, List.length_cons, List.length_nil]
      omega
    have HRv := hideIt hRv
    have HLc := hideIt (HL.out.below hbc)
    have hxc := box_below HX.out hbc
    have HXc := hideIt hxc
    have c0 : wc.cell? ⟨xb, 0, none⟩ = some (.pointer (some ⟨sb, 0, none⟩)) := box_cells hxc 0
    have HBc := hideIt (below_join HB1.out hbc)
    have hcost : 0 < costS G := by
      unfold costS
      omega
    have hmem : memS (srvA G (conA G got sent [] (List.replicate G.c3.toNat (strNew G.c2)))) = costS G := by simp [memS, srvA]
    have HMe := hideIt HLc.out.memory
    rw [hmem] at HMe
    obtain ⟨code, hcode⟩ : ∃ code, BF.2 = code := ⟨_, rfl⟩
    obtain ⟨fr, hfr⟩ : ∃ fr, BF.1 = fr := ⟨_, rfl⟩
    rw [hcode] at HRv hCd ⊢
    rw [hfr] at HRv hRd hFl hdl
    generalize costS G = cost at *
    clear hxl hRv hbc hxc x0 x3 x4 y0 y3 y4 HL HX HB1 HBw hmem hcode hfr hn hq k1 k2 k3
    go_wp2_with fail
    refine HMe.out.mono ?_
    rintro e w3 ⟨rfl, hb3⟩
    have HL3 := hideIt (HLc.out.below hb3)
    have x3 := box_below HXc.out hb3
    have HX3 := hideIt x3
    have c3 : w3.cell? ⟨xb, 0, none⟩ = some (.pointer (some ⟨sb, 0, none⟩)) := box_cells x3 0
    have HD := hideIt (fun W (hW : Below w3.heap.size w3 W) => kdata_any 300 0 fr (.slice fa fl fc) W (by decide) (by decide) ((hRd.out.below hb3).below hW) (by omega))
    have HBy := hideIt hRd.out.1
    clear x3 hb3 HMe HLc HXc c0 hRd
    have d3 : w3.drew.cell? ⟨xb, 0, none⟩ = some (.pointer (some ⟨sb, 0, none⟩)) := c3
    have HRc : Hid (∀ (W : World) (v : Value), Below w3.heap.size w3 W -> RdB W v (dataL 300 0 fr) -> Calls Tryz.prog 20 #[.pointer (some ⟨sb, 0, none⟩), .int .i64 1, v] W fun e w' => (∃ v, e = .returned v /\ OutsAt w' W.heap.size v [(1, [4, 65, 44, 19, code])]) /\ Live (w.alloc (.cells #[.int .i64 raw.c0, .int .i64 raw.c1, .int .i64 raw.c2, .int .i64 raw.c3, .int .i64 raw.c4, .int .i64 raw.c5, .int .i64 raw.c6, .int .i64 raw.c7, .int .i64 raw.c8, .int .i64 raw.c9] 26)) 30000 30000 200 w' sb ⟨G, 0, [], 1⟩ /\ w'.heap[xb]? = some (.cells (clientC sb G) 42 (0, 0)) /\ Below w.heap.size w w') := by
      intro W v hW hR
      refine ((HL3.out.below hW).receive HE.out 1 hR (by omega) (by decide) (by omega) (by omega)).mono ?_
      rintro e w' ⟨⟨v', rfl, ho⟩, hL', hc'⟩
      rw [HRv.out] at ho hL'
      have hL2 := hL'.mono (N' := 30000) (M' := 30000) (L' := 200) (by omega) (by omega) (by decide)
      exact ⟨⟨v', rfl, ho⟩, hL2, box_sf (box_below HX3.out hW) (by simp [SrvT]) hc', below_join (below_alloc w _) hL'.bel⟩
    clear HX3 HL3 HRv
    go_wp2_with fail
    go_region_held3 (fun w' => w'.cell? ⟨xb, 0, none⟩ = some (.pointer (some ⟨sb, 0, none⟩))) (first | with_reducible assumption | go_keep) (first
      | (go_at_call 22; refine (HD.out _ (below_drewN (Below.refl _ w3) 1)).mono ?_; rintro e w4 ⟨dv, rfl, hdo, hb4⟩; obtain ⟨da, dc, rfl⟩ := own_form hdo; have k4 := cell_below c3 (below_undrew hb4))
      | (go_at_call 20; refine (HRc.out w4 _ (below_undrew hb4) (RdB.of_own hdo (dataL_bytes (by decide) (by decide) HBy.out) (by omega))).mono ?_; rintro e w5 ⟨⟨v5, rfl, ho5⟩, hL5, hx5, hb5⟩; obtain ⟨l1, l2, rfl⟩ := ho5.form; have k5 : w5.cell? ⟨xb, 0, none⟩ = some (.pointer (some ⟨sb, 0, none⟩)) := box_cells hx5 0))
    have HO5 : Hid (OutsAt w5 w4.heap.size (.slice l1 1 l2) [(1, [4, 65, 44, 19, code])]) := ho5
    have HL5 := hideIt hL5
    have HX5 := hideIt hx5
    have HLk := hideIt (hL5.look 300 (by decide))
    rw [gone_look] at HLk
    unfold zeroLook at HLk
    clear hdo hb4 ho5 hL5 hx5 hb5 HD HRc HBy k4 c3 d3
    go_wp2_with fail
    refine HLk.out.mono ?_
    rintro e w6 ⟨rfl, hb6⟩
    have hb7 : Below w6.heap.size w6 (w6.alloc (.cells #[.bool false, .int .i64 0, .int .i64 0, .int .i64 0, .int .i64 0, .int .i64 0] 34)) := below_alloc w6 _
    have HB7 := hideIt (below_join hb6 hb7)
    have HL7 := hideIt ((HL5.out.below hb6).below hb7)
    have HO7 := hideIt ((HO5.out.below hb6).below hb7)
    have x7 := box_below (box_below HX5.out hb6) hb7
    have HX7 := hideIt x7
    have c7 : (w6.alloc (.cells #[.bool false, .int .i64 0, .int .i64 0, .int .i64 0, .int .i64 0, .int .i64 0] 34)).cell? ⟨xb, 0, none⟩ = some (.pointer (some ⟨sb, 0, none⟩)) := box_cells x7 0
    have HMe := hideIt HL7.out.memory
    rw [show memS ⟨G, 0, [], 1⟩ = 0 by simp [memS]] at HMe
    clear hb6 hb7 x7 HLk HL5 HO5 HX5 k5 HB7
    go_wp2_with fail
    refine HMe.out.mono ?_
    rintro e w8 ⟨rfl, hb8⟩
    have HL8 := hideIt (HL7.out.below hb8)
    have HO8 := hideIt (HO7.out.below hb8)
    have x8 := box_below HX7.out hb8
    have HX8 := hideIt x8
    have c8 : w8.cell? ⟨xb, 0, none⟩ = some (.pointer (some ⟨sb, 0, none⟩)) := box_cells x8 0
    clear hb8 x8 HMe HL7 HO7 HX7 c7
    go_wp2_with fail
    have hb9 : Below w8.heap.size w8 (w8.alloc (.cells #[.int .u8 1] 5)) := below_alloc w8 _
    have c9 : (w8.alloc (.cells #[.int .u8 1] 5)).cell? ⟨xb, 0, none⟩ = some (.pointer (some ⟨sb, 0, none⟩)) := cell_below c8 hb9
    have c9d : (w8.alloc (.cells #[.int .u8 1] 5)).drew.cell? ⟨xb, 0, none⟩ = some (.pointer (some ⟨sb, 0, none⟩)) := c9
    have c8d : w8.drew.cell? ⟨xb, 0, none⟩ = some (.pointer (some ⟨sb, 0, none⟩)) := c8
    have hb9d : Below w8.heap.size w8 (w8.alloc (.cells #[.int .u8 1] 5)).drew := below_drewN hb9 1
    have HD9 := hideIt (kdata_any 300 1 [1] (.slice (some ⟨w8.heap.size, 0, none⟩) 1 1) (w8.alloc (.cells #[.int .u8 1] 5)).drew (by decide) (by decide) ((RdB.lit w8 [1] (by unfold Bytes; decide) (by decide) (by decide)).below (below_drewN (Below.refl _ _) 1)) (by decide))
    have HRc : Hid (∀ (W : World) (v : Value), Below w8.heap.size w8 W -> RdB W v (dataL 300 1 [1]) -> Calls Tryz.prog 20 #[.pointer (some ⟨sb, 0, none⟩), .int .i64 1, v] W fun e w' => (∃ v, e = .returned v /\ OutsAt w' W.heap.size v []) /\ w'.cell? ⟨xb, 0, none⟩ = some (.pointer (some ⟨sb, 0, none⟩)) /\ Below w.heap.size w w' /\ OutsAt w' w4.heap.size (.slice l1 1 l2) [(1, [4, 65, 44, 19, code])]) := by
      intro W v hW hR
      have hlen : (dataL 300 1 [1]).length = 5 := by simp [dataL, putL]
      refine ((HL8.out.below hW).receive HE.out 1 hR (by rw [hlen]; decide) (by decide) (by rw [hlen]; decide) (by rw [hlen]; decide)).mono ?_
      rintro e w' ⟨⟨v', rfl, ho⟩, hL', hc'⟩
      rw [gone_recv] at ho
      exact ⟨⟨v', rfl, ho⟩, box_cells (box_sf (box_below HX8.out hW) (by simp [SrvT]) hc') 0, below_join (below_alloc w _) hL'.bel, (HO8.out.below hW).sf hc'⟩
    clear HL8 HX8 HO8 HE
    have HB9 := hideIt hb9d
    go_region_held3 (fun w' => w'.cell? ⟨xb, 0, none⟩ = some (.pointer (some ⟨sb, 0, none⟩))) (first | with_reducible assumption | go_keep) (first
      | (go_at_call 22; refine HD9.out.mono ?_; rintro e w10 ⟨dv, rfl, hdo, hb10⟩; obtain ⟨da, dc, rfl⟩ := own_form hdo; have k10 := cell_below c9d hb10)
      | (go_at_call 20; refine (HRc.out w10 _ (below_join HB9.out hb10) (RdB.of_own hdo (dataL_bytes (by decide) (by decide) (by unfold Bytes; decide)) (by simp [dataL, putL]))).mono ?_; rintro e w11 ⟨⟨v11, rfl, ho11⟩, k11, hb11, hol⟩; obtain ⟨m1, m2, rfl⟩ := ho11.form))
    obtain ⟨ga, gc, bv, e1, q0, q1, hbv⟩ := outs_one hol
    obtain ⟨bb, bc, e2, _, _, _⟩ := own_some hbv (by simp)
    have m0 : w11.cell? ⟨bb, 0, none⟩ = some (.int .u8 4) := own_read (e2 ▸ hbv) 0 (by simp)
    have m3 : w11.cell? ⟨bb, 3, none⟩ = some (.int .u8 19) := own_read (e2 ▸ hbv) 3 (by simp)
    have m4 : w11.cell? ⟨bb, 4, none⟩ = some (.int .u8 code) := own_read (e2 ▸ hbv) 4 (by simp)
    simp only [Value.slice.injEq] at e1
    obtain ⟨rfl, _, rfl⟩ := e1
    have q1' : w11.cell? ⟨ga, 1, none⟩ = some (.slice (some ⟨bb, 0, none⟩) 5 bc) := by rw [q1, e2]; rfl
    have HBf := hideIt hb11
    obtain ⟨hCd0, hCd1⟩ := hCd
    clear hol hbv q1 e2 ho11 k11 hb11 hdo hb10 k10 HRc HD9 HB9 c9 c9d c8d hb9 hb9d c8
    go_wp2_with fail
    go_ret
    exact ⟨rfl, HBf.out⟩
end Go.Proofs.YthmdjhlhodpbhaaGreatDoor
namespace Go.Proofs.YthmdjhlhodpbhaaGreatDoor
open Go.RowKit Go.Deep Go.ChangeShapes Go.WideShapes Go.ChangeAt
theorem kcells_int : Tryz.prog.cellsOf 3 = 1 := by kernel_rfl
theorem kcells_cfg : Tryz.prog.cellsOf 26 = 10 := by kernel_rfl
theorem klen10 {α : Type} {l : List α} (h : l.length = 10) : ∃ x0 x1 x2 x3 x4 x5 x6 x7 x8 x9 : α, l = [x0, x1, x2, x3, x4, x5, x6, x7, x8, x9] := by
  match l, h with
  | [x0, x1, x2, x3, x4, x5, x6, x7, x8, x9], _ => exact ⟨x0, x1, x2, x3, x4, x5, x6, x7, x8, x9, rfl⟩
section
variable {H : Type} {enc : TypeId × Value -> H} {w : World} {spare : Nat -> Bool} {held : Bool}
theorem kint_of_trod {n : Nat} {x : Value} {xs : List (DataW H × List MemPlace)} {i : Nat} (hi : i < xs.length) (h : DataW.trod enc Tryz.prog w 0 spare held n 3 [x] = xs[i]?) : ∃ c, x = .int .i64 c /\ -9223372036854775808 <= c /\ c <= 9223372036854775807 := by
  rw [List.getElem?_eq_getElem hi] at h
  obtain ⟨c, e, _, hwf⟩ := DataW.trod_int Tryz.underlying3 h
  simp only [List.cons.injEq, and_true] at e
  exact ⟨c, e, bounds_i64 hwf⟩
theorem kcfg_of_trod {n : Nat} {cs : List Value} {x : DataW H × List MemPlace} (h : DataW.trod enc Tryz.prog w 0 spare held n 26 cs = some x) : ∃ g : Cfg, cs = (cfgC g).toList /\ CfgRaw g := by
  obtain ⟨xs, m, _, _, hl, hlen, hf⟩ := DataW.trod_struct Tryz.underlying26 h
  have hlen' : xs.length = 10 := hlen
  rw [kcells_cfg] at hl
  obtain ⟨x0, x1, x2, x3, x4, x5, x6, x7, x8, x9, rfl⟩ := klen10 hl
  have g0 : DataW.trod enc Tryz.prog w 0 spare held m 3 ((List.drop 0 [x0, x1, x2, x3, x4, x5, x6, x7, x8, x9]).take (Tryz.prog.cellsOf 3)) = xs[0]? := hf 0 _ rfl
  rw [kcells_int] at g0
  obtain ⟨c0, rfl, r0⟩ := kint_of_trod (xs := xs) (i := 0) (by omega) (by simpa using g0)
  have g1 : DataW.trod enc Tryz.prog w 0 spare held m 3 ((List.drop 1 [.int .i64 c0, x1, x2, x3, x4, x5, x6, x7, x8, x9]).take (Tryz.prog.cellsOf 3)) = xs[1]? := hf 1 _ rfl
  rw [kcells_int] at g1
  obtain ⟨c1, rfl, r1⟩ := kint_of_trod (xs := xs) (i := 1) (by omega) (by simpa using g1)
  have g2 : DataW.trod enc Tryz.prog w 0 spare held m 3 ((List.drop 2 [.int .i64 c0, .int .i64 c1, x2, x3, x4, x5, x6, x7, x8, x9]).take (Tryz.prog.cellsOf 3)) = xs[2]? := hf 2 _ rfl
  rw [kcells_int] at g2
  obtain ⟨c2, rfl, r2⟩ := kint_of_trod (xs := xs) (i := 2) (by omega) (by simpa using g2)
  have g3 : DataW.trod enc Tryz.prog w 0 spare held m 3 ((List.drop 3 [.int .i64 c0, .int .i64 c1, .int .i64 c2, x3, x4, x5, x6, x7, x8, x9]).take (Tryz.prog.cellsOf 3)) = xs[3]? := hf 3 _ rfl
  rw [kcells_int] at g3
  obtain ⟨c3, rfl, r3⟩ := kint_of_trod (xs := xs) (i := 3) (by omega) (by simpa using g3)
  have g4 : DataW.trod enc Tryz.prog w 0 spare held m 3 ((List.drop 4 [.int .i64 c0, .int .i64 c1, .int .i64 c2, .int .i64 c3, x4, x5, x6, x7, x8, x9]).take (Tryz.prog.cellsOf 3)) = xs[4]? := hf 4 _ rfl
  rw [kcells_int] at g4
  obtain ⟨c4, rfl, r4⟩ := kint_of_trod (xs := xs) (i := 4) (by omega) (by simpa using g4)
  have g5 : DataW.trod enc Tryz.prog w 0 spare held m 3 ((List.drop 5 [.int .i64 c0, .int .i64 c1, .int .i64 c2, .int .i64 c3, .int .i64 c4, x5, x6, x7, x8, x9]).take (Tryz.prog.cellsOf 3)) = xs[5]? := hf 5 _ rfl
  rw [kcells_int] at g5
  obtain ⟨c5, rfl, r5⟩ := kint_of_trod (xs := xs) (i := 5) (by omega) (by simpa using g5)
  have g6 : DataW.trod enc Tryz.prog w 0 spare held m 3 ((List.drop 6 [.int .i64 c0, .int .i64 c1, .int .i64 c2, .int .i64 c3, .int .i64 c4, .int .i64 c5, x6, x7, x8, x9]).take (Tryz.prog.cellsOf 3)) = xs[6]? := hf 6 _ rfl
  rw [kcells_int] at g6
  obtain ⟨c6, rfl, r6⟩ := kint_of_trod (xs := xs) (i := 6) (by omega) (by simpa using g6)
  have g7 : DataW.trod enc Tryz.prog w 0 spare held m 3 ((List.drop 7 [.int .i64 c0, .int .i64 c1, .int .i64 c2, .int .i64 c3, .int .i64 c4, .int .i64 c5, .int .i64 c6, x7, x8, x9]).take (Tryz.prog.cellsOf 3)) = xs[7]? := hf 7 _ rfl
  rw [kcells_int] at g7
  obtain ⟨c7, rfl, r7⟩ := kint_of_trod (xs := xs) (i := 7) (by omega) (by simpa using g7)
  have g8 : DataW.trod enc Tryz.prog w 0 spare held m 3 ((List.drop 8 [.int .i64 c0, .int .i64 c1, .int .i64 c2, .int .i64 c3, .int .i64 c4, .int .i64 c5, .int .i64 c6, .int .i64 c7, x8, x9]).take (Tryz.prog.cellsOf 3)) = xs[8]? := hf 8 _ rfl
  rw [kcells_int] at g8
  obtain ⟨c8, rfl, r8⟩ := kint_of_trod (xs := xs) (i := 8) (by omega) (by simpa using g8)
  have g9 : DataW.trod enc Tryz.prog w 0 spare held m 3 ((List.drop 9 [.int .i64 c0, .int .i64 c1, .int .i64 c2, .int .i64 c3, .int .i64 c4, .int .i64 c5, .int .i64 c6, .int .i64 c7, .int .i64 c8, x9]).take (Tryz.prog.cellsOf 3)) = xs[9]? := hf 9 _ rfl
  rw [kcells_int] at g9
  obtain ⟨c9, rfl, r9⟩ := kint_of_trod (xs := xs) (i := 9) (by omega) (by simpa using g9)
  exact ⟨⟨c0, c1, c2, c3, c4, c5, c6, c7, c8, c9⟩, rfl, ⟨r0, r1, r2, r3, r4, r5, r6, r7, r8, r9⟩⟩
end
end Go.Proofs.YthmdjhlhodpbhaaGreatDoor
