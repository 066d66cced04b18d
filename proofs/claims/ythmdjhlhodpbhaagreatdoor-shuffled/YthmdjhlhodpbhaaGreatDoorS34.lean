/- Shuffled, 34 -/
import Derived.BigRegion
import Derived.Deep.RegionHeld3
import Derived.Deep.CutRange
import Derived.Deep.CutBlock
import Derived.Test.YthmdjhlhodpbhaaGreatDoorS21
import Derived.Test.YthmdjhlhodpbhaaGreatDoorS29
import Derived.Test.YthmdjhlhodpbhaaGreatDoorS31
import Derived.Test.YthmdjhlhodpbhaaGreatDoorS33
set_option maxHeartbeats 16000000
set_option maxRecDepth 8000
namespace Go.Proofs.YthmdjhlhodpbhaaGreatDoor
open Go.RowKit
def clientC (sb : Nat) (g : Cfg) : Array Value := #[.pointer (some ⟨sb, 0, none⟩), .int .i64 g.c0, .int .i64 g.c1, .int .i64 g.c2, .int .i64 g.c3, .int .i64 g.c4, .int .i64 g.c5, .int .i64 g.c6, .int .i64 g.c7, .int .i64 g.c8, .int .i64 g.c9, .bool true, .int .i64 g.c1, .slice none 0 0, .int .i64 g.c3, .slice none 0 0, .slice none 0 0, .slice none 0 0, .slice none 0 0, .slice none 0 0, .int .i64 0, .slice none 0 0]
theorem right_tok {g : Cfg} (h : g.right = true) (a t : Int) (ha : betw a 0 255 = true) (ht : betw t 0 4294967295 = true) : tokE g.c0 g.c1 g.c2 g.c3 g.c4 g.c5 g.c6 g.c7 g.c8 g.c9 a t = 0 := by
 have hc : cfgE g.c0 g.c1 g.c2 g.c3 g.c4 g.c5 g.c6 g.c7 g.c8 g.c9 = 0 := by
  unfold cfgE
  rw [if_pos (show rightB g.c0 g.c1 g.c2 g.c3 g.c4 g.c5 g.c6 g.c7 g.c8 g.c9 = true from h)]
 unfold tokE orE
 rw [hc, argE_yes ha, argE_yes ht]
 rfl
structure ConnOut (w : World) (raw : Cfg) (e : Ending) (w' : World) : Prop where
 ex : ∃ sb xb got sent, e = .returned (.pointer (some ⟨xb, 0, none⟩)) /\ Live w 100 1000 100 w' sb (srvA (keepC raw) (conA (keepC raw) got sent [] (List.replicate (keepC raw).c3.toNat (strNew (keepC raw).c2)))) /\ w'.heap[xb]? = some (.cells (clientC sb (keepC raw)) 42 (0, 0)) /\ w.heap.size <= xb
 bel : Below w.heap.size w w'
theorem kconnected_any (raw : Cfg) (w : World) (hE : Env w) (hraw : CfgRaw raw) : Calls Tryz.prog 13 #[.agg (cfgC raw)] w fun e w' => ConnOut w raw e w' := by
 have hb0 : Below w.heap.size w (w.alloc (.cells (cfgC raw) 26)) := below_alloc w _
 have HX : Hid ((w.alloc (.cells (cfgC raw) 26)).heap[w.heap.size]? = some (.cells (cfgC raw) 26 (0, 0))) := heap_alloc_new w _
 have HAw := hideIt (kawake_any _ (hE.below hb0))
 have HCf := hideIt (fun W => kconfig_any raw W hraw)
 have hright := keepC_right raw
 have hok := keepC_ok raw
 have h8 : (keepC raw).c8 = 100000 := rfl
 obtain ⟨got, sent, B, h300⟩ := hello300 hok h8
 have HNew := hideIt (fun W (hW : Below w.heap.size w W) => live_new w (keepC raw) hright W hW)
 have HTk := hideIt (fun W => Token_any (keepC raw).c0 (keepC raw).c1 (keepC raw).c2 (keepC raw).c3 (keepC raw).c4 (keepC raw).c5 (keepC raw).c6 (keepC raw).c7 (keepC raw).c8 (keepC raw).c9 1 0 W)
 have htk := right_tok hright 1 0 (by decide) (by decide)
 have htm : tokM (keepC raw).c0 (keepC raw).c1 (keepC raw).c2 (keepC raw).c3 (keepC raw).c4 (keepC raw).c5 (keepC raw).c6 (keepC raw).c7 (keepC raw).c8 (keepC raw).c9 1 0 = tokenL (keepC raw).c9 1 0 := by
  unfold tokM
  rw [htk]
  rfl
 rw [htk, htm, tok_len] at HTk
 have E0 : ∀ (sb : Nat) (W : World), (binOp .eql 37 (.pointer (some ⟨sb, 0, none⟩)) (.pointer none)).run Tryz.prog W = .ok (.bool false) W := fun sb W => by kernel_rfl
 have HE := hideIt hE
 have HB0 := hideIt hb0
 have hcfg : cfgC (cfgN raw) = #[.int .i64 (keepC raw).c0, .int .i64 (keepC raw).c1, .int .i64 (keepC raw).c2, .int .i64 (keepC raw).c3, .int .i64 (keepC raw).c4, .int .i64 (keepC raw).c5, .int .i64 (keepC raw).c6, .int .i64 (keepC raw).c7, .int .i64 (cfgN raw).c8, .int .i64 (keepC raw).c9] := rfl
 rw [hcfg] at HCf
 have hlen : (helloL 300 (tokenL (keepC raw).c9 1 0) []).length = 13 := by simp [helloL, tok_len, putL]
 have H300 := hideIt h300
 generalize hk8 : (cfgN raw).c8 = k8 at *
 clear hk8
 have HFin : Hid (∀ (w' : World) (sb xb : Nat), Live w 100 1000 100 w' sb (receiveS (srvNew (keepC raw)) 1 (helloL 300 (tokenL (keepC raw).c9 1 0) [])).1 -> w'.heap[xb]? = some (.cells (clientC sb (keepC raw)) 42 (0, 0)) -> w.heap.size <= xb -> ConnOut w raw (.returned (.pointer (some ⟨xb, 0, none⟩))) w') := by
  intro w' sb xb hL hx hxb
  rw [H300.out] at hL
  exact ⟨⟨sb, xb, got, sent, rfl, hL, hx, hxb⟩, hL.bel⟩
 have HOut : Hid (∀ (w' : World) (b : Nat) (v : Value), OutsAt w' b v (receiveS (srvNew (keepC raw)) 1 (helloL 300 (tokenL (keepC raw).c9 1 0) [])).2 -> ∃ ao cap, v = .slice ao 1 cap) := by
  intro w' b v ho
  rw [H300.out] at ho
  exact ho.form
 unfold clientC at HFin
 generalize hG : keepC raw = G at *
 obtain ⟨G0, G1, G2, G3, G4, G5, G6, G7, G8, G9⟩ := G
 simp only at *
 subst h8
 have HHe := hideIt (fun W (tv : Value) (ht : RdB W tv (tokenL G9 1 0)) => khello_any 300 (tokenL G9 1 0) [] tv (.slice none 0 0) W (by decide) ht (RdB.nil _) (by rw [tok_len]; decide) (by decide))
 clear hE hb0 hright hok h300 htk htm hcfg H300 hG hraw
 unfold cfgC at HX HCf ⊢
 go_enter Tryz.func13, Tryz.ntmps13
 go_wp2_with fail
 refine HAw.out.mono ?_
 rintro e w1 ⟨rfl, hb1⟩
 have x1 := box_below HX.out hb1
 have r0 : w1.cell? ⟨w.heap.size, 0, none⟩ = some (.int .i64 raw.c0) := box_cells x1 0
 have r1 : w1.cell? ⟨w.heap.size, 1, none⟩ = some (.int .i64 raw.c1) := box_cells x1 1
 have r2 : w1.cell? ⟨w.heap.size, 2, none⟩ = some (.int .i64 raw.c2) := box_cells x1 2
 have r3 : w1.cell? ⟨w.heap.size, 3, none⟩ = some (.int .i64 raw.c3) := box_cells x1 3
 have r4 : w1.cell? ⟨w.heap.size, 4, none⟩ = some (.int .i64 raw.c4) := box_cells x1 4
 have r5 : w1.cell? ⟨w.heap.size, 5, none⟩ = some (.int .i64 raw.c5) := box_cells x1 5
 have r6 : w1.cell? ⟨w.heap.size, 6, none⟩ = some (.int .i64 raw.c6) := box_cells x1 6
 have r7 : w1.cell? ⟨w.heap.size, 7, none⟩ = some (.int .i64 raw.c7) := box_cells x1 7
 have r8 : w1.cell? ⟨w.heap.size, 8, none⟩ = some (.int .i64 raw.c8) := box_cells x1 8
 have r9 : w1.cell? ⟨w.heap.size, 9, none⟩ = some (.int .i64 raw.c9) := box_cells x1 9
 have HB1 := hideIt (below_join HB0.out hb1)
 clear x1 hb1 HB0 HX HAw
 go_wp2_with fail
 refine (HCf.out w1).mono ?_
 rintro e w2 ⟨rfl, hb2⟩
 have HB2 := hideIt (below_join HB1.out hb2)
 clear hb2 HB1 HCf r0 r1 r2 r3 r4 r5 r6 r7 r8 r9
 go_wp2_with fail
 have hb3 : Below w2.heap.size w2 (w2.alloc (.cells #[.int .i64 G0, .int .i64 G1, .int .i64 G2, .int .i64 G3, .int .i64 G4, .int .i64 G5, .int .i64 G6, .int .i64 G7, .int .i64 100000, .int .i64 G9] 26)) := below_alloc w2 _
 have x3 : (w2.alloc (.cells #[.int .i64 G0, .int .i64 G1, .int .i64 G2, .int .i64 G3, .int .i64 G4, .int .i64 G5, .int .i64 G6, .int .i64 G7, .int .i64 100000, .int .i64 G9] 26)).heap[w2.heap.size]? = some (.cells #[.int .i64 G0, .int .i64 G1, .int .i64 G2, .int .i64 G3, .int .i64 G4, .int .i64 G5, .int .i64 G6, .int .i64 G7, .int .i64 100000, .int .i64 G9] 26 (0, 0)) := heap_alloc_new w2 _
 refine (HNew.out _ (below_join HB2.out hb3)).mono ?_
 rintro e w4 ⟨⟨sb, rfl, hL4⟩, hb4⟩
 have x4 := box_below x3 hb4
 have HL4 := hideIt hL4
 have c0 : w4.cell? ⟨w2.heap.size, 0, none⟩ = some (.int .i64 G0) := box_cells x4 0
 have c1 : w4.cell? ⟨w2.heap.size, 1, none⟩ = some (.int .i64 G1) := box_cells x4 1
 have c2 : w4.cell? ⟨w2.heap.size, 2, none⟩ = some (.int .i64 G2) := box_cells x4 2
 have c3 : w4.cell? ⟨w2.heap.size, 3, none⟩ = some (.int .i64 G3) := box_cells x4 3
 have c4 : w4.cell? ⟨w2.heap.size, 4, none⟩ = some (.int .i64 G4) := box_cells x4 4
 have c5 : w4.cell? ⟨w2.heap.size, 5, none⟩ = some (.int .i64 G5) := box_cells x4 5
 have c6 : w4.cell? ⟨w2.heap.size, 6, none⟩ = some (.int .i64 G6) := box_cells x4 6
 have c7 : w4.cell? ⟨w2.heap.size, 7, none⟩ = some (.int .i64 G7) := box_cells x4 7
 have c8 : w4.cell? ⟨w2.heap.size, 8, none⟩ = some (.int .i64 100000) := box_cells x4 8
 have c9 : w4.cell? ⟨w2.heap.size, 9, none⟩ = some (.int .i64 G9) := box_cells x4 9
 have HX4 := hideIt x4
 clear hb3 x3 hL4 hb4 x4 HNew HB2
 go_wp2_with fail
 refine (HTk.out w4).mono ?_
 rintro e w5 ⟨tv, rfl, ht, hb5⟩
 obtain ⟨t1, t2, rfl⟩ := own_form ht
 have x5 := box_below HX4.out hb5
 have HL5 := hideIt (HL4.out.below hb5)
 have HT5 := hideIt ht
 clear ht hb5 HTk HX4 HL4 c0 c1 c2 c3 c4 c5 c6 c7 c8 c9
 have c0 : w5.cell? ⟨w2.heap.size, 0, none⟩ = some (.int .i64 G0) := box_cells x5 0
 have c1 : w5.cell? ⟨w2.heap.size, 1, none⟩ = some (.int .i64 G1) := box_cells x5 1
 have c2 : w5.cell? ⟨w2.heap.size, 2, none⟩ = some (.int .i64 G2) := box_cells x5 2
 have c3 : w5.cell? ⟨w2.heap.size, 3, none⟩ = some (.int .i64 G3) := box_cells x5 3
 have c4 : w5.cell? ⟨w2.heap.size, 4, none⟩ = some (.int .i64 G4) := box_cells x5 4
 have c5 : w5.cell? ⟨w2.heap.size, 5, none⟩ = some (.int .i64 G5) := box_cells x5 5
 have c6 : w5.cell? ⟨w2.heap.size, 6, none⟩ = some (.int .i64 G6) := box_cells x5 6
 have c7 : w5.cell? ⟨w2.heap.size, 7, none⟩ = some (.int .i64 G7) := box_cells x5 7
 have c8 : w5.cell? ⟨w2.heap.size, 8, none⟩ = some (.int .i64 100000) := box_cells x5 8
 have c9 : w5.cell? ⟨w2.heap.size, 9, none⟩ = some (.int .i64 G9) := box_cells x5 9
 clear x5
 have hb6 : Below w5.heap.size w5 (w5.alloc (.cells #[.pointer (some ⟨sb, 0, none⟩), .int .i64 G0, .int .i64 G1, .int .i64 G2, .int .i64 G3, .int .i64 G4, .int .i64 G5, .int .i64 G6, .int .i64 G7, .int .i64 100000, .int .i64 G9, .bool true, .int .i64 G1, .slice none 0 0, .int .i64 G3, .slice none 0 0, .slice none 0 0, .slice none 0 0, .slice none 0 0, .slice none 0 0, .int .i64 0, .slice none 0 0] 42)) := below_alloc w5 _
 have x6 : (w5.alloc (.cells #[.pointer (some ⟨sb, 0, none⟩), .int .i64 G0, .int .i64 G1, .int .i64 G2, .int .i64 G3, .int .i64 G4, .int .i64 G5, .int .i64 G6, .int .i64 G7, .int .i64 100000, .int .i64 G9, .bool true, .int .i64 G1, .slice none 0 0, .int .i64 G3, .slice none 0 0, .slice none 0 0, .slice none 0 0, .slice none 0 0, .slice none 0 0, .int .i64 0, .slice none 0 0] 42)).heap[w5.heap.size]? = some (.cells #[.pointer (some ⟨sb, 0, none⟩), .int .i64 G0, .int .i64 G1, .int .i64 G2, .int .i64 G3, .int .i64 G4, .int .i64 G5, .int .i64 G6, .int .i64 G7, .int .i64 100000, .int .i64 G9, .bool true, .int .i64 G1, .slice none 0 0, .int .i64 G3, .slice none 0 0, .slice none 0 0, .slice none 0 0, .slice none 0 0, .slice none 0 0, .int .i64 0, .slice none 0 0] 42 (0, 0)) := heap_alloc_new w5 _
 have HX6 := hideIt x6
 have HH6 := hideIt (HHe.out (w5.alloc (.cells #[.pointer (some ⟨sb, 0, none⟩), .int .i64 G0, .int .i64 G1, .int .i64 G2, .int .i64 G3, .int .i64 G4, .int .i64 G5, .int .i64 G6, .int .i64 G7, .int .i64 100000, .int .i64 G9, .bool true, .int .i64 G1, .slice none 0 0, .int .i64 G3, .slice none 0 0, .slice none 0 0, .slice none 0 0, .slice none 0 0, .slice none 0 0, .int .i64 0, .slice none 0 0] 42)) (.slice t1 9 t2) (RdB.of_own (own_below HT5.out hb6) (tokenL_bytes _ _ _ (by decide) (by decide)) (by rw [tok_len]; decide)))
 have HL6 := hideIt (HL5.out.below hb6)
 have HS5 := hideIt (HL5.out.bel.size)
 clear hb6 x6 HHe HT5 HL5
 go_wp2_with fail
 refine HH6.out.mono ?_
 rintro e w7 ⟨hv, rfl, hh, hb7⟩
 obtain ⟨h1, h2, rfl⟩ := own_form hh
 rw [hlen] at hh ⊢
 have HRc := hideIt ((HL6.out.below hb7).receive HE.out 1 (RdB.of_own hh (helloL_bytes (by decide) (tokenL_bytes _ _ _ (by decide) (by decide)) Bytes.nil (by rw [tok_len]; decide)) (by rw [hlen]; decide)) (by rw [hlen]; decide) (by decide) (by rw [hlen]; decide) (by rw [hlen]; decide))
 have HX7 := hideIt (box_below HX6.out hb7)
 clear hh hb7 HH6 HL6 HX6 c0 c1 c2 c3 c4 c5 c6 c7 c8 c9
 go_wp2_with fail
 refine HRc.out.mono ?_
 rintro e w8 ⟨⟨v8, rfl, ho8⟩, hL8, hc8⟩
 obtain ⟨o1, o2, rfl⟩ := HOut.out _ _ _ ho8
 have HF := hideIt (HFin.out w8 sb w5.heap.size (hL8.mono (by rw [hlen]; decide) (by rw [hlen]; decide) (by decide)) (box_sf HX7.out (by simp [SrvT]) hc8) HS5.out)
 clear ho8 hL8 hc8 HRc HX7 HFin HOut HE HS5
 go_wp2_with fail
 go_ret
 exact HF.out
theorem pieceL_bytes {k st fr tt : Int} (hk : 0 <= k /\ k < 256) (hs : 0 <= st /\ st <= 1073741823) (hf : 0 <= fr /\ fr <= tt) (ht : tt <= 1000000) : Bytes (pieceL k st fr tt) := by
 refine ((((Bytes.cons hk Bytes.nil).append (putL_bytes _ hs.1 hs.2)).append (putL_bytes _ (by omega) (by omega))).append (putL_bytes _ (by omega) (by omega))).append ?_
 intro x hx
 obtain ⟨i, _, rfl⟩ := List.mem_map.1 hx
 exact letterN_byte
theorem pieceL_len {k st fr tt : Int} (hf : 0 <= fr /\ fr <= tt) (ht : tt <= 1000000) : (pieceL k st fr tt).length <= 1000013 := by
 have k1 := putL_length st
 have k2 := putL_length fr
 have k3 := putL_length (tt - fr)
 simp only [pieceL, List.length_append, List.length_cons, List.length_nil, lettersL_len]
 omega
theorem pieceL_len2 {k st fr tt : Int} (hf : 0 <= fr /\ fr <= tt) : ((pieceL k st fr tt).length : Int) <= 13 + (tt - fr) := by
 have k1 := putL_length st
 have k2 := putL_length fr
 have k3 := putL_length (tt - fr)
 simp only [pieceL, List.length_append, List.length_cons, List.length_nil, lettersL_len]
 omega
theorem kpiece_rd (k st fr tt : Int) (w : World) (hk : 0 <= k /\ k < 256) (hs : 0 <= st /\ st <= 1073741823) (hf : 0 <= fr /\ fr <= tt) (ht : tt <= 1000000) :
  Calls Tryz.prog 23 #[.int .i64 k, .int .i64 st, .int .i64 fr, .int .i64 tt] w fun e w' => ∃ ao l cap, e = .returned (.slice ao l cap) /\ RdB w' (.slice ao l cap) (pieceL k st fr tt) /\ Below w.heap.size w w' := by
 refine (kpiece_any k st fr tt w hk hs hf ht).mono ?_
 rintro e w' ⟨v, rfl, ho, hb⟩
 obtain ⟨ao, cap, rfl⟩ := own_form ho
 exact ⟨_, _, _, rfl, RdB.of_own ho (pieceL_bytes hk hs hf ht) (by have := pieceL_len (k := k) (st := st) hf ht; omega), hb⟩
def I64L (l : List Int) : List Value := l.map fun x => .int .i64 x
theorem I64L_append (a b : List Int) : I64L (a ++ b) = I64L a ++ I64L b := by simp [I64L]
theorem I64L_set (l : List Int) (i : Nat) (x : Int) : I64L (l.set i x) = (I64L l).set i (.int .i64 x) := by simp [I64L, List.map_set]
theorem own_set {w : World} {base : Nat} {e : TypeId} {g n cap : Nat} {xs : List Value} (h : w.ownsRow base e 1 (.slice (some ⟨g, 0, none⟩) n cap) n xs) (i : Nat) (u : Value) : (w.setCell ⟨g, i, none⟩ u).ownsRow base e 1 (.slice (some ⟨g, 0, none⟩) n cap) n (xs.set i u) := by
 obtain ⟨hl, ⟨e1, _⟩ | ⟨g', cap', cur, e1, hb, hg, h1, h2, h3, h4⟩⟩ := h
 ·cases e1
 ·simp only [Value.slice.injEq, Option.some.injEq, Addr.mk.injEq, and_true, true_and] at e1
  obtain ⟨rfl, rfl⟩ := e1
  refine ⟨by rw [List.length_set]; exact hl, Or.inr ⟨g, cap, cur.setIfInBounds i u, rfl, hb, block_set hg i u, h1, h2, by rw [Array.size_setIfInBounds]; exact h3, ?_⟩⟩
  rw [Array.toList_setIfInBounds, List.take_set, h4]
theorem chg_setc (w : World) (g i : Nat) (u : Value) : Chg (· = g) w (w.setCell ⟨g, i, none⟩ u) := chg_set (Below.refl _ w) i u
def Nigh (w : World) (v u : Value) : Prop := u.ownBlock = v.ownBlock \/ ∀ g, u.ownBlock = some g -> w.heap.size <= g
section
variable {P : Program}
theorem wpList_append_nigh {w : World} {ops : Array Oper} {rest : List Oper} {o : Oper} {a : Act} {Q : Exit -> Act -> World -> Prop} (hgd : o.guard = none) (s x : Operand) (t : TypeId)
  (ho : o.op = .call { callee := .builtin .append, args := #[s, x], argTypes := #[t, t] })
  (base : Nat) (e : TypeId) (i : TypeInfo) (z : Value) (size bytes : Nat) (ht : P.underlying t = some (.slice e)) (hi : P.info? e = some i) (hz : i.zero = some z)
  (hsize : i.size = size) (hby : i.bytes = bytes) (hzs : z.cells.size = size) (hsz : 0 < size) (v : Value) (n : Nat) (xs : List Value) (hs : a.eval s = v) (hown : w.ownsRow base e size v n xs)
  (ad : Addr) (m c : Nat) (news : List Value) (hx : a.eval x = .slice (some ad) m c) (hl : news.length = m * size) (hnews : ∀ j u, news[j]? = some u -> w.cell? (ad.add j) = some u) (h1 : ∀ u ∈ news, u.oneCell' = true)
  (h63 : n + m <= maxLen) (hbytes : (n + m) * bytes <= 140737488355328) (hbase : base <= w.heap.size)
  (h : ∀ v' w', w'.ownsRow base e size v' (n + m) (xs ++ news) -> w.grownBy w' v.ownBlock -> Nigh w v v' -> wpList P ops Q rest (a.put o.dst v') w') : wpList P ops Q (o :: rest) a w := by
 refine wpList_plain hgd fun K hK => ?_
 obtain ⟨v', w', hrun, h2, h3, h4⟩ := run_append_at (P := P) w base t o.type e i z size bytes ht hi hz hsize hby hzs hsz v n xs hown ad m c news hl hnews h1 h63 hbytes hbase
 unfold Oper.wp
 simp [execOp, ho, resolve, invoke, builtin, hs, hx, hrun, Result.andThen]
 exact hK _ _ (h v' w' h2 h3 h4)
end
theorem grown_chg {w w' : World} {r : Option Nat} (h : w.grownBy w' r) : Chg (fun q => r = some q) w w' := ⟨h.os, h.tape, h.output, h.size, fun q hq hn => h.block q hq (fun e => hn e.symm)⟩
theorem own_ltS {w : World} {base : Nat} {e : TypeId} {sz : Nat} {v : Value} {n : Nat} {xs : List Value} (h : w.ownsRow base e sz v n xs) {g : Nat} (hg : v.ownBlock = some g) : g < w.heap.size /\ base <= g := by
 obtain ⟨_, ⟨rfl, _⟩ | ⟨g', cap, cur, rfl, hb, hh, _⟩⟩ := h
 ·cases hg
 ·obtain rfl : g' = g := by simpa [Value.ownBlock] using hg
  exact ⟨(Array.getElem?_eq_some_iff.1 hh).1, hb⟩
structure TwoL (base : Nat) (w : World) (fv tv : Value) (l : List (Int × Int)) : Prop where
 f : w.ownsRow base 3 1 fv l.length (I64L (l.map (·.1)))
 t : w.ownsRow base 3 1 tv l.length (I64L (l.map (·.2)))
 ap : ∀ g, fv.ownBlock = some g -> tv.ownBlock ≠ some g
theorem TwoL.nil (base : Nat) (w : World) : TwoL base w (.slice none 0 0) (.slice none 0 0) [] := ⟨World.ownsRow_nil _ _ _ _, World.ownsRow_nil _ _ _ _, fun g h => by cases h⟩
theorem TwoL.chg {F : Nat -> Prop} {base : Nat} {w w' : World} {fv tv : Value} {l : List (Int × Int)} (h : TwoL base w fv tv l) (hc : Chg F w w') (hF : ∀ g cur fr, w.heap[g]? = some (.cells cur 3 fr) -> ¬ F g) : TwoL base w' fv tv l := by
 refine ⟨own_chg h.f hc fun g hg => ?_, own_chg h.t hc fun g hg => ?_, h.ap⟩
 ·obtain ⟨c, e⟩ := own_blockN h.f hg
  exact hF g _ _ e
 ·obtain ⟨c, e⟩ := own_blockN h.t hg
  exact hF g _ _ e
theorem TwoL.below {base : Nat} {w w' : World} {fv tv : Value} {l : List (Int × Int)} (h : TwoL base w fv tv l) (hb : Below w.heap.size w w') : TwoL base w' fv tv l := h.chg (F := fun _ => False) (Chg.of_below hb) (fun _ _ _ _ h => h)
theorem TwoL.mid {base : Nat} {w w1 w2 : World} {fv tv fv' : Value} {l : List (Int × Int)} (h : TwoL base w fv tv l) (hb : Below w.heap.size w w1) (hg : w1.grownBy w2 fv.ownBlock) (hn : Nigh w1 fv fv') : w2.ownsRow base 3 1 tv l.length (I64L (l.map (·.2))) /\ ∀ g, fv'.ownBlock = some g -> tv.ownBlock ≠ some g := by
 have h1 := h.below hb
 refine ⟨own_chg h1.t (grown_chg hg) fun g hg2 e => h1.ap g e hg2, fun g hg2 e => ?_⟩
 rcases hn with hn | hn
 ·exact h1.ap g (by rw [<- hn]; exact hg2) e
 ·have := hn g hg2
  have := (own_ltS h.t e).1
  have := hb.size
  omega
theorem TwoL.snoc {base : Nat} {w2 w3 w4 : World} {tv fv' tv' : Value} {l : List (Int × Int)} {a b : Int} (hf : w2.ownsRow base 3 1 fv' (l.length + 1) (I64L (l.map (·.1)) ++ [.int .i64 a])) (hap : ∀ g, fv'.ownBlock = some g -> tv.ownBlock ≠ some g) (hb : Below w2.heap.size w2 w3) (hg : w3.grownBy w4 tv.ownBlock) (hn : Nigh w3 tv tv') (ht : w4.ownsRow base 3 1 tv' (l.length + 1) (I64L (l.map (·.2)) ++ [.int .i64 b])) : TwoL base w4 fv' tv' (l ++ [(a, b)]) := by
 refine ⟨?_, ?_, fun g hg2 e => ?_⟩
 ·rw [List.length_append, List.map_append, I64L_append]
  exact own_chg (own_below hf hb) (grown_chg hg) fun g hg2 e => hap g hg2 e
 ·rw [List.length_append, List.map_append, I64L_append]
  exact ht
 ·rcases hn with hn | hn
  ·exact hap g hg2 (by rw [<- hn]; exact e)
  ·have := hn g e
   have := (own_ltS hf hg2).1
   have := hb.size
   omega
theorem TwoL.put {base : Nat} {w : World} {fb fc tb tc : Nat} {l : List (Int × Int)} (h : TwoL base w (.slice (some ⟨fb, 0, none⟩) l.length fc) (.slice (some ⟨tb, 0, none⟩) l.length tc) l) (i : Nat) (a b : Int) : TwoL base ((w.setCell ⟨fb, i, none⟩ (.int .i64 a)).setCell ⟨tb, i, none⟩ (.int .i64 b)) (.slice (some ⟨fb, 0, none⟩) l.length fc) (.slice (some ⟨tb, 0, none⟩) l.length tc) (l.set i (a, b)) := by
 have hne : fb ≠ tb := fun e => h.ap fb rfl (by rw [e]; rfl)
 refine ⟨?_, ?_, h.ap⟩
 ·rw [List.length_set, List.map_set, I64L_set]
  exact own_chg (own_set h.f i _) (chg_setc _ tb i _) fun g hg e => hne (by simp [Value.ownBlock] at hg; omega)
 ·rw [List.length_set, List.map_set, I64L_set]
  exact own_set (own_chg h.t (chg_setc w fb i _) fun g hg e => hne (by simp [Value.ownBlock] at hg; omega)) i _
theorem own_int {w : World} {base g n cap : Nat} {l : List Int} (h : w.ownsRow base 3 1 (.slice (some ⟨g, 0, none⟩) n cap) n (I64L l)) (j : Nat) (hj : j < l.length) : w.cell? ⟨g, j, none⟩ = some (.int .i64 (l.getD j 0)) := by
 have hl : l.length = n := by have := h.1; simpa [I64L] using this
 rw [h.cellAt j (by omega)]
 simp [I64L, List.getD, List.getElem?_eq_getElem hj]
theorem own_frozen {w : World} {base : Nat} {e : TypeId} {g n cap : Nat} {xs : List Value} (h : w.ownsRow base e 1 (.slice (some ⟨g, 0, none⟩) n cap) n xs) (q : Nat) : w.frozen? ⟨g, q, none⟩ = false := by
 obtain ⟨cur, e1⟩ := own_block h (g := g) rfl
 exact frozen_of_row w g q _ _ e1
structure IntsIn (w : World) (ao : Option Addr) (l : List Int) : Prop where
 len : l.length <= 140737488355328
 cell : ∀ j, j < l.length -> ∃ b off, ao = some ⟨b, off, none⟩ /\ w.cell? ⟨b, off + j, none⟩ = some (.int .i64 (l.getD j 0))
 wf : ∀ j, -9223372036854775808 <= l.getD j 0 /\ l.getD j 0 <= 9223372036854775807
theorem IntsIn.below {w w' : World} {ao : Option Addr} {l : List Int} (h : IntsIn w ao l) (hb : Below w.heap.size w w') : IntsIn w' ao l := ⟨h.len, fun j hj => by
 obtain ⟨b, off, e, hc⟩ := h.cell j hj
 exact ⟨b, off, e, cell_below hc hb⟩, h.wf⟩
def MarksAt (w : World) (tb : Nat) (T : Nat -> Bool) : Prop := ∃ cur, w.heap[tb]? = some (.cells cur 62 (0, 0)) /\ ∀ p, p < 80 -> cur[p]? = some (.bool (T p))
theorem MarksAt.chg {F : Nat -> Prop} {w w' : World} {tb : Nat} {T : Nat -> Bool} (h : MarksAt w tb T) (hc : Chg F w w') (hF : ¬ F tb) : MarksAt w' tb T := by
 obtain ⟨cur, h1, h2⟩ := h
 exact ⟨cur, by rw [hc.block tb (Array.getElem?_eq_some_iff.1 h1).1 hF]; exact h1, h2⟩
theorem MarksAt.below {w w' : World} {tb : Nat} {T : Nat -> Bool} (h : MarksAt w tb T) (hb : Below w.heap.size w w') : MarksAt w' tb T := h.chg (F := fun _ => False) (Chg.of_below hb) id
theorem MarksAt.cell {w : World} {tb : Nat} {T : Nat -> Bool} (h : MarksAt w tb T) (p : Nat) (hp : p < 80) : w.cell? ⟨tb, p, none⟩ = some (.bool (T p)) := by
 obtain ⟨cur, h1, h2⟩ := h
 simp [World.cell?, h1, h2 p hp]
theorem MarksAt.frozen {w : World} {tb : Nat} {T : Nat -> Bool} (h : MarksAt w tb T) (q : Nat) : w.frozen? ⟨tb, q, none⟩ = false := by
 obtain ⟨cur, h1, _⟩ := h
 exact frozen_of_row w tb q _ _ h1
theorem MarksAt.set {w : World} {tb : Nat} {T T' : Nat -> Bool} (h : MarksAt w tb T) (p : Nat) (hT : ∀ i, T' i = (T i || decide (i = p))) : MarksAt (w.setCell ⟨tb, p, none⟩ (.bool true)) tb T' := by
 obtain ⟨cur, h1, h2⟩ := h
 refine ⟨_, block_set h1 p _, fun i hi => ?_⟩
 rw [Array.getElem?_setIfInBounds, h2 i hi, hT i]
 by_cases e : i = p
 ·subst e
  rw [if_pos rfl, if_pos (by have := (Array.getElem?_eq_some_iff.1 (h2 i hi)).1; omega), decide_eq_true rfl, Bool.or_true]
 ·rw [if_neg (Ne.symm e), decide_eq_false e, Bool.or_false]
end Go.Proofs.YthmdjhlhodpbhaaGreatDoor
namespace Go.Proofs.YthmdjhlhodpbhaaGreatDoor
def Lett (st rd : Int) (l : List Int) : Prop := ∀ i : Nat, l.getD i (-1) = -1 \/ l.getD i (-1) = letterN st (rd + i)
theorem grown_getD (l : List Int) (p i : Nat) : (grownTo l p).getD i (-1) = l.getD i (-1) := by
 unfold grownTo
 simp only [List.getD_eq_getElem?_getD]
 rcases Nat.lt_or_ge i l.length with h | h
 ·rw [List.getElem?_append_left h]
 ·rw [List.getElem?_append_right h, List.getElem?_eq_none h, List.getElem?_replicate]
  split <;> rfl
theorem grown_len (l : List Int) (p : Nat) : (grownTo l p).length = max l.length (p + 1) := by
 unfold grownTo
 simp only [List.length_append, List.length_replicate]
 omega
theorem set_getD (l : List Int) (p i : Nat) (x : Int) (h : p < l.length) : (l.set p x).getD i (-1) = if i = p then x else l.getD i (-1) := by
 simp only [List.getD_eq_getElem?_getD]
 by_cases e : i = p
 ·subst e
  rw [if_pos rfl, List.getElem?_set_self h]
  rfl
 ·rw [if_neg e, List.getElem?_set_ne (Ne.symm e)]
theorem letters_getD (st fr : Int) (n k : Nat) (h : k < n) : (lettersL st fr n).getD k 0 = letterN st (fr + k) := by
 have hl := lettersL_len st fr n
 rw [List.getD_eq_getElem?_getD, List.getElem?_eq_getElem (by omega)]
 simp [lettersL]
theorem recvTo_letters {st rd fr : Int} {l : List Int} (h : Lett st rd l) (n : Nat) : ∀ k, k <= n -> ∃ m, recvTo l (fr - rd) (lettersL st fr n) k = some m /\ (∀ i : Nat, m.getD i (-1) = if fr - rd <= i /\ (i : Int) < fr - rd + k then letterN st (rd + i) else l.getD i (-1)) /\ l.length <= m.length /\ (m.length : Int) <= max (l.length : Int) (fr - rd + k) /\ (0 < k -> fr - rd + k <= m.length)
 | 0, _ => ⟨l, rfl, fun i => by rw [if_neg (by omega)], Nat.le_refl _, by omega, fun h => by omega⟩
 | k + 1, hk => by
  obtain ⟨m, h1, h2, h3, h4, h5⟩ := recvTo_letters h n k (by omega)
  rw [recvTo, h1]
  simp only [Option.bind_some]
  by_cases hd : fr - rd + (k : Int) < 0
  ·rw [if_pos hd]
   refine ⟨m, rfl, fun i => ?_, h3, by omega, fun _ => by omega⟩
   rw [h2 i, if_neg (by omega), if_neg (by omega)]
  ·rw [if_neg hd]
   obtain ⟨p, hp⟩ : ∃ p : Nat, fr - rd + (k : Int) = p := ⟨(fr - rd + (k : Int)).toNat, by omega⟩
   have hx : (lettersL st fr n).getD k 0 = letterN st (rd + p) := by
    rw [letters_getD st fr n k (by omega), <- hp, show fr + (k : Int) = rd + (fr - rd + k) by omega]
   have hv := h2 p
   rw [if_neg (by omega)] at hv
   have hgl := grown_len m p
   refine ⟨(grownTo m p).set p (letterN st (rd + p)), ?_, fun i => ?_, ?_, ?_, fun _ => ?_⟩
   ·rw [hp, Int.toNat_natCast, hx]
    unfold writeS
    rw [if_neg]
    rw [grown_getD, hv]
    rcases h p with e | e
    ·rw [e]; simp
    ·rw [e]; simp
   ·rw [set_getD _ _ _ _ (by omega), grown_getD, h2 i]
    by_cases e : i = p
    ·subst e
     rw [if_pos rfl, if_pos (by omega)]
    ·rw [if_neg e]
     by_cases e2 : fr - rd <= (i : Int) /\ (i : Int) < fr - rd + k
     ·rw [if_pos e2, if_pos (by omega)]
     ·rw [if_neg e2, if_neg (by omega)]
   ·rw [List.length_set]; omega
   ·rw [List.length_set]; omega
   ·rw [List.length_set]; omega
def runsB (T : Nat -> Bool) : Nat -> Int
 | 0 => 0
 | k + 1 => runsB T k + if T k && (decide (k = 0) || !T (k - 1)) then 1 else 0
theorem runsTo_is {l : List Int} {T : Nat -> Bool} (h : ∀ i, decide (0 <= l.getD i (-1)) = T i) : ∀ k, runsTo l k = runsB T k
 | 0 => rfl
 | k + 1 => by
  rw [runsTo, runsB, runsTo_is h k]
  congr 1
  have e : startAt l k = (T k && (decide (k = 0) || !T (k - 1))) := by
   unfold startAt
   rw [h k, <- h (k - 1)]
   congr 2
   by_cases hc : 0 <= l.getD (k - 1) (-1)
   ·rw [decide_eq_true hc, decide_eq_false (by omega)]; rfl
   ·rw [decide_eq_false hc, decide_eq_true (by omega)]; rfl
  rw [e]
theorem runsB_past {T : Nat -> Bool} {m : Nat} (h : ∀ i, m <= i -> T i = false) : ∀ k, m <= k -> runsB T k = runsB T m
 | 0, hk => by rw [Nat.le_zero.1 hk]
 | k + 1, hk => by
  rcases Nat.lt_or_ge k m with h1 | h1
  ·rw [show k + 1 = m by omega]
  ·rw [runsB, h k h1, runsB_past h k h1]
   simp
def plusT (T : Nat -> Bool) (a b : Int) (i : Nat) : Bool := T i || (decide (a <= (i : Int)) && decide ((i : Int) < b))
structure Shuf (g : Cfg) (n : Nat) (T : Nat -> Bool) (y : StrS) : Prop where
 val : ∀ i : Nat, y.bytes.getD i (-1) = if T i then letterN 0 i else -1
 len : y.bytes.length <= n
 read : y.read = 0
 high : 0 <= y.highest /\ y.highest <= n
 cred : y.credit = g.c2
 fin : y.final = -1 \/ y.final = n
 rst : y.reset = false
 don : y.done = false
theorem Shuf.lett {g : Cfg} {n : Nat} {T : Nat -> Bool} {y : StrS} (h : Shuf g n T y) : Lett 0 0 y.bytes := by
 intro i
 rw [h.val i]
 split
 ·exact Or.inr (by rw [Int.zero_add])
 ·exact Or.inl rfl
theorem Shuf.pos {g : Cfg} {n : Nat} {T : Nat -> Bool} {y : StrS} (h : Shuf g n T y) (i : Nat) : decide (0 <= y.bytes.getD i (-1)) = T i := by
 rw [h.val i]
 have := (letterN_byte (st := 0) (p := i)).1
 cases T i
 ·simp
 ·simpa using this
theorem shuf_new (g : Cfg) (n : Nat) : Shuf g n (fun _ => false) (strNew g.c2) := ⟨fun i => by simp [strNew], by simp [strNew], rfl, by simp [strNew], rfl, Or.inl rfl, rfl, rfl⟩
theorem shuf_deal {g : Cfg} {n : Nat} {T : Nat -> Bool} {y : StrS} (h : Shuf g n T y) {a b : Int} (hab : 0 <= a /\ a <= b /\ b <= n) (hn : (n : Int) <= g.c2 /\ g.c2 <= g.c1) :
  (g.c4 < runsB (plusT T a b) n -> (strDeal g.c4 g.c1 y.highest ⟨if b = n then 4 else 3, 0, a, 0, lettersL 0 a (b - a).toNat⟩ y).1 = 8) /\
  (¬ g.c4 < runsB (plusT T a b) n -> ∃ y', strDeal g.c4 g.c1 y.highest ⟨if b = n then 4 else 3, 0, a, 0, lettersL 0 a (b - a).toNat⟩ y = (0, y') /\ Shuf g n (plusT T a b) y' /\ (b = n \/ y.final = n -> y'.final = n)) := by
 have hl := lettersL_len 0 a (b - a).toNat
 have he : a + (((b - a).toNat : Nat) : Int) = b := by omega
 obtain ⟨m, h1, h2, h3, h4, _⟩ := recvTo_letters (rd := 0) (fr := a) h.lett (b - a).toNat (b - a).toNat (Nat.le_refl _)
 have hlen := h.len
 have hml : m.length <= n := by omega
 have hv : ∀ i : Nat, m.getD i (-1) = if plusT T a b i then letterN 0 i else -1 := by
  intro i
  rw [h2 i, h.val i]
  unfold plusT
  by_cases hc : a - 0 <= (i : Int) /\ (i : Int) < a - 0 + (((b - a).toNat : Nat) : Int)
  ·rw [if_pos hc, decide_eq_true (by omega), decide_eq_true (by omega), Int.zero_add]
   simp
  ·rw [if_neg hc]
   have e : (decide (a <= (i : Int)) && decide ((i : Int) < b)) = false := by
    by_cases e1 : a <= (i : Int)
    ·rw [decide_eq_false (p := (i : Int) < b) (by omega), Bool.and_false]
    ·rw [decide_eq_false e1, Bool.false_and]
   rw [e, Bool.or_false]
 have hp : ∀ i : Nat, decide (0 <= m.getD i (-1)) = plusT T a b i := by
  intro i
  rw [hv i]
  have := (letterN_byte (st := 0) (p := i)).1
  cases plusT T a b i
  ·simp
  ·simpa using this
 have hrn : runsTo m m.length = runsB (plusT T a b) n := by
  rw [runsTo_is hp, runsB_past (m := m.length) (fun i hi => ?_) n hml]
  rw [<- hp i, List.getD_eq_getElem?_getD, List.getElem?_eq_none hi]
  rfl
 have hbad : badF y b (decide ((if b = (n : Int) then (4 : Int) else 3) ≠ 3)) = false := by
  have hh := h.high
  unfold badF
  rw [h.don]
  by_cases e : b = (n : Int)
  ·rw [if_pos e, decide_eq_false (p := b < y.highest) (by omega)]
   rcases h.fin with e2 | e2
   ·rw [e2]; simp
   ·rw [decide_eq_false (p := y.final < b) (by rw [e2]; omega), decide_eq_false (p := b ≠ y.final) (by rw [e2, e]; simp)]; simp
  ·rw [if_neg e]
   rcases h.fin with e2 | e2
   ·rw [e2]; simp
   ·rw [decide_eq_false (p := y.final < b) (by rw [e2]; omega)]; simp
 have hov : overS y b g.c1 y.highest = false := by
  have hh := h.high
  unfold overS moreS
  rw [h.cred, decide_eq_false (by omega), decide_eq_false (by split <;> omega)]
  rfl
 have hrv : recvS g.c4 y a (lettersL 0 a (b - a).toNat) = if g.c4 < runsB (plusT T a b) n then (8, y) else (0, { y with bytes := m }) := by
  unfold recvS
  rw [h.read, hl, h1]
  simp only
  rw [hrn]
 have h5 : (if b = (n : Int) then (4 : Int) else 3) ≠ 5 := by split <;> decide
 have hS : strDeal g.c4 g.c1 y.highest ⟨if b = (n : Int) then 4 else 3, 0, a, 0, lettersL 0 a (b - a).toNat⟩ y = if (recvS g.c4 y a (lettersL 0 a (b - a).toNat)).1 ≠ 0 then ((recvS g.c4 y a (lettersL 0 a (b - a).toNat)).1, y) else (0, passS ⟨if b = (n : Int) then 4 else 3, 0, a, 0, lettersL 0 a (b - a).toNat⟩ y (recvS g.c4 y a (lettersL 0 a (b - a).toNat)).2) := by
  unfold strDeal
  simp only [hl]
  rw [he, hbad, hov, if_neg (by decide), h.don, if_neg (by decide), if_neg (by decide), if_pos ⟨h5, h.rst⟩]
 rw [hS, hrv]
 refine ⟨fun hg => ?_, fun hg => ?_⟩
 ·rw [if_pos hg]
  rfl
 ·rw [if_neg hg]
  refine ⟨_, if_neg (by simp), ?_, ?_⟩
  ·unfold passS
   simp only [hl]
   rw [he, if_neg (fun e => h5 e.1)]
   have hh := h.high
   refine ⟨hv, hml, h.read, ?_, h.cred, ?_, h.rst, h.don⟩
   ·simp only
    unfold moreS
    split <;> omega
   ·simp only
    by_cases e : b = (n : Int)
    ·rw [if_pos e, if_pos (by decide)]
     exact Or.inr e
    ·rw [if_neg e, if_neg (by decide)]
     exact h.fin
  ·intro hf
   unfold passS
   simp only [hl]
   rw [he, if_neg (fun e => h5 e.1)]
   simp only
   by_cases e : b = (n : Int)
   ·rw [if_pos e, if_pos (by decide)]
    exact e
   ·rw [if_neg e, if_neg (by decide)]
    rcases hf with hf | hf
    ·exact absurd hf e
    ·exact hf
def numsA (i : Nat) : List (Int × Int) := if i = 0 then [] else [(0, (i : Int) - 1), (1000, 999 + (i : Int))]
def numsB (i : Nat) : List (Int × Int) := if i = 0 then [(0, 0)] else [(0, (i : Int)), (1000, 999 + (i : Int))]
theorem comes_two (mark n : Int) (r0 r1 : Int × Int) (hm : ¬ n < mark) {s1 s2 : ComS} (h1 : comStep n ⟨[], n, n, false⟩ r0 = some s1) (h2 : comStep n s1 r1 = some s2) (hl : ((comAll s2).map (comFix n s2.lo s2.hi)).length <= 4) : comesS mark [r0, r1] n = some (mark, (comAll s2).map (comFix n s2.lo s2.hi)) := by
 unfold comesS
 rw [if_neg hm]
 have e : comTo n [r0, r1] [r0, r1].length = some s2 := by
  show comTo n [r0, r1] 2 = some s2
  rw [comTo, comTo, comTo]
  simp only [Option.bind_some]
  rw [show ([r0, r1] : List (Int × Int)).getD 0 (0, 0) = r0 from rfl, show ([r0, r1] : List (Int × Int)).getD 1 (0, 0) = r1 from rfl, h1]
  simp only [Option.bind_some]
  exact h2
 rw [e]
 simp only [Option.map_some]
 rw [if_neg (by omega)]
theorem comes_A (i : Nat) (hi : i < 500) : comesS 0 (numsA i) i = some (0, numsB i) := by
 unfold numsA numsB
 by_cases h0 : i = 0
 ·subst h0
  rfl
 ·rw [if_neg h0, if_neg h0]
  have h1 : comStep (i : Int) ⟨[], i, i, false⟩ (0, (i : Int) - 1) = some ⟨[], 0, i, false⟩ := by
   unfold comStep
   simp only
   rw [if_neg (by omega), if_pos trivial]
  have h2 : comStep (i : Int) ⟨[], 0, i, false⟩ (1000, 999 + (i : Int)) = some ⟨[(0, (i : Int)), (1000, 999 + (i : Int))], 0, i, true⟩ := by
   unfold comStep
   simp only
   rw [if_neg (by omega), if_neg (by omega), if_neg (by omega), if_pos ⟨by omega, trivial⟩]
   rfl
  have hf : (comAll ⟨[(0, (i : Int)), (1000, 999 + (i : Int))], 0, i, true⟩).map (comFix (i : Int) 0 i) = [(0, (i : Int)), (1000, 999 + (i : Int))] := by
   unfold comAll comFix
   simp only [if_true, List.map_cons, List.map_nil]
   rw [if_pos (by omega), if_neg (by omega)]
  rw [comes_two 0 i _ _ (by omega) h1 h2 (by rw [hf]; simp), hf]
theorem comes_B (i : Nat) (hi : i < 500) : comesS 0 (numsB i) (1000 + i) = some (0, numsA (i + 1)) := by
 unfold numsA numsB
 by_cases h0 : i = 0
 ·subst h0
  rfl
 ·rw [if_neg h0, if_neg (by omega)]
  have h1 : comStep (1000 + (i : Int)) ⟨[], 1000 + i, 1000 + i, false⟩ (0, (i : Int)) = some ⟨[(0, (i : Int))], 1000 + i, 1000 + i, false⟩ := by
   unfold comStep
   simp only
   rw [if_neg (by omega), if_neg (by omega), if_neg (by omega), if_neg (by omega)]
   rfl
  have h2 : comStep (1000 + (i : Int)) ⟨[(0, (i : Int))], 1000 + i, 1000 + i, false⟩ (1000, 999 + (i : Int)) = some ⟨[(0, (i : Int))], 1000, 1000 + i, false⟩ := by
   unfold comStep
   simp only
   rw [if_neg (by omega), if_pos (by omega)]
  have hf : (comAll ⟨[(0, (i : Int))], 1000, 1000 + i, false⟩).map (comFix (1000 + (i : Int)) 1000 (1000 + i)) = [(0, (i : Int)), (1000, 1000 + (i : Int))] := by
   unfold comAll comFix
   simp only [Bool.false_eq_true, if_false, List.cons_append, List.nil_append, List.map_cons, List.map_nil]
   rw [if_neg (by omega), if_pos (by omega)]
  rw [comes_two 0 (1000 + i) _ _ (by omega) h1 h2 (by rw [hf]; simp), hf]
  simp only [Option.some.injEq, Prod.mk.injEq, true_and]
  rw [show ((i + 1 : Nat) : Int) - 1 = i by omega, show 999 + ((i + 1 : Nat) : Int) = 1000 + (i : Int) by omega]
def shufS (g : Cfg) (got sent : Int) (R : List (Int × Int)) (y : StrS) : SrvS := srvA g (conA g got sent R ((List.replicate g.c3.toNat (strNew g.c2)).set 0 y))
theorem shufS_at {g : Cfg} (hg : CfgOk g) (y : StrS) : ((List.replicate g.c3.toNat (strNew g.c2)).set 0 y)[(0 : Int).toNat]? = some y /\ highS ((List.replicate g.c3.toNat (strNew g.c2)).set 0 y) = y.highest := by
 have h3 := hg.c3
 refine ⟨?_, highS_news _ _ _ (by omega)⟩
 show ((List.replicate g.c3.toNat (strNew g.c2)).set 0 y)[0]? = some y
 rw [List.getElem?_set_self (by simp; omega)]
theorem shuf_recv {g : Cfg} (hg : CfgOk g) {n : Nat} {T : Nat -> Bool} {y : StrS} (h : Shuf g n T y) {a b : Int} (hab : 0 <= a /\ a <= b /\ b <= n) (hn : (n : Int) <= g.c2) {got sent p : Int} {R R' : List (Int × Int)} (hp : 0 <= p /\ p <= 1073741823) (hcom : comesS 0 R p = some (0, R')) :
  (g.c4 < runsB (plusT T a b) n -> receiveS (shufS g got sent R y) 1 (dataL 300 p (pieceL (if b = n then 4 else 3) 0 a b)) = (⟨g, 0, [], 1⟩, [(1, [4, 65, 44, 19, 8])])) /\
  (¬ g.c4 < runsB (plusT T a b) n -> ∃ got' y', receiveS (shufS g got sent R y) 1 (dataL 300 p (pieceL (if b = n then 4 else 3) 0 a b)) = (shufS g got' sent R' y', []) /\ Shuf g n (plusT T a b) y' /\ (b = n \/ y.final = n -> y'.final = n)) := by
 have h1 := hg.c1
 have h2 := hg.c2
 have hk : (if b = (n : Int) then (4 : Int) else 3) = 3 \/ (if b = (n : Int) then (4 : Int) else 3) = 4 := by split <;> simp
 obtain ⟨hd1, hd2⟩ := shuf_deal h hab ⟨hn, h2.2⟩
 generalize (if b = (n : Int) then (4 : Int) else 3) = kd at *
 obtain ⟨hf, hne⟩ := frame_piece (k := kd) (st := 0) (fr := a) (tt := b) (r := []) hk (by decide) ⟨by omega, by omega⟩ (by omega)
 rw [List.append_nil] at hf hne
 obtain ⟨m, hm⟩ : ∃ m : Nat, (dataL 300 p (pieceL kd 0 a b)).length = m + 1 := ⟨(dataL 300 p (pieceL kd 0 a b)).length - 1, by simp [dataL]⟩
 have hc2 : comesC { conA g got sent R ((List.replicate g.c3.toNat (strNew g.c2)).set 0 y) with got := got + ((m + 1 : Nat) : Int) } p = some (conA g (got + ((m + 1 : Nat) : Int)) sent R' ((List.replicate g.c3.toNat (strNew g.c2)).set 0 y)) := by
  unfold comesC
  simp only [conA]
  rw [hcom]
  rfl
 obtain ⟨hx, hh⟩ := shufS_at hg y
 have hstep : conStep g (1 + 1) (conA g (got + ((m + 1 : Nat) : Int)) sent R' ((List.replicate g.c3.toNat (strNew g.c2)).set 0 y)) ⟨kd, 0, a, 0, lettersL 0 a (b - a).toNat⟩ = ((strDeal g.c4 g.c1 y.highest ⟨kd, 0, a, 0, lettersL 0 a (b - a).toNat⟩ y).1, conA g (got + ((m + 1 : Nat) : Int)) sent R' ((List.replicate g.c3.toNat (strNew g.c2)).set 0 (strDeal g.c4 g.c1 y.highest ⟨kd, 0, a, 0, lettersL 0 a (b - a).toNat⟩ y).2)) := by
  rw [conStep_bytes (by exact hk), conDeal_some (x := y) hx]
  simp only [conA, hh]
  rw [show (0 : Int).toNat = 0 from rfl, List.set_set]
 have hfr : conFrames g (1 + 1) (conA g (got + ((m + 1 : Nat) : Int)) sent R' ((List.replicate g.c3.toNat (strNew g.c2)).set 0 y)) (pieceL kd 0 a b) (m + 1) = if (strDeal g.c4 g.c1 y.highest ⟨kd, 0, a, 0, lettersL 0 a (b - a).toNat⟩ y).1 ≠ 0 then ⟨conA g (got + ((m + 1 : Nat) : Int)) sent R' ((List.replicate g.c3.toNat (strNew g.c2)).set 0 y), some (strDeal g.c4 g.c1 y.highest ⟨kd, 0, a, 0, lettersL 0 a (b - a).toNat⟩ y).1, true⟩ else ⟨conA g (got + ((m + 1 : Nat) : Int)) sent R' ((List.replicate g.c3.toNat (strNew g.c2)).set 0 (strDeal g.c4 g.c1 y.highest ⟨kd, 0, a, 0, lettersL 0 a (b - a).toNat⟩ y).2), none, false⟩ := by
  rw [conFrames_step hne hf (by rcases hk with e | e <;> simp [e]), hstep]
  simp only [List.drop_length]
  congr 1
  cases m <;> simp [conFrames]
 have hrec : receiveS (shufS g got sent R y) 1 (dataL 300 p (pieceL kd 0 a b)) = (conS ⟨g, 0, [conA g (got + ((m + 1 : Nat) : Int)) sent R' ((List.replicate g.c3.toNat (strNew g.c2)).set 0 y)], 1⟩ 0 (conA g (got + ((m + 1 : Nat) : Int)) sent R' ((List.replicate g.c3.toNat (strNew g.c2)).set 0 y)) (conFrames g (1 + 1) (conA g (got + ((m + 1 : Nat) : Int)) sent R' ((List.replicate g.c3.toNat (strNew g.c2)).set 0 y)) (pieceL kd 0 a b) (m + 1)), closedO (conFrames g (1 + 1) (conA g (got + ((m + 1 : Nat) : Int)) sent R' ((List.replicate g.c3.toNat (strNew g.c2)).set 0 y)) (pieceL kd 0 a b) (m + 1)) []) := by
  unfold receiveS shufS
  rw [if_neg (by decide), dgram_data (by decide) hp]
  simp only [hm]
  rw [if_neg (by decide)]
  unfold dataS
  rw [srvA_found g _ rfl]
  simp only [srvA, List.getElem?_cons_zero]
  rw [if_neg (by simp [conA])]
  rw [show (conA g got sent R ((List.replicate g.c3.toNat (strNew g.c2)).set 0 y)).got = got from rfl, hc2]
  simp only
  rw [frames_con (m + 1) (c := conA g (got + ((m + 1 : Nat) : Int)) sent R' ((List.replicate g.c3.toNat (strNew g.c2)).set 0 y)) (pieceL kd 0 a b) [] rfl]
  rfl
 rw [hrec, hfr]
 refine ⟨fun hgap => ?_, fun hgap => ?_⟩
 ·rw [hd1 hgap, if_pos (by decide)]
  refine Prod.ext ?_ ?_
  ·simp [conS, conA]
  ·simp only [closedO]
   unfold newsO
   rw [if_pos (by simp [newsMay, conA])]
   simp [newsL, putL, conA]
 ·obtain ⟨y', e1, e2, e3⟩ := hd2 hgap
  rw [e1]
  refine ⟨got + ((m + 1 : Nat) : Int), y', ?_, e2, e3⟩
  rw [if_neg (by simp)]
  refine Prod.ext ?_ ?_
  ·simp [conS, conA, shufS, srvA]
  ·rfl
theorem shuf_read {g : Cfg} (hg : CfgOk g) {n : Nat} {T : Nat -> Bool} {y : StrS} (h : Shuf g n T y) (hn : (n : Int) <= g.c2) (hall : ∀ i, i < n -> T i = true) (hf : y.final = n) (got sent : Int) (R : List (Int × Int)) :
  (readS (shufS g got sent R y) 300 0 5000).1 = 0 /\ (readS (shufS g got sent R y) 300 0 5000).2.1 = ⟨lettersL 0 0 n, true, false⟩ := by
 have h1 := hg.c1
 have h2 := hg.c2
 have h3 := hg.c3
 have hb : y.bytes = lettersL 0 0 n := by
  have hl := lettersL_len 0 0 n
  have hlen : y.bytes.length = n := by
   rcases Nat.lt_or_ge y.bytes.length n with hlt | hge
   ·have e := h.pos y.bytes.length
    rw [hall _ hlt, List.getD_eq_getElem?_getD, List.getElem?_eq_none (Nat.le_refl _)] at e
    simp at e
   ·have := h.len
    omega
  refine List.ext_getElem (by omega) fun i hi hi2 => ?_
  have e := h.val i
  rw [hall i (by omega), List.getD_eq_getElem?_getD, List.getElem?_eq_getElem hi] at e
  simp only [Option.getD_some, if_true] at e
  rw [e]
  simp [lettersL]
 obtain ⟨hx, _⟩ := shufS_at hg y
 have hlead : leadS y.bytes = n := by
  rw [hb, leadS_all (letters_nonneg 0 0 n), lettersL_len]
 have hk : takeK y 5000 = n := by
  unfold takeK
  rw [hlead]
  omega
 have hS : readS (shufS g got sent R y) 300 0 5000 = (0, (readX y 5000).1, { shufS g got sent R y with conns := (shufS g got sent R y).conns.set 0 (readC g (conA g got sent R ((List.replicate g.c3.toNat (strNew g.c2)).set 0 y)) 0 y 5000).1 }, (readC g (conA g got sent R ((List.replicate g.c3.toNat (strNew g.c2)).set 0 y)) 0 y 5000).2) := by
  unfold readS shufS
  rw [srvA_found g _ rfl]
  simp only [srvA, List.getElem?_cons_zero]
  rw [if_neg (by simp [conA]), if_neg (by simp [conA]; omega)]
  have e : (conA g got sent R ((List.replicate g.c3.toNat (strNew g.c2)).set 0 y)).streams[(0 : Int).toNat]? = some y := hx
  rw [e]
  rfl
 rw [hS]
 refine ⟨rfl, ?_⟩
 show (readX y 5000).1 = _
 unfold readX
 simp only [hk, h.rst, h.read, hf, hb]
 rw [show (lettersL 0 0 n).take n = lettersL 0 0 n from List.take_of_length_le (by rw [lettersL_len]; omega)]
 simp
end Go.Proofs.YthmdjhlhodpbhaaGreatDoor
