/- Tokens, 36 -/
import Derived.Test.YthmdjhlhodpbhaaGreatDoorT03
import Derived.Test.YthmdjhlhodpbhaaGreatDoorT35
set_option maxHeartbeats 16000000
set_option maxRecDepth 8000
namespace Go.Proofs.YthmdjhlhodpbhaaGreatDoor
open Go.RowKit
theorem OutsAt.sf {w0 w w' : World} {b : Nat} {v : Value} {o : List (Int × List Int)} (h : OutsAt w b v o) (hc : Chg (SF w0 w) w w') : OutsAt w' b v o :=
  h.chg hc (fun k cur fr hk => SF.not hk (by simp [SrvT])) (fun k cur fr hk => SF.not hk (by simp [SrvT]))
theorem RdB.sf {w0 w w' : World} {v : Value} {l : List Int} (h : RdB w v l) (hc : Chg (SF w0 w) w w') : RdB w' v l :=
  h.chg hc (fun k cur fr hk => SF.not hk (by simp [SrvT]))
theorem box_sf {w0 w w' : World} {k : Nat} {cur : Array Value} {T : TypeId} {fr : Nat × Nat} (h : w.heap[k]? = some (.cells cur T fr)) (hT : ¬ SrvT T) (hc : Chg (SF w0 w) w w') : w'.heap[k]? = some (.cells cur T fr) :=
  (hc.block k (Array.getElem?_eq_some_iff.1 h).1 (SF.not h hT)).trans h
theorem box_below {w w' : World} {k : Nat} {o : Obj} (h : w.heap[k]? = some o) (hb : Below w.heap.size w w') : w'.heap[k]? = some o :=
  (hb.block k (Array.getElem?_eq_some_iff.1 h).1).trans h
theorem OutsAt.below {w w' : World} {b : Nat} {v : Value} {o : List (Int × List Int)} (h : OutsAt w b v o) (hb : Below w.heap.size w w') : OutsAt w' b v o :=
  h.chg (F := fun _ => False) (Chg.of_below hb) (fun _ _ _ _ h => h) (fun _ _ _ _ h => h)
theorem outs_one {w : World} {base : Nat} {v : Value} {a : Int} {B : List Int} (h : OutsAt w base v [(a, B)]) : ∃ g cap bv, v = .slice (some ⟨g, 0, none⟩) 1 cap /\ w.cell? ⟨g, 0, none⟩ = some (.int .i64 a) /\ w.cell? ⟨g, 1, none⟩ = some bv /\ w.ownsRow base 5 1 bv B.length (U8 B) := by
  obtain ⟨out, h1, h2⟩ := h
  have hl : out.length = 1 := h2.1
  match out, hl with
  | [x], _ =>
    obtain ⟨e1, e2⟩ := h2.2.1 0 x (a, B) rfl rfl
    rcases h1.2 with ⟨_, e⟩ | ⟨g, cap, cur, hv, hg, hb, hc⟩
    . simp at e
    . subst hv
      have c0 := h1.cellAt 0 (by simp)
      have c1 := h1.cellAt 1 (by simp)
      refine ⟨g, cap, x.2, rfl, ?_, ?_, e2⟩
      . rw [c0, show a = x.1 from e1.symm]
        rfl
      . rw [c1]
        rfl
def awakeG : Cfg := ⟨1, 16, 8, 1, 2, 0, 10, 5, 1000, 0⟩
def aw1 : SrvS × List (Int × List Int) := receiveS (srvNew awakeG) 7 (helloL 5 (tokenL 0 7 3) [])
def aw2 : Int × Int × SrvS := acceptS aw1.1
def aw3 : SrvS × List (Int × List Int) := receiveS aw2.2.2 7 (dataL 5 1 [4, 0, 2, 1, 99])
def aw4 : SrvS × List (Int × List Int) := receiveS aw3.1 7 (dataL 5 0 [3, 0, 0, 2, 97, 98])
def aw5 : Int × GotS × SrvS × List (Int × List Int) := readS aw4.1 5 0 9
theorem aw1_out : aw1.2 = [(7, [4, 5, 20, 131, 19, 76, 254, 16, 8, 1])] := by kernel_rfl
theorem aw_rest : (aw2.1, aw2.2.1, aw5.1, aw5.2.1.bytes, aw5.2.1.fin, aw5.2.1.rst) = (5, 0, 0, [97, 98, 99], true, false) := by kernel_rfl
theorem aw_right : awakeG.right = true := by kernel_rfl
theorem aw_tok : tokE 1 16 8 1 2 0 10 5 1000 0 7 3 = 0 := by kernel_rfl
theorem aw_hello : (helloL 5 (tokenL 0 7 3) []).length = 12 := by kernel_rfl
theorem aw_abc : strOfNums [97, 98, 99] = { data := #[97, 98, 99] } := by kernel_rfl
theorem kawake_any (w : World) (hE : Env w) : Calls Tryz.prog 24 #[] w fun e w' => e = .returned (.bool true) /\ Below w.heap.size w w' := by
  have hb0 : Below w.heap.size w (w.alloc (.cells #[.int .i64 1, .int .i64 16, .int .i64 8, .int .i64 1, .int .i64 2, .int .i64 0, .int .i64 10, .int .i64 5, .int .i64 1000, .int .i64 0] 26)) := below_alloc w _
  have HX : Hid ((w.alloc (.cells #[.int .i64 1, .int .i64 16, .int .i64 8, .int .i64 1, .int .i64 2, .int .i64 0, .int .i64 10, .int .i64 5, .int .i64 1000, .int .i64 0] 26)).heap[w.heap.size]? = some (.cells #[.int .i64 1, .int .i64 16, .int .i64 8, .int .i64 1, .int .i64 2, .int .i64 0, .int .i64 10, .int .i64 5, .int .i64 1000, .int .i64 0] 26 (0, 0))) := heap_alloc_new w _
  have HNew := hideIt (live_new w awakeG aw_right _ hb0)
  have HTk := hideIt (fun W => Token_any 1 16 8 1 2 0 10 5 1000 0 7 3 W)
  rw [aw_tok] at HTk
  have E0 : ∀ (sb : Nat) (W : World), (binOp .eql 37 (.pointer (some ⟨sb, 0, none⟩)) (.pointer none)).run Tryz.prog W = .ok (.bool false) W := fun sb W => by kernel_rfl
  have HE := hideIt hE
  clear hE hb0
  go_enter Tryz.func24, Tryz.ntmps24
  go_wp2_with fail
  refine HNew.out.mono ?_
  rintro e w2 ⟨⟨sb, rfl, hL⟩, hb2⟩
  have HL := hideIt hL
  have x2 := box_below HX.out hb2
  have HX2 := hideIt x2
  clear hL hb2 HX HNew
  have c0 : w2.cell? ⟨w.heap.size, 0, none⟩ = some (.int .i64 1) := box_cells x2 0
  have c1 : w2.cell? ⟨w.heap.size, 1, none⟩ = some (.int .i64 16) := box_cells x2 1
  have c2 : w2.cell? ⟨w.heap.size, 2, none⟩ = some (.int .i64 8) := box_cells x2 2
  have c3 : w2.cell? ⟨w.heap.size, 3, none⟩ = some (.int .i64 1) := box_cells x2 3
  have c4 : w2.cell? ⟨w.heap.size, 4, none⟩ = some (.int .i64 2) := box_cells x2 4
  have c5 : w2.cell? ⟨w.heap.size, 5, none⟩ = some (.int .i64 0) := box_cells x2 5
  have c6 : w2.cell? ⟨w.heap.size, 6, none⟩ = some (.int .i64 10) := box_cells x2 6
  have c7 : w2.cell? ⟨w.heap.size, 7, none⟩ = some (.int .i64 5) := box_cells x2 7
  have c8 : w2.cell? ⟨w.heap.size, 8, none⟩ = some (.int .i64 1000) := box_cells x2 8
  have c9 : w2.cell? ⟨w.heap.size, 9, none⟩ = some (.int .i64 0) := box_cells x2 9
  clear x2
  go_wp2_with fail
  refine (HTk.out w2).mono ?_
  rintro e w3 ⟨tv, rfl, ht, hb3⟩
  obtain ⟨t1, t2, rfl⟩ := own_form ht
  rw [show tokM 1 16 8 1 2 0 10 5 1000 0 7 3 = tokenL 0 7 3 by unfold tokM; rw [aw_tok]; rfl] at ht ⊢
  rw [show (tokenL 0 7 3).length = 9 by kernel_rfl] at ht ⊢
  have HHe := hideIt (khello_any 5 (tokenL 0 7 3) [] (.slice t1 9 t2) (.slice none 0 0) w3 (by decide) (RdB.of_own ht (tokenL_bytes _ _ _ (by decide) (by decide)) (by decide)) (RdB.nil _) (by decide) (by decide))
  have HL3 := hideIt (HL.out.below hb3)
  clear c0 c1 c2 c3 c4 c5 c6 c7 c8 c9 ht hb3 HTk HX2 HL
  go_wp2_with fail
  refine HHe.out.mono ?_
  rintro e w4 ⟨hv, rfl, ho, hb4⟩
  obtain ⟨h1, h2, rfl⟩ := own_form ho
  rw [aw_hello] at ho ⊢
  have HRc := hideIt ((HL3.out.below hb4).receive HE.out 7 (RdB.of_own ho (helloL_bytes (by decide) (tokenL_bytes _ _ _ (by decide) (by decide)) Bytes.nil (by decide)) (by decide)) (by decide) (by decide) (by decide) (by decide))
  clear ho hb4 HHe HL3
  go_wp2_with fail
  refine HRc.out.mono ?_
  rintro e w5 ⟨⟨v5, rfl, ho5⟩, hL5, _⟩
  have HO5 : Hid (OutsAt w5 w4.heap.size v5 [(7, [4, 5, 20, 131, 19, 76, 254, 16, 8, 1])]) := by
    show OutsAt _ _ _ _
    rw [<- aw1_out]
    exact ho5
  obtain ⟨l1, l2, rfl⟩ := HO5.out.form
  rw [show ([(7, [4, 5, 20, 131, 19, 76, 254, 16, 8, 1])] : List (Int × List Int)).length = 1 from rfl] at HO5
  have HL5 : Hid (Live w 20 1000 10 w5 sb aw1.1) := hL5.mono (by decide) (by decide) (by decide)
  clear ho5 hL5 HRc
  have hrest := aw_rest
  simp only [Prod.mk.injEq] at hrest
  obtain ⟨r1, r2, r3, r4, r5, r6⟩ := hrest
  have HAc := hideIt HL5.out.accept
  rw [show (acceptS aw1.1).1 = 5 from r1, show (acceptS aw1.1).2.1 = 0 from r2] at HAc
  have HR5 := hideIt (And.intro r3 (And.intro r4 (And.intro r5 r6)))
  clear r1 r2 r3 r4 r5 r6
  go_wp2_with fail
  refine HAc.out.mono ?_
  rintro e w6 ⟨rfl, hL6, hc6⟩
  have HL6 : Hid (Live w 20 1000 10 w6 sb aw2.2.2) := hL6
  have HO6 := hideIt (HO5.out.sf hc6)
  clear hL6 hc6 HO5 HL5 HAc
  have hb7 : Below w6.heap.size w6 (w6.alloc (.cells #[.int .u8 4, .int .u8 0, .int .u8 2, .int .u8 1, .int .u8 99] 5)) := below_alloc w6 _
  have HD1 := hideIt (kdata_any 5 1 [4, 0, 2, 1, 99] (.slice (some ⟨w6.heap.size, 0, none⟩) 5 5) (w6.alloc (.cells #[.int .u8 4, .int .u8 0, .int .u8 2, .int .u8 1, .int .u8 99] 5)) (by decide) (by decide) (RdB.lit w6 [4, 0, 2, 1, 99] (by unfold Bytes; decide) (by decide) (by decide)) (by decide))
  have HL7 := hideIt (HL6.out.below hb7)
  have HO7 := hideIt (HO6.out.below hb7)
  clear hb7 HL6 HO6
  go_wp2_with fail
  refine HD1.out.mono ?_
  rintro e w8 ⟨dv, rfl, hd, hb8⟩
  obtain ⟨d1, d2, rfl⟩ := own_form hd
  rw [show (dataL 5 1 [4, 0, 2, 1, 99]).length = 8 by kernel_rfl] at hd ⊢
  have HRc := hideIt ((HL7.out.below hb8).receive HE.out 7 (RdB.of_own hd (dataL_bytes (by decide) (by decide) (by unfold Bytes; decide)) (by decide)) (by decide) (by decide) (by decide) (by decide))
  have HO8 := hideIt (HO7.out.below hb8)
  clear hd hb8 HD1 HL7 HO7
  go_wp2_with fail
  refine HRc.out.mono ?_
  rintro e w9 ⟨⟨v9, rfl, _⟩, hL9, hc9⟩
  have HL9 : Hid (Live w 50 2000 20 w9 sb aw3.1) := hL9.mono (by decide) (by decide) (by decide)
  have HO9 := hideIt (HO8.out.sf hc9)
  clear hL9 hc9 HRc HO8
  have hb10 : Below w9.heap.size w9 (w9.alloc (.cells #[.int .u8 3, .int .u8 0, .int .u8 0, .int .u8 2, .int .u8 97, .int .u8 98] 5)) := below_alloc w9 _
  have HD2 := hideIt (kdata_any 5 0 [3, 0, 0, 2, 97, 98] (.slice (some ⟨w9.heap.size, 0, none⟩) 6 6) (w9.alloc (.cells #[.int .u8 3, .int .u8 0, .int .u8 0, .int .u8 2, .int .u8 97, .int .u8 98] 5)) (by decide) (by decide) (RdB.lit w9 [3, 0, 0, 2, 97, 98] (by unfold Bytes; decide) (by decide) (by decide)) (by decide))
  have HL10 := hideIt (HL9.out.below hb10)
  have HO10 := hideIt (HO9.out.below hb10)
  clear hb10 HL9 HO9
  go_wp2_with fail
  refine HD2.out.mono ?_
  rintro e w11 ⟨dv, rfl, hd, hb11⟩
  obtain ⟨d3, d4, rfl⟩ := own_form hd
  rw [show (dataL 5 0 [3, 0, 0, 2, 97, 98]).length = 9 by kernel_rfl] at hd ⊢
  have HRc := hideIt ((HL10.out.below hb11).receive HE.out 7 (RdB.of_own hd (dataL_bytes (by decide) (by decide) (by unfold Bytes; decide)) (by decide)) (by decide) (by decide) (by decide) (by decide))
  have HO11 := hideIt (HO10.out.below hb11)
  clear hd hb11 HD2 HL10 HO10
  go_wp2_with fail
  refine HRc.out.mono ?_
  rintro e w12 ⟨⟨v12, rfl, _⟩, hL12, hc12⟩
  have HL12 : Hid (Live w 100 3000 30 w12 sb aw4.1) := hL12.mono (by decide) (by decide) (by decide)
  have HO12 := hideIt (HO11.out.sf hc12)
  clear hL12 hc12 HRc HO11
  have HRd := hideIt (HL12.out.read 5 0 9 (by decide) (by decide) (by decide) (by decide))
  clear HL12
  go_wp2_with fail
  refine HRd.out.mono ?_
  rintro e w13 ⟨⟨gv, v13, rfl, hg, ho13⟩, hL13, hc13⟩
  have HB13 := hideIt hL13.bel
  have HO13 := hideIt (HO12.out.sf hc13)
  obtain ⟨g1, g2, rfl⟩ := own_form hg
  obtain ⟨s1, s2, rfl⟩ := ho13.form
  have q1 : (readS aw4.1 5 0 9).1 = 0 := HR5.out.1
  have q2 : (readS aw4.1 5 0 9).2.1.bytes = [97, 98, 99] := HR5.out.2.1
  have q3 : (readS aw4.1 5 0 9).2.1.fin = true := HR5.out.2.2.1
  have q4 : (readS aw4.1 5 0 9).2.1.rst = false := HR5.out.2.2.2
  rw [q2] at hg
  rw [q1, q2, q3, q4]
  generalize (readS aw4.1 5 0 9).2.2.2.length = nl
  have HG := hideIt hg
  clear hg ho13 hL13 hc13 HRd HO12 q1 q2 q3 q4 HR5
  rw [show ([97, 98, 99] : List Int).length = 3 from rfl] at HG ⊢
  have hb14 : Below w13.heap.size w13 (w13.alloc (.cells #[.slice g1 3 g2, .bool true, .bool false] 46)) := below_alloc w13 _
  obtain ⟨ga, gc, bv, e1, k0, k1, hbv⟩ := outs_one (HO13.out.below hb14)
  obtain ⟨bb, bc, e2, _, _, _⟩ := own_some hbv (by decide)
  have m0 := own_read (e2 ▸ hbv) 0 (by decide)
  have m2 := own_read (e2 ▸ hbv) 2 (by decide)
  simp only [Value.slice.injEq] at e1
  obtain ⟨rfl, _, rfl⟩ := e1
  subst e2
  have kc := conv_own (l := [97, 98, 99]) (own_below HG.out hb14)
  rw [aw_abc] at kc
  have HBf := hideIt (below_join HB13.out hb14)
  clear HG HO13 hbv hb14 HB13
  go_wp2_with fail
  go_ret
  exact ⟨rfl, HBf.out⟩
end Go.Proofs.YthmdjhlhodpbhaaGreatDoor
