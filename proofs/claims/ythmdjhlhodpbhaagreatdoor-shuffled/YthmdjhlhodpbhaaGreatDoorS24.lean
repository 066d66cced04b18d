/- Shuffled, 24 -/
import Derived.Test.YthmdjhlhodpbhaaGreatDoorS23
set_option maxHeartbeats 16000000
set_option maxRecDepth 8000
namespace Go.Proofs.YthmdjhlhodpbhaaGreatDoor
open Go.RowKit
def psrvC (g : Cfg) (now : Int) (cm : Nat) (wv : Value) : Array Value :=
 #[.int .i64 g.c0, .int .i64 g.c1, .int .i64 g.c2, .int .i64 g.c3, .int .i64 g.c4, .int .i64 g.c5, .int .i64 g.c6, .int .i64 g.c7, .int .i64 g.c8, .int .i64 g.c9, .int .i64 now, .map (some cm), wv]
def SBlk (w : World) (sb : Nat) (g : Cfg) (now : Int) (cm : Nat) (wv : Value) : Prop := w.heap[sb]? = some (.cells (psrvC g now cm wv) 101 (0, 0))
theorem SBlk.cell {w : World} {sb : Nat} {g : Cfg} {now : Int} {cm : Nat} {wv : Value} (h : SBlk w sb g now cm wv) (i : Nat) : w.cell? ⟨sb, i, none⟩ = (psrvC g now cm wv)[i]? := by
 unfold SBlk at h
 simp only [World.cell?, h]
 rfl
theorem SBlk.free {w : World} {sb : Nat} {g : Cfg} {now : Int} {cm : Nat} {wv : Value} (h : SBlk w sb g now cm wv) (i : Nat) : w.frozen? ⟨sb, i, none⟩ = false := frozen_of_row w sb i _ _ h
theorem SBlk.lt {w : World} {sb : Nat} {g : Cfg} {now : Int} {cm : Nat} {wv : Value} (h : SBlk w sb g now cm wv) : sb < w.heap.size := (Array.getElem?_eq_some_iff.1 h).1
theorem SBlk.chg {F : Nat -> Prop} {w w' : World} {sb : Nat} {g : Cfg} {now : Int} {cm : Nat} {wv : Value} (h : SBlk w sb g now cm wv) (hc : Chg F w w') (hF : ¬ F sb) : SBlk w' sb g now cm wv := by
 unfold SBlk
 rw [hc.block sb h.lt hF]
 exact h
theorem SBlk.below {w w' : World} {sb : Nat} {g : Cfg} {now : Int} {cm : Nat} {wv : Value} (h : SBlk w sb g now cm wv) (hb : Below w.heap.size w w') : SBlk w' sb g now cm wv := h.chg (F := fun _ => False) (Chg.of_below hb) (fun h => h)
theorem scost_any (sb : Nat) (g : Cfg) (now : Int) (cm : Nat) (wv : Value) (w : World) (h : SBlk w sb g now cm wv) (h1 : 0 <= g.c1 /\ g.c1 <= 1073741823) (h3 : 0 <= g.c3 /\ g.c3 <= 1073741823) :
  Calls Tryz.prog 55 #[.pointer (some ⟨sb, 0, none⟩)] w fun e w' => e = .returned (.int .i64 (costS g)) /\ ∃ q, w' = w.drewN q := by
 have d1 : w.cell? ⟨sb, 1, none⟩ = some (.int .i64 g.c1) := h.cell 1
 have d3 : w.cell? ⟨sb, 3, none⟩ = some (.int .i64 g.c3) := h.cell 3
 have w1 : IntKind.i64.wrap (64 + g.c1) = 64 + g.c1 := by rw [IntKind.wrap_i64]; omega
 have w2 : IntKind.i64.wrap (32 * g.c3) = 32 * g.c3 := by rw [IntKind.wrap_i64]; omega
 have w3 : IntKind.i64.wrap (64 + g.c1 + 32 * g.c3) = 64 + g.c1 + 32 * g.c3 := by rw [IntKind.wrap_i64]; omega
 clear h
 unfold costS
 go_enter Tryz.func55, Tryz.ntmps55
 go_wp2_with fail
 go_quiet (fail)
 go_wp2_with fail
 go_ret
 exact ⟨rfl, _, rfl⟩
theorem sMemory_any (sb : Nat) (g : Cfg) (now : Int) (cm : Nat) (wv : Value) (n : Nat) (l : List (Int × Nat)) (w : World) (h : SBlk w sb g now cm wv) (hm : MapIs ptrC Tryz.prog 3 w cm n l) (hl : l.length <= 1000) (h1 : 0 <= g.c1 /\ g.c1 <= 4096) (h3 : 0 <= g.c3 /\ g.c3 <= 8) :
  Calls Tryz.prog 28 #[.pointer (some ⟨sb, 0, none⟩)] w fun e w' => e = .returned (.int .i64 (l.length * costS g)) /\ ∃ q, w' = w.drewN q := by
 have d11 : w.cell? ⟨sb, 11, none⟩ = some (.map (some cm)) := h.cell 11
 have HC := hideIt (scost_any sb g now cm wv w h (by omega) (by omega))
 have hcr : 0 <= costS g /\ costS g <= 5000 := by unfold costS; omega
 have hw : IntKind.i64.wrap ((l.length : Int) * costS g) = l.length * costS g := by
  have h4 : 0 <= (l.length : Int) * costS g := Int.mul_nonneg (by omega) hcr.1
  have h5 : (l.length : Int) * costS g <= 1000 * 5000 := Int.mul_le_mul (by omega) hcr.2 hcr.1 (by omega)
  rw [IntKind.wrap_i64]
  omega
 have HM := hideIt hm
 generalize costS g = C at HC hw ⊢
 clear h hm hcr
 go_enter Tryz.func28, Tryz.ntmps28
 go_wp2_with (first
  | (at_len; refine wpList_mlen _ rfl _ 98 rfl 97 Tryz.underlying98 cm n l rfl HM.out ?_))
 refine HC.out.mono ?_
 rintro e w1 ⟨rfl, q, rfl⟩
 clear HC
 go_wp2_with fail
 go_ret
 exact ⟨rfl, q, rfl⟩
structure WaitOut (w : World) (sb : Nat) (g : Cfg) (now : Int) (cm : Nat) (wv : Value) (ws' : List Nat) (e : Ending) (w' : World) : Prop where
 ret : e = .returned (.tuple #[])
 ex : ∃ wv', SBlk w' sb g now cm wv' /\ w'.ownsRow 0 97 1 wv' ws'.length (ptrs ws') /\ (wv'.ownBlock = wv.ownBlock \/ ∀ k, wv'.ownBlock = some k -> w.heap.size <= k)
 chg : Chg (fun k => k = sb \/ wv.ownBlock = some k) w w'
theorem swait_any (sb : Nat) (g : Cfg) (now : Int) (cm : Nat) (wv : Value) (ws : List Nat) (cb : Nat) (w : World) (h : SBlk w sb g now cm wv) (hown : w.ownsRow 0 97 1 wv ws.length (ptrs ws)) (hn : ws.length <= 1000) :
  Calls Tryz.prog 146 #[.pointer (some ⟨sb, 0, none⟩), .pointer (some ⟨cb, 0, none⟩)] w fun e w' => WaitOut w sb g now cm wv (ws ++ [cb]) e w' := by
 obtain ⟨i0, hi, hz0, hz1, hz2⟩ := info_parts info_conp
 obtain ⟨ao, cap, rfl⟩ := own_formN hown
 have d12 : w.cell? ⟨sb, 12, none⟩ = some (.slice ao ws.length cap) := h.cell 12
 have hba : Below w.heap.size w (w.alloc (.cells #[.pointer (some ⟨cb, 0, none⟩)] 97)) := below_alloc w _
 have HAp : Hid (∀ ty, ∃ v' w', (Builtin.append_ #[99, 99] ty #[.slice ao ws.length cap, .slice (some ⟨w.heap.size, 0, none⟩) 1 1]).run Tryz.prog (w.alloc (.cells #[.pointer (some ⟨cb, 0, none⟩)] 97)) = .ok v' w' /\ w'.ownsRow 0 97 1 v' (ws.length + 1) (ptrs ws ++ [.pointer (some ⟨cb, 0, none⟩)]) /\ (w.alloc (.cells #[.pointer (some ⟨cb, 0, none⟩)] 97)).grownBy w' (Value.slice ao ws.length cap).ownBlock /\ (v'.ownBlock = (Value.slice ao ws.length cap).ownBlock \/ ∀ g, v'.ownBlock = some g -> (w.alloc (.cells #[.pointer (some ⟨cb, 0, none⟩)] 97)).heap.size <= g)) :=
  fun ty => run_append_at (P := Tryz.prog) _ 0 99 ty 97 i0 (.pointer none) 1 8 Tryz.underlying99 hi hz0 hz1 hz2 rfl (by decide) _ ws.length (ptrs ws) (own_below hown hba) ⟨w.heap.size, 0, none⟩ 1 1 [.pointer (some ⟨cb, 0, none⟩)] rfl (lit_cells w 97 [.pointer (some ⟨cb, 0, none⟩)] (by simp [maxLen])) (by simp [Value.oneCell']) (by unfold maxLen; omega) (by omega) (Nat.zero_le _)
 have HH := hideIt h
 have HO := hideIt hown
 obtain ⟨n, hnn⟩ : ∃ n, ws.length = n := ⟨_, rfl⟩
 have HNn := hideIt hnn
 rw [hnn] at d12 HAp HH HO ⊢
 have hns : (Value.slice ao n cap).ownBlock ≠ some sb := own_not_blockN HO.out HH.out (by decide)
 clear h hown hnn
 obtain ⟨v', w1, hrun, ho1, hg1, hat1⟩ := HAp.out 99
 obtain ⟨va, vc, rfl⟩ := own_formN ho1
 have hg2 := grown_after_alloc hg1
 have hS1 : SBlk w1 sb g now cm (.slice ao n cap) := by
  unfold SBlk
  rw [hg2.block sb HH.out.lt (fun e => hns e.symm)]
  exact HH.out
 have e12 : w1.cell? ⟨sb, 12, none⟩ = some (.slice ao n cap) := hS1.cell 12
 have z12 := hS1.free 12
 have HE : Hid (WaitOut w sb g now cm (.slice ao n cap) (ws ++ [cb]) (.returned (.tuple #[])) (w1.setCell ⟨sb, 12, none⟩ (.slice va (n + 1) vc))) := by
  have hw1 : SBlk (w1.setCell ⟨sb, 12, none⟩ (.slice va (n + 1) vc)) sb g now cm (.slice va (n + 1) vc) := block_set hS1 12 _
  refine ⟨rfl, ⟨_, hw1, ?_, ?_⟩, ?_⟩
  ·have h2 : ptrs ws ++ [.pointer (some ⟨cb, 0, none⟩)] = ptrs (ws ++ [cb]) := by simp [ptrs, ptrV]
   rw [h2] at ho1
   have h3 : (ws ++ [cb]).length = n + 1 := by simp [HNn.out]
   rw [h3]
   have hh : w1.heap[sb]? = some (.cells (psrvC g now cm (.slice ao n cap)) 101 (0, 0)) := hS1
   exact ownsRow_setCell_other ho1 (own_not_blockN ho1 hh (by decide)) _
  ·rcases hat1 with h1 | h1
   ·exact Or.inl h1
   ·exact Or.inr fun k hk => by have := h1 k hk; simp at this; omega
  ·have hc1 : Chg (fun k => k = sb \/ (Value.slice ao n cap).ownBlock = some k) w w1 := ⟨hg2.os, hg2.tape, hg2.output, hg2.size, fun k hk hne => hg2.block k hk (fun e => hne (Or.inr e.symm))⟩
   exact hc1.trans ((chg_set (Below.refl _ _) 12 _).mono fun k _ e => Or.inl e)
 have HRun := hideIt hrun
 clear hrun ho1 hg1 hat1 hg2 hS1 HAp HO HH hba hns
 go_enter Tryz.func146, Tryz.ntmps146
 go_wp2_with (first
  | (at_builtin; refine wpList_append_run' rfl _ _ 99 99 rfl _ _ rfl rfl HRun.out ?_; refine Hid.out ?_))
 refine hideIt ?_
 go_wp2_with fail
 go_end0
 exact HE.out
theorem swaitNoMore_any (sb : Nat) (g : Cfg) (now : Int) (cm : Nat) (wv : Value) (ws : List Nat) (cb : Nat) (w : World) (h : SBlk w sb g now cm wv) (hown : w.ownsRow 0 97 1 wv ws.length (ptrs ws)) (hn : ws.length <= 1000) (hb : ∀ b ∈ ws, IsConB w b) (hq : IsConB w cb) :
  Calls Tryz.prog 50 #[.pointer (some ⟨sb, 0, none⟩), .pointer (some ⟨cb, 0, none⟩)] w fun e w' => WaitOut w sb g now cm wv (ws.filter fun b => b != cb) e w' := by
 have hba : Below w.heap.size w (w.alloc (.cells #[.pointer (some ⟨cb, 0, none⟩)] 97)) := below_alloc w _
 have hbel : ∀ b, IsConB w b -> IsConB (w.alloc (.cells #[.pointer (some ⟨cb, 0, none⟩)] 97)) b := by
  rintro b ⟨cs, hc⟩
  exact ⟨cs, by rw [hba.block b (Array.getElem?_eq_some_iff.1 hc).1]; exact hc⟩
 have hpb : wv.ownBlock ≠ some w.heap.size := fun e => by have := (hown.lt _ e).2; omega
 have HD := hideIt (DelFuncC_any ws wv cb w.heap.size _ (own_below hown hba) hn (fun b hb' => hbel b (hb b hb')) (hbel cb hq) (by simp) hpb)
 obtain ⟨ao, cap, rfl⟩ := own_formN hown
 have hS0 := h.below hba
 have d12 : (w.alloc (.cells #[.pointer (some ⟨cb, 0, none⟩)] 97)).cell? ⟨sb, 12, none⟩ = some (.slice ao ws.length cap) := hS0.cell 12
 have hns : (Value.slice ao ws.length cap).ownBlock ≠ some sb := own_not_blockN hown h (by decide)
 have HEnd : Hid (∀ (w1 : World) (wv' : Value), w1.ownsRow 0 97 1 wv' (ws.filter fun b => b != cb).length (ptrs (ws.filter fun b => b != cb)) -> (w.alloc (.cells #[.pointer (some ⟨cb, 0, none⟩)] 97)).grownBy w1 (Value.slice ao ws.length cap).ownBlock -> wv'.ownBlock = (Value.slice ao ws.length cap).ownBlock -> SBlk w1 sb g now cm (.slice ao ws.length cap) /\ WaitOut w sb g now cm (.slice ao ws.length cap) (ws.filter fun b => b != cb) (.returned (.tuple #[])) (w1.setCell ⟨sb, 12, none⟩ wv')) := by
  intro w1 wv' ho hg hat
  have hg2 := grown_after_alloc hg
  have hS1 : SBlk w1 sb g now cm (.slice ao ws.length cap) := by
   unfold SBlk
   rw [hg2.block sb h.lt (fun e => hns e.symm)]
   exact h
  have hh : w1.heap[sb]? = some (.cells (psrvC g now cm (.slice ao ws.length cap)) 101 (0, 0)) := hS1
  refine ⟨hS1, rfl, ⟨_, block_set hS1 12 _, ownsRow_setCell_other ho (own_not_blockN ho hh (by decide)) _, Or.inl hat⟩, ?_⟩
  have hc1 : Chg (fun k => k = sb \/ (Value.slice ao ws.length cap).ownBlock = some k) w w1 := ⟨hg2.os, hg2.tape, hg2.output, hg2.size, fun k hk hne => hg2.block k hk (fun e => hne (Or.inr e.symm))⟩
  exact hc1.trans ((chg_set (Below.refl _ _) 12 _).mono fun k _ e => Or.inl e)
 generalize ws.filter (fun b => b != cb) = ws' at HD HEnd ⊢
 obtain ⟨n, hnn⟩ : ∃ n, ws.length = n := ⟨_, rfl⟩
 rw [hnn] at d12 HD HEnd ⊢
 clear h hown hnn hb hq hbel hpb hS0 hns hba hn
 go_enter Tryz.func50, Tryz.ntmps50
 go_wp2_with fail
 refine HD.out.mono ?_
 rintro e w1 ⟨wv', rfl, ho, hg, hat⟩
 obtain ⟨hS1, hwo⟩ := HEnd.out w1 wv' ho hg hat
 obtain ⟨va, vc, rfl⟩ := own_formN ho
 have e12 : w1.cell? ⟨sb, 12, none⟩ = some (.slice ao n cap) := hS1.cell 12
 have z12 := hS1.free 12
 have HE := hideIt hwo
 clear ho hg hat hS1 hwo HD HEnd
 go_wp2_with fail
 go_end0
 exact HE.out
theorem cProven_cell (cb : Nat) (b : Bool) (w : World) (d : w.cell? ⟨cb, 12, none⟩ = some (.bool b)) :
  Calls Tryz.prog 42 #[.pointer (some ⟨cb, 0, none⟩)] w fun e w' => e = .returned (.bool b) /\ w = w' := by
 go_enter Tryz.func42, Tryz.ntmps42
 go_wp2_with fail
 go_ret
 exact ⟨rfl, rfl⟩
def cntU (pv : Nat -> Bool) (l : List (Int × Nat)) : Nat := l.countP fun p => !pv p.2
theorem cntU_mid (pv : Nat -> Bool) (r1 r2 : List (Int × Nat)) (k : Int) (y : Nat) : cntU pv (r1 ++ (k, y) :: r2) = cntU pv (r1 ++ r2) + if pv y then 0 else 1 := by
 unfold cntU
 rw [List.countP_append, List.countP_cons, List.countP_append]
 cases pv y <;> simp <;> omega
theorem cntU_le (pv : Nat -> Bool) (l : List (Int × Nat)) : cntU pv l <= l.length := List.countP_le_length
theorem sunproven_any (sb : Nat) (g : Cfg) (now : Int) (cm : Nat) (wv : Value) (n : Nat) (l : List (Int × Nat)) (pv : Nat -> Bool) (w : World) (h : SBlk w sb g now cm wv) (hm : MapIs ptrC Tryz.prog 3 w cm n l) (hs : ∀ p ∈ l, w.cell? ⟨p.2, 12, none⟩ = some (.bool (pv p.2))) (hl : l.length <= 1000) :
  Calls Tryz.prog 92 #[.pointer (some ⟨sb, 0, none⟩)] w fun e w' => e = .returned (.int .i64 (cntU pv l : Nat)) /\ Below w.heap.size w w' := by
 have d11 : w.cell? ⟨sb, 11, none⟩ = some (.map (some cm)) := h.cell 11
 have hcl := cntU_le pv l
 have HM := hideIt hm
 have HS := hideIt hs
 clear h hm hs
 go_enter Tryz.func92, Tryz.ntmps92
 go_wp2_with (first
  | (at_range; refine wpList_mrange _ rfl _ 98 rfl 97 Tryz.underlying3 Tryz.underlying98 cm n l rfl HM.out ?_; intro w0 hrg0 hg0 hs0))
 have hb0 : Below w.heap.size w w0 := grown_below hg0
 have H0 := hideIt (And.intro hrg0 hb0)
 clear hrg0 hg0 hs0 hb0 d11
 go_frame
 go_loopw [3] (fun s wr => ∃ (rest : List (Int × Nat)) (cnt c : Nat), RangeIs ptrC Tryz.prog 3 wr cm w.heap.size n l rest cnt /\ s = .int .i64 (c : Nat) /\ Hid (c + cntU pv rest = cntU pv l) /\ Hid (∀ p ∈ rest, p ∈ l) /\ Below w.heap.size w wr) (fun _ wr => wr.rangeLeft cm w.heap.size)
 case atStart => exact ⟨l, _, 0, H0.out.1, rfl, hideIt (Nat.zero_add _), fun p hp => hp, H0.out.2⟩
 case round =>
  obtain ⟨rest, cnt, c, hrg, rfl, hsm, hsub, hbw⟩ := hrel
  have HBw := hideIt hbw
  have HRg := hideIt hrg
  clear hbw
  go_wp2_with (first
   | (at_next; refine wpList_mnext _ rfl _ rfl Tryz.underlying3 cm w.heap.size n l rest cnt rfl hrg ?_ ?_))
  ·intro hnil
   subst hnil
   have hc : c = cntU pv l := by have := hsm.out; simpa [cntU] using this
   go_wp2_with fail
   go_ret
   exact ⟨by rw [hc]; rfl, HBw.out⟩
  ·intro k y r1 r2 w1 cnt1 hre hwk hat hrg1 hlt hg1 hs1 hen
   have hky : (k, y) ∈ l := hsub.out _ (by rw [hre]; simp)
   have hb1 : Below w.heap.size w w1 := HBw.out.grown hg1 HBw.out.size (fun g hg => by cases hg; exact Nat.le_refl _)
   have hcell : w1.cell? ⟨y, 12, none⟩ = some (.bool (pv y)) := cell_below (HS.out (k, y) hky) hb1
   have hmid := cntU_mid pv r1 r2 k y
   rw [<- hre] at hmid
   have hsb : Hid (∀ p ∈ r1 ++ r2, p ∈ l) := fun p hp => hsub.out p (by rw [hre]; simp at hp ⊢; rcases hp with h | h <;> simp [h])
   have hcs := hsm.out
   have HE := hideIt (cProven_cell y (pv y) w1 hcell)
   have H1 := hideIt (And.intro hrg1 (And.intro hb1 (And.intro hlt hsb)))
   cases hp : pv y with
   | true =>
    rw [hp] at HE
    have HN : Hid (c + cntU pv (r1 ++ r2) = cntU pv l) := by
     show _ = _
     rw [hp] at hmid
     simp at hmid
     omega
    clear hmid hb1 hcell hky hrg1 hlt hsb hg1 hs1 hat hcs hp
    go_wp2_with fail
    refine HE.out.mono ?_
    rintro e w2 ⟨rfl, rfl⟩
    clear HE
    go_wp2_with fail
    go_roundw
    case rel => exact ⟨r1 ++ r2, cnt1, c, H1.out.1, rfl, HN, H1.out.2.2.2, H1.out.2.1⟩
    case measure =>
     have h1 := H1.out.1.left_eq
     have h2 := HRg.out.left_eq
     have h3 := H1.out.2.2.1
     rw [h1, h2]
     exact h3
   | false =>
    rw [hp] at HE
    have HN : Hid (c + 1 + cntU pv (r1 ++ r2) = cntU pv l) := by
     show _ = _
     rw [hp] at hmid
     simp at hmid
     omega
    have hcb : (c : Int) <= 1000 := by omega
    clear hmid hb1 hcell hky hrg1 hlt hsb hg1 hs1 hat hcs hp
    go_wp2_with fail
    refine HE.out.mono ?_
    rintro e w2 ⟨rfl, rfl⟩
    clear HE
    go_wp2_with fail
    go_roundw
    case rel => exact ⟨r1 ++ r2, cnt1, c + 1, H1.out.1, by go_num, HN, H1.out.2.2.2, H1.out.2.1⟩
    case measure =>
     have h1 := H1.out.1.left_eq
     have h2 := HRg.out.left_eq
     have h3 := H1.out.2.2.1
     rw [h1, h2]
     exact h3
structure PSrv (N : Nat) (w : World) (sb : Nat) (s : SrvS) (cm : Nat) (wv : Value) (cbs : List Nat) (xs : List ConX) (ws : List Nat) : Prop where
 blk : SBlk w sb s.c s.now cm wv
 map : ∃ n, n <= N /\ MapIs ptrC Tryz.prog 3 w cm n ((s.conns.map (·.cid)).zip cbs)
 len1 : cbs.length = s.conns.length
 len2 : xs.length = s.conns.length
 con : ∀ (i : Nat) c cb a, s.conns[i]? = some c -> cbs[i]? = some cb -> xs[i]? = some a -> ConAt N w cb s.c c a
 row : w.ownsRow 0 97 1 wv ws.length (ptrs ws)
 wait : ∃ cs, WaitIs s.conns cs /\ ws.length = cs.length /\ ∀ (j : Nat) b, ws[j]? = some b -> ∃ (i : Nat) (c : ConS), s.conns[i]? = some c /\ cbs[i]? = some b /\ cs[j]? = some c.cid
 apart : ∀ (i j : Nat) cb a cb' a', i ≠ j -> cbs[i]? = some cb -> xs[i]? = some a -> cbs[j]? = some cb' -> xs[j]? = some a' -> ∀ k, ConF cb a k -> ¬ ConF cb' a' k
 mne : ∀ (i : Nat) cb a, cbs[i]? = some cb -> xs[i]? = some a -> ¬ ConF cb a cm
def SrvF (sb cm : Nat) (wv : Value) (cbs : List Nat) (xs : List ConX) (k : Nat) : Prop := k = sb \/ k = cm \/ wv.ownBlock = some k \/ ∃ (i : Nat) (cb : Nat) (a : ConX), cbs[i]? = some cb /\ xs[i]? = some a /\ ConF cb a k
theorem ConF_lt {N : Nat} {w : World} {cb : Nat} {g : Cfg} {c : ConS} {a : ConX} (h : ConAt N w cb g c a) {k : Nat} (hk : ConF cb a k) : k < w.heap.size := by
 obtain ⟨vs, hvs⟩ := h.pk
 obtain ⟨n1, _, hm1⟩ := h.smap
 obtain ⟨n2, _, hm2⟩ := h.dmap
 rcases hk with rfl | e | rfl | rfl | ⟨p, hp, e⟩
 ·exact h.blk.lt
 ·exact (hvs.own.lt _ e).2
 ·exact hm1.lt
 ·exact hm2.lt
 ·obtain ⟨_, x, hx, _⟩ := h.mp.str p hp
  have hs := h.str p hp x hx
  rcases e with rfl | e
  ·exact hs.lt
  ·obtain ⟨vs1, ho1⟩ := hs.own
   exact (ho1.lt _ e).2
theorem ConF_type {N : Nat} {w : World} {cb : Nat} {g : Cfg} {c : ConS} {a : ConX} (h : ConAt N w cb g c a) {k : Nat} {cur : Array Value} {e : TypeId} {fr : Nat × Nat} (hk : w.heap[k]? = some (.cells cur e fr)) (h1 : e ≠ 137) (h2 : e ≠ 279) (h3 : e ≠ 204) (h4 : e ≠ 259) : ¬ ConF cb a k := by
 obtain ⟨vs, hvs⟩ := h.pk
 obtain ⟨n1, _, hm1⟩ := h.smap
 obtain ⟨n2, _, hm2⟩ := h.dmap
 rintro (rfl | e' | rfl | rfl | ⟨p, hp, e'⟩)
 ·have h5 := h.blk
  unfold ConBlk at h5
  rw [h5] at hk
  simp only [Option.some.injEq, Obj.cells.injEq] at hk
  exact h1 hk.2.1.symm
 ·exact own_not_blockN hvs.own hk (fun e => h2 e.symm) e'
 ·obtain ⟨es, ck, hb⟩ := hm1.is_map
  rw [hb] at hk
  cases hk
 ·obtain ⟨es, ck, hb⟩ := hm2.is_map
  rw [hb] at hk
  cases hk
 ·obtain ⟨_, x, hx, _⟩ := h.mp.str p hp
  have hs := h.str p hp x hx
  rcases e' with rfl | e'
  ·rw [hs.blk] at hk
   simp only [Option.some.injEq, Obj.cells.injEq] at hk
   exact h3 hk.2.1.symm
  ·obtain ⟨vs1, ho1⟩ := hs.own
   exact own_not_blockN ho1 hk (fun e => h4 e.symm) e'
theorem PSrv.step {N N' : Nat} {w w' : World} {sb : Nat} {s : SrvS} {cm : Nat} {wv : Value} {cbs : List Nat} {xs : List ConX} {ws : List Nat} {i : Nat} {c c' : ConS} {cb : Nat} {a a' : ConX} (h : PSrv N w sb s cm wv cbs xs ws) (hN : N <= N') (hi : s.conns[i]? = some c) (hcb : cbs[i]? = some cb) (ha : xs[i]? = some a)
  (hc : Chg (ConF cb a) w w') (hA : ConAt N' w' cb s.c c' a') (hin : ∀ k, ConF cb a' k -> ConF cb a k \/ w.heap.size <= k) (hcid : c'.cid = c.cid) (hw : c'.waits = c.waits) :
  PSrv N' w' sb { s with conns := s.conns.set i c' } cm wv cbs (xs.set i a') ws := by
 have hC := h.con i c cb a hi hcb ha
 obtain ⟨n, hn, hm⟩ := h.map
 have hsb : ¬ ConF cb a sb := ConF_type hC h.blk (by decide) (by decide) (by decide) (by decide)
 have hids : ({ s with conns := s.conns.set i c' } : SrvS).conns.map (·.cid) = s.conns.map (·.cid) := map_set_cid hi hcid
 obtain ⟨cs, hw1, hw2, hw3⟩ := h.wait
 refine ⟨h.blk.chg hc hsb, ⟨n, Nat.le_trans hn hN, ?_⟩, by simp [h.len1], by simp [h.len2], fun j d db b hj hdb hb => ?_, own_chg h.row hc (fun k hk hF => ?_), ⟨cs, hw1.same (waitK_set hi hw hcid), hw2, fun j b hb => ?_⟩, fun j l cb1 a1 cb2 a2 hjl e1 e2 e3 e4 k hk1 hk2 => ?_, fun j db b hdb hb hF => ?_⟩
 ·rw [hids]
  exact hm.same (hc.block cm hm.lt (h.mne i cb a hcb ha))
 ·by_cases hji : j = i
  ·subst hji
   simp only at hj
   rw [getElem?_set_at hi] at hj
   rw [getElem?_set_at ha] at hb
   rw [hcb] at hdb
   simp only [Option.some.injEq] at hj hb hdb
   subst hj hb hdb
   exact hA
  ·simp only at hj
   rw [getElem?_set_other hji] at hj
   rw [getElem?_set_other hji] at hb
   have hD := h.con j d db b hj hdb hb
   exact (hD.chg hc (fun k hk => h.apart j i db b cb a hji hdb hb hcb ha k hk) (fun k cur fr hk => ConF_not8 hC hk)).mono hN
 ·obtain ⟨c1, e1⟩ := own_blockN h.row hk
  exact ConF_type hC e1 (by decide) (by decide) (by decide) (by decide) hF
 ·obtain ⟨l, d, h1, h2, h3⟩ := hw3 j b hb
  by_cases hli : l = i
  ·subst hli
   rw [hi] at h1
   simp only [Option.some.injEq] at h1
   subst h1
   exact ⟨l, c', getElem?_set_at hi, h2, by rw [hcid]; exact h3⟩
  ·exact ⟨l, d, by simp only; rw [getElem?_set_other hli]; exact h1, h2, h3⟩
 ·by_cases hji : j = i
  ·subst hji
   rw [getElem?_set_at ha] at e2
   simp only [Option.some.injEq] at e2
   subst e2
   have hlj : l ≠ j := fun e => hjl e.symm
   rw [getElem?_set_other hlj] at e4
   rw [hcb] at e1
   simp only [Option.some.injEq] at e1
   subst e1
   rcases hin k hk1 with h1 | h1
   ·exact h.apart j l cb a cb2 a2 hjl hcb ha e3 e4 k h1 hk2
   ·obtain ⟨d, hd⟩ : ∃ d, s.conns[l]? = some d := ⟨_, List.getElem?_eq_getElem (by rw [<- h.len1]; exact (List.getElem?_eq_some_iff.1 e3).1)⟩
    have := ConF_lt (h.con l d cb2 a2 hd e3 e4) hk2
    omega
  ·rw [getElem?_set_other hji] at e2
   by_cases hli : l = i
   ·subst hli
    rw [getElem?_set_at ha] at e4
    simp only [Option.some.injEq] at e4
    subst e4
    rw [hcb] at e3
    simp only [Option.some.injEq] at e3
    subst e3
    rcases hin k hk2 with h1 | h1
    ·exact h.apart j l cb1 a1 cb a hjl e1 e2 hcb ha k hk1 h1
    ·obtain ⟨d, hd⟩ : ∃ d, s.conns[j]? = some d := ⟨_, List.getElem?_eq_getElem (by rw [<- h.len1]; exact (List.getElem?_eq_some_iff.1 e1).1)⟩
     have := ConF_lt (h.con j d cb1 a1 hd e1 e2) hk1
     omega
   ·rw [getElem?_set_other hli] at e4
    exact h.apart j l cb1 a1 cb2 a2 hjl e1 e2 e3 e4 k hk1 hk2
 ·by_cases hji : j = i
  ·subst hji
   rw [getElem?_set_at ha] at hb
   simp only [Option.some.injEq] at hb
   subst hb
   rw [hcb] at hdb
   simp only [Option.some.injEq] at hdb
   subst hdb
   rcases hin cm hF with h1 | h1
   ·exact h.mne j cb a hcb ha h1
   ·have := hm.lt
    omega
  ·rw [getElem?_set_other hji] at hb
   exact h.mne j db b hdb hb hF
theorem PSrv.below {N : Nat} {w w' : World} {sb : Nat} {s : SrvS} {cm : Nat} {wv : Value} {cbs : List Nat} {xs : List ConX} {ws : List Nat} (h : PSrv N w sb s cm wv cbs xs ws) (hb : Below w.heap.size w w') : PSrv N w' sb s cm wv cbs xs ws := by
 obtain ⟨n, hn, hm⟩ := h.map
 exact ⟨h.blk.below hb, ⟨n, hn, hm.same (hb.block cm hm.lt)⟩, h.len1, h.len2, fun i c cb a h1 h2 h3 => (h.con i c cb a h1 h2 h3).below hb, own_below h.row hb, h.wait, h.apart, h.mne⟩
def SrvU (xs : List ConX) (k : Nat) : Prop := ∃ a ∈ xs, a.u k
theorem SrvU_lt {N : Nat} {w : World} {sb : Nat} {s : SrvS} {cm : Nat} {wv : Value} {cbs : List Nat} {xs : List ConX} {ws : List Nat} (h : PSrv N w sb s cm wv cbs xs ws) {k : Nat} (hk : SrvU xs k) : k < w.heap.size := by
 obtain ⟨a, ha, hu⟩ := hk
 obtain ⟨i, hi, rfl⟩ := List.getElem_of_mem ha
 have h1 : i < s.conns.length := by rw [<- h.len2]; exact hi
 have h2 : i < cbs.length := by rw [h.len1]; exact h1
 exact (h.con i _ _ _ (List.getElem?_eq_getElem h1) (List.getElem?_eq_getElem h2) (List.getElem?_eq_getElem hi)).ul k hu
theorem SrvU_set {xs : List ConX} {i B : Nat} {a a' : ConX} (ha : xs[i]? = some a) (hu : UIn B a a') : ∀ k, SrvU (xs.set i a') k -> SrvU xs k \/ B <= k := by
 rintro k ⟨d, hd, hk⟩
 rcases List.mem_or_eq_of_mem_set hd with h1 | rfl
 ·exact Or.inl ⟨d, h1, hk⟩
 ·exact (hu k hk).imp (fun h2 => ⟨a, List.mem_of_getElem? ha, h2⟩) id
theorem SrvU_erase {xs : List ConX} {i : Nat} : ∀ k, SrvU (xs.eraseIdx i) k -> SrvU xs k := by
 rintro k ⟨d, hd, hk⟩
 exact ⟨d, (List.eraseIdx_sublist xs i).subset hd, hk⟩
def OutsU (A : Nat -> Prop) (w : World) (base : Nat) (v : Value) (outs : List (Int × List Int)) : Prop := ∃ out, w.ownsRow base 60 2 v out.length (sentCells out) /\ OutOw w base out outs /\ ∀ (i : Nat) x k, out[i]? = some x -> x.2.ownBlock = some k -> ¬ A k
theorem OutOw.ge {w : World} {base : Nat} {out : List (Int × Value)} {outs : List (Int × List Int)} (h : OutOw w base out outs) {i : Nat} {x : Int × Value} {k : Nat} (hx : out[i]? = some x) (hk : x.2.ownBlock = some k) : base <= k /\ k < w.heap.size := by
 have hil : i < outs.length := by rw [<- h.1]; exact (List.getElem?_eq_some_iff.1 hx).1
 exact (h.2.1 i x outs[i] hx (List.getElem?_eq_getElem hil)).2.lt k hk
theorem OutsU.of {A : Nat -> Prop} {w : World} {base : Nat} {v : Value} {outs : List (Int × List Int)} (h : OutsAt w base v outs) (hA : ∀ k, base <= k -> ¬ A k) : OutsU A w base v outs := by
 obtain ⟨out, h1, h2⟩ := h
 exact ⟨out, h1, h2, fun i x k hx hk => hA k (h2.ge hx hk).1⟩
theorem OutsU.none {A : Nat -> Prop} {w : World} {base : Nat} {v : Value} {outs : List (Int × List Int)} (h : OutsAt w base v outs) (h0 : outs = []) : OutsU A w base v outs := by
 obtain ⟨out, h1, h2⟩ := h
 subst h0
 obtain rfl : out = [] := List.length_eq_zero_iff.1 h2.1
 exact ⟨[], h1, h2, fun i x k hx => (by simp at hx)⟩
theorem OutsU.at {A : Nat -> Prop} {w : World} {base : Nat} {v : Value} {outs : List (Int × List Int)} (h : OutsU A w base v outs) : OutsAt w base v outs := by
 obtain ⟨out, h1, h2, _⟩ := h
 exact ⟨out, h1, h2⟩
theorem OutsU.mono {A : Nat -> Prop} {w : World} {b b' : Nat} {v : Value} {outs : List (Int × List Int)} (h : OutsU A w b v outs) (hb : b' <= b) : OutsU A w b' v outs := by
 obtain ⟨out, h1, h2, h3⟩ := h
 exact ⟨out, own_mono h1 hb, h2.mono hb, h3⟩
structure SOut (N : Nat) (w : World) (sb cm : Nat) (wv : Value) (cbs : List Nat) (xs : List ConX) (r : SrvS × List (Int × List Int)) (e : Ending) (w' : World) : Prop where
 ex : ∃ v wv' cbs' xs' ws', e = .returned v /\ OutsU (SrvU xs') w' w.heap.size v r.2 /\ PSrv N w' sb r.1 cm wv' cbs' xs' ws' /\ (∀ k, SrvF sb cm wv' cbs' xs' k -> SrvF sb cm wv cbs xs k \/ w.heap.size <= k) /\ ∀ k, SrvU xs' k -> SrvU xs k \/ w.heap.size <= k
 chg : Chg (SrvF sb cm wv cbs xs) w w'
theorem SOut.ret {N : Nat} {w : World} {sb cm : Nat} {wv : Value} {cbs : List Nat} {xs : List ConX} {r : SrvS × List (Int × List Int)} {e : Ending} {w' : World} (h : SOut N w sb cm wv cbs xs r e w') : ∃ v, e = .returned v /\ OutsAt w' w.heap.size v r.2 := by
 obtain ⟨v, _, _, _, _, e, ho, _⟩ := h.ex
 exact ⟨v, e, ho.at⟩
theorem SOut.mk1 {N N0 : Nat} {w : World} {sb cm : Nat} {s s' : SrvS} {wv wv' : Value} {cbs cbs' : List Nat} {xs xs' : List ConX} {ws ws' : List Nat} {outs : List (Int × List Int)} {v : Value} {w' : World} (h0 : PSrv N0 w sb s cm wv cbs xs ws) (ho : OutsAt w' w.heap.size v outs) (hP : PSrv N w' sb s' cm wv' cbs' xs' ws') (hin : ∀ k, SrvF sb cm wv' cbs' xs' k -> SrvF sb cm wv cbs xs k \/ w.heap.size <= k) (hu : ∀ k, SrvU xs' k -> SrvU xs k) (hc : Chg (SrvF sb cm wv cbs xs) w w') : SOut N w sb cm wv cbs xs (s', outs) (.returned v) w' :=
 ⟨⟨v, wv', cbs', xs', ws', rfl, OutsU.of ho (fun k hk hA => by have := SrvU_lt h0 (hu k hA); omega), hP, hin, fun k hk => Or.inl (hu k hk)⟩, hc⟩
theorem SOut.mk0 {N : Nat} {w : World} {sb cm : Nat} {s' : SrvS} {wv wv' : Value} {cbs cbs' : List Nat} {xs xs' : List ConX} {ws' : List Nat} {outs : List (Int × List Int)} {v : Value} {w' : World} (ho : OutsAt w' w.heap.size v outs) (h0 : outs = []) (hP : PSrv N w' sb s' cm wv' cbs' xs' ws') (hin : ∀ k, SrvF sb cm wv' cbs' xs' k -> SrvF sb cm wv cbs xs k \/ w.heap.size <= k) (hu : ∀ k, SrvU xs' k -> SrvU xs k \/ w.heap.size <= k) (hc : Chg (SrvF sb cm wv cbs xs) w w') : SOut N w sb cm wv cbs xs (s', outs) (.returned v) w' :=
 ⟨⟨v, wv', cbs', xs', ws', rfl, OutsU.none ho h0, hP, hin, hu⟩, hc⟩
theorem SrvF_con {sb cm : Nat} {wv : Value} {cbs : List Nat} {xs : List ConX} {i cb : Nat} {a : ConX} (h1 : cbs[i]? = some cb) (h2 : xs[i]? = some a) {k : Nat} (hk : ConF cb a k) : SrvF sb cm wv cbs xs k := Or.inr (Or.inr (Or.inr ⟨i, cb, a, h1, h2, hk⟩))
theorem SrvF_set {sb cm : Nat} {wv : Value} {cbs : List Nat} {xs : List ConX} {i cb : Nat} {a a' : ConX} {B : Nat} (h1 : cbs[i]? = some cb) (h2 : xs[i]? = some a) (hin : ∀ k, ConF cb a' k -> ConF cb a k \/ B <= k) : ∀ k, SrvF sb cm wv cbs (xs.set i a') k -> SrvF sb cm wv cbs xs k \/ B <= k := by
 rintro k (e | e | e | ⟨j, db, b, e1, e2, e3⟩)
 ·exact Or.inl (Or.inl e)
 ·exact Or.inl (Or.inr (Or.inl e))
 ·exact Or.inl (Or.inr (Or.inr (Or.inl e)))
 ·by_cases hji : j = i
  ·subst hji
   rw [getElem?_set_at h2] at e2
   simp only [Option.some.injEq] at e2
   subst e2
   rw [h1] at e1
   simp only [Option.some.injEq] at e1
   subst e1
   rcases hin k e3 with h3 | h3
   ·exact Or.inl (SrvF_con h1 h2 h3)
   ·exact Or.inr h3
  ·rw [getElem?_set_other hji] at e2
   exact Or.inl (SrvF_con e1 e2 e3)
theorem shelloAgain_any (N : Nat) (sb : Nat) (s : SrvS) (cm : Nat) (wv : Value) (cbs : List Nat) (xs : List ConX) (ws : List Nat) (i cb : Nat) (c : ConS) (a : ConX) (addr size : Int) (d : DgS) (tv fv : Value) (w : World) (h : PSrv N w sb s cm wv cbs xs ws) (hi : s.conns[i]? = some c) (hcb : cbs[i]? = some cb) (ha : xs[i]? = some a) (hg : CfgOk s.c) {M : Int} (hok : ConOk M c) (hM : M + size <= 1125899906842624) (hsz : 0 <= size) (hov : ∃ ta tl tc, tv = .slice ta tl tc) (hof : ∃ ta tl tc, fv = .slice ta tl tc) :
  Calls Tryz.prog 89 #[.pointer (some ⟨sb, 0, none⟩), .pointer (some ⟨cb, 0, none⟩), .int .i64 addr, .agg (dgC d size tv fv)] w fun e w' => SOut N w sb cm wv cbs xs (againS s i c addr size []) e w' := by
 obtain ⟨t1, t2, t3, rfl⟩ := hov
 obtain ⟨f1, f2, f3, rfl⟩ := hof
 have hC := h.con i c cb a hi hcb ha
 have hgot := hok.got
 have hsent := hok.sent
 have hcid := hok.cid
 have hadr := hok.addr
 have hba : Below w.heap.size w (w.alloc (.cells #[.int .i64 d.kind, .int .i64 size, .int .i64 d.cid, .slice t1 t2 t3, .int .i64 d.num, .slice f1 f2 f3] 107)) := below_alloc w _
 have hB0 := hC.blk.below hba
 have HAd := hideIt (cAddress_any cb s.c c _ _ _ _ _ hB0)
 have hsc : sb ≠ cb := by
  intro e
  have h1 := h.blk
  have h2 := hC.blk
  unfold SBlk at h1
  unfold ConBlk at h2
  rw [e, h2] at h1
  simp only [Option.some.injEq, Obj.cells.injEq] at h1
  exact absurd h1.2.1 (by decide)
 have HHe : Hid (∀ (W : World) (c' : ConS), ConBlk W cb s.c c' a.plv a.sm a.dm (pastS c.streams) -> Chg (· = cb) w W -> c'.streams = c.streams -> c'.runs = c.runs -> c'.cid = c.cid -> c'.waits = c.waits -> PSrv N W sb { s with conns := s.conns.set i c' } cm wv cbs (xs.set i a) ws /\ Chg (SrvF sb cm wv cbs xs) w W) := by
  intro W c' hb hc hs hr hci hw
  have hc2 : Chg (ConF cb a) w W := hc.mono fun k _ e => Or.inl e
  exact ⟨h.step (Nat.le_refl _) hi hcb ha hc2 (hC.reblk hc hb hs hr) (fun k hk => Or.inl hk) hci hw, hc2.mono fun k _ hk => SrvF_con hcb ha hk⟩
 have hxs : xs.set i a = xs := set_self ha
 have HSx : Hid (∀ (W : World) (c' : ConS) (outs : List (Int × List Int)) (v : Value), ConBlk W cb s.c c' a.plv a.sm a.dm (pastS c.streams) -> Chg (· = cb) w W -> c'.streams = c.streams -> c'.runs = c.runs -> c'.cid = c.cid -> c'.waits = c.waits -> OutsAt W w.heap.size v outs -> SOut N w sb cm wv cbs xs ({ s with conns := s.conns.set i c' }, outs) (.returned v) W) := by
  intro W c' outs v hb hc hs hr hci hw ho
  obtain ⟨q1, q2⟩ := HHe.out W c' hb hc hs hr hci hw
  rw [hxs] at q1
  exact SOut.mk1 h ho q1 (fun k hk => Or.inl hk) (fun k hk => hk) q2
 unfold dgC
 by_cases hne : c.addr = addr
 ·have hS0 := h.blk.below hba
  have HGt := hideIt (cGet_any cb s.c c _ _ _ _ size _ hB0 ⟨hgot.1, by omega⟩ ⟨hsz, by omega⟩)
  have HHr := hideIt (fun (W : World) (hb : ConBlk W cb s.c { c with got := c.got + size } a.plv a.sm a.dm (pastS c.streams)) => cHear_any cb s.c _ _ _ _ _ s.now W hb)
  have HPv := hideIt (fun (W : World) (hb : ConBlk W cb s.c { c with got := c.got + size, heard := s.now } a.plv a.sm a.dm (pastS c.streams)) => cProven_any cb s.c _ _ _ _ _ W hb)
  have HWl := hideIt (fun (W : World) (hb : ConBlk W cb s.c { c with got := c.got + size, heard := s.now } a.plv a.sm a.dm (pastS c.streams)) => cWelcome_any cb s.c _ _ _ _ _ W hb hg hadr hcid ⟨by simp only; omega, by simp only; omega⟩ ⟨hsent.1, by simp only; omega⟩)
  have HAg : Hid (againS s i c addr size [] = if c.proven then ({ s with conns := s.conns.set i { c with got := c.got + size, heard := s.now } }, []) else ({ s with conns := s.conns.set i (newsC { c with got := c.got + size, heard := s.now } (welcomeL s.c { c with got := c.got + size, heard := s.now })) }, newsO { c with got := c.got + size, heard := s.now } (welcomeL s.c { c with got := c.got + size, heard := s.now }) [])) := by
   show _ = _
   unfold againS
   rw [if_neg (by simp [hne])]
  obtain ⟨R, hR⟩ : ∃ R, againS s i c addr size [] = R := ⟨_, rfl⟩
  rw [hR] at HAg ⊢
  have HS0 := hideIt hS0
  have HB0 := hideIt hba
  clear hR h hC hok hg hgot hsent hcid hadr hB0 hS0 HHe hxs
  go_enter Tryz.func89, Tryz.ntmps89
  go_wp2_with fail
  refine HAd.out.mono ?_
  rintro e w1 ⟨rfl, rfl⟩
  clear HAd hba
  go_wp2_with fail
  refine HGt.out.mono ?_
  rintro e w2 ⟨rfl, hb2, hc2⟩
  have HB2 := hideIt hb2
  have HC2 := hideIt hc2
  have d10 : w2.cell? ⟨sb, 10, none⟩ = some (.int .i64 s.now) := (HS0.out.chg hc2 hsc).cell 10
  clear hb2 hc2 HGt
  go_wp2_with fail
  refine (HHr.out w2 HB2.out).mono ?_
  rintro e w3 ⟨rfl, hb3, hc3⟩
  have HB3 := hideIt hb3
  have HC3 : Hid (Chg (· = cb) w w3) := ((Chg.of_below HB0.out).trans HC2.out).trans hc3
  clear hb3 hc3 HHr HB2 d10 HS0 HC2
  go_wp2_with fail
  refine (HPv.out w3 HB3.out).mono ?_
  rintro e w4 ⟨rfl, rfl⟩
  clear HPv
  cases hp : c.proven with
  | true =>
   have HE : Hid (SOut N w sb cm wv cbs xs R (.returned (.slice none 0 0)) w3) := by
    rw [HAg.out, if_pos hp]
    exact HSx.out w3 _ [] _ HB3.out HC3.out rfl rfl rfl rfl (OutsAt.nil _ _)
   clear HSx HAg HWl
   go_wp2_with fail
   go_ret
   exact HE.out
  | false =>
   have HT := hideIt (HWl.out w3 HB3.out)
   have HAg2 : Hid (R = ({ s with conns := s.conns.set i (newsC { c with got := c.got + size, heard := s.now } (welcomeL s.c { c with got := c.got + size, heard := s.now })) }, newsO { c with got := c.got + size, heard := s.now } (welcomeL s.c { c with got := c.got + size, heard := s.now }) [])) := by
    show _ = _
    rw [HAg.out, if_neg (by rw [hp]; decide)]
   clear HAg HWl
   go_wp2_with fail
   refine HT.out.mono ?_
   intro e w5 ho
   obtain ⟨v, rfl, hv⟩ := ho.ret
   have hfm : ∃ va vl vc, v = .slice va vl vc := by obtain ⟨x, y, e⟩ := hv.form; exact ⟨_, _, _, e⟩
   have HE : Hid (SOut N w sb cm wv cbs xs R (.returned v) w5) := by
    rw [HAg2.out]
    have hns := news_same { c with got := c.got + size, heard := s.now } (welcomeL s.c { c with got := c.got + size, heard := s.now })
    have hnr : (newsC { c with got := c.got + size, heard := s.now } (welcomeL s.c { c with got := c.got + size, heard := s.now })).streams = c.streams /\ (newsC { c with got := c.got + size, heard := s.now } (welcomeL s.c { c with got := c.got + size, heard := s.now })).runs = c.runs := by
     unfold newsC
     split <;> exact ⟨rfl, rfl⟩
    exact HSx.out w5 _ _ v ho.blk (HC3.out.trans ho.chg) hnr.1 hnr.2 hns.1 hns.2.1 (hv.mono HC3.out.size)
   obtain ⟨va, vl, vc, rfl⟩ := hfm
   clear ho hv HT HSx HAg2
   go_wp2_with fail
   go_ret
   exact HE.out
 ·have HAg : Hid (againS s i c addr size [] = (s, [])) := by
   show _ = _
   unfold againS
   rw [if_pos hne]
  have HE : Hid (∀ W, Below w.heap.size w W -> SOut N w sb cm wv cbs xs (s, []) (.returned (.slice none 0 0)) W) := fun W hW => SOut.mk1 h (OutsAt.nil _ _) (h.below hW) (fun k hk => Or.inl hk) (fun k hk => hk) (Chg.of_below hW)
  rw [HAg.out]
  have hnb : (c.addr == addr) = false := beq_eq_false_iff_ne.2 hne
  have HB0 := hideIt hba
  clear h hC hok hg hgot hsent hcid hadr hB0 HHe hxs HSx hba
  go_enter Tryz.func89, Tryz.ntmps89
  go_wp2_with fail
  refine HAd.out.mono ?_
  rintro e w1 ⟨rfl, rfl⟩
  clear HAd
  go_wp2_with fail
  go_ret
  exact HE.out _ HB0.out
theorem sretry_any (N : Nat) (sb : Nat) (s : SrvS) (cm : Nat) (wv : Value) (cbs : List Nat) (xs : List ConX) (ws : List Nat) (addr size : Int) (d : DgS) (tv fv : Value) (w : World) (h : PSrv N w sb s cm wv cbs xs ws) (hg : CfgOk s.c) (hnow : 0 <= s.now /\ s.now <= 1000000000) (ha : 0 <= addr /\ addr < 256) (hcid : 0 <= d.cid /\ d.cid <= 1073741823) (hsz : 0 <= size /\ size <= 1125899906842624) (hov : ∃ ta tl tc, tv = .slice ta tl tc) (hof : ∃ ta tl tc, fv = .slice ta tl tc) :
  Calls Tryz.prog 93 #[.pointer (some ⟨sb, 0, none⟩), .int .i64 addr, .agg (dgC d size tv fv)] w fun e w' => SOut N w sb cm wv cbs xs (s, retryO s addr d.cid size []) e w' := by
 obtain ⟨t1, t2, t3, rfl⟩ := hov
 obtain ⟨f1, f2, f3, rfl⟩ := hof
 have k7 := hg.c7
 have k9 := hg.c9
 have hba : Below w.heap.size w (w.alloc (.cells #[.int .i64 d.kind, .int .i64 size, .int .i64 d.cid, .slice t1 t2 t3, .int .i64 d.num, .slice f1 f2 f3] 107)) := below_alloc w _
 have hS0 := h.blk.below hba
 have c7 : (w.alloc (.cells #[.int .i64 d.kind, .int .i64 size, .int .i64 d.cid, .slice t1 t2 t3, .int .i64 d.num, .slice f1 f2 f3] 107)).cell? ⟨sb, 7, none⟩ = some (.int .i64 s.c.c7) := hS0.cell 7
 have c9 : (w.alloc (.cells #[.int .i64 d.kind, .int .i64 size, .int .i64 d.cid, .slice t1 t2 t3, .int .i64 d.num, .slice f1 f2 f3] 107)).cell? ⟨sb, 9, none⟩ = some (.int .i64 s.c.c9) := hS0.cell 9
 have c10 : (w.alloc (.cells #[.int .i64 d.kind, .int .i64 size, .int .i64 d.cid, .slice t1 t2 t3, .int .i64 d.num, .slice f1 f2 f3] 107)).cell? ⟨sb, 10, none⟩ = some (.int .i64 s.now) := hS0.cell 10
 have b1 : (w.alloc (.cells #[.int .i64 d.kind, .int .i64 size, .int .i64 d.cid, .slice t1 t2 t3, .int .i64 d.num, .slice f1 f2 f3] 107)).cell? ⟨w.heap.size, 1, none⟩ = some (.int .i64 size) := by simp
 have b2 : (w.alloc (.cells #[.int .i64 d.kind, .int .i64 size, .int .i64 d.cid, .slice t1 t2 t3, .int .i64 d.num, .slice f1 f2 f3] 107)).cell? ⟨w.heap.size, 2, none⟩ = some (.int .i64 d.cid) := by simp
 have hw1 : IntKind.i64.wrap (s.now + s.c.c7) = s.now + s.c.c7 := by rw [IntKind.wrap_i64]; omega
 have hw2 : IntKind.i64.wrap (3 * size) = 3 * size := by rw [IntKind.wrap_i64]; omega
 have HTk := hideIt (fun W => wToken_any s.c.c9 addr (s.now + s.c.c7) W k9.1 k9.2 ha.1 ha.2 (by omega) (by omega))
 have HTb := hideIt (tokenL_bytes s.c.c9 addr (s.now + s.c.c7) ha.1 ha.2)
 have HRO : Hid (retryO s addr d.cid size [] = if ((retryL s addr d.cid).length : Int) <= 3 * size then [(addr, retryL s addr d.cid)] else []) := rfl
 have HRL : Hid (retryL s addr d.cid = [3] ++ putL d.cid ++ putL 9 ++ tokenL s.c.c9 addr (s.now + s.c.c7)) := rfl
 have HRt : Hid (∀ (W : World) (v : Value), W.ownsRow W.heap.size 5 1 v 9 (U8 (tokenL s.c.c9 addr (s.now + s.c.c7))) \/ (∃ B, W.ownsRow B 5 1 v 9 (U8 (tokenL s.c.c9 addr (s.now + s.c.c7)))) -> Calls Tryz.prog 147 #[.int .i64 d.cid, v] W fun e w' => ∃ v', e = .returned v' /\ w'.ownsRow W.heap.size 5 1 v' (retryL s addr d.cid).length (U8 (retryL s addr d.cid)) /\ Below W.heap.size W w') := by
  intro W v hv
  obtain ⟨B, hv⟩ : ∃ B, W.ownsRow B 5 1 v 9 (U8 (tokenL s.c.c9 addr (s.now + s.c.c7))) := hv.elim (fun h => ⟨_, h⟩) id
  have hl9 : (tokenL s.c.c9 addr (s.now + s.c.c7)).length = 9 := by have := hv.1; rw [U8_length] at this; omega
  rw [HRL.out]
  exact wRetry_any d.cid _ v W hcid (RdB.of_own hv HTb.out (by rw [hl9]; decide)) hl9
 have HE : Hid (∀ (W : World) (v : Value) (outs : List (Int × List Int)), Below w.heap.size w W -> OutsAt W w.heap.size v outs -> SOut N w sb cm wv cbs xs (s, outs) (.returned v) W) := fun W v outs hW ho => SOut.mk1 h ho (h.below hW) (fun k hk => Or.inl hk) (fun k hk => hk) (Chg.of_below hW)
 generalize retryL s addr d.cid = L at HRO HRt
 generalize tokenL s.c.c9 addr (s.now + s.c.c7) = T at HTk HRt HTb
 obtain ⟨O, hO⟩ : ∃ O, retryO s addr d.cid size [] = O := ⟨_, rfl⟩
 rw [hO] at HRO ⊢
 have HBa := hideIt hba
 unfold dgC
 clear h hg hO hS0 HRL HTb hba k7 k9 hcid hnow
 go_enter Tryz.func93, Tryz.ntmps93
 go_wp2_with fail
 go_region_held3 (fun w' => w'.cell? ⟨sb, 7, none⟩ = some (.int .i64 s.c.c7) /\ w'.cell? ⟨sb, 9, none⟩ = some (.int .i64 s.c.c9) /\ w'.cell? ⟨sb, 10, none⟩ = some (.int .i64 s.now) /\ w'.cell? ⟨w.heap.size, 1, none⟩ = some (.int .i64 size) /\ w'.cell? ⟨w.heap.size, 2, none⟩ = some (.int .i64 d.cid)) (first | assumption | go_keep) (first
  | (go_at_call 67; refine (HTk.out _).mono ?_; rintro e w1 ⟨v1, rfl, ho1, hb1⟩; have g7 := cell_below c7 (below_undrew hb1); have g9 := cell_below c9 (below_undrew hb1); have g10 := cell_below c10 (below_undrew hb1); have g1 := cell_below b1 (below_undrew hb1); have g2 := cell_below b2 (below_undrew hb1); have hS1 := And.intro g7 (And.intro g9 (And.intro g10 (And.intro g1 g2))); obtain ⟨va, vc, rfl⟩ := own_form ho1)
  | (go_at_call 147; refine (HRt.out w1 _ (Or.inr ⟨_, ho1⟩)).mono ?_; rintro e w2 ⟨v2, rfl, ho2, hb2⟩; have l7 := cell_below g7 hb2; have l9 := cell_below g9 hb2; have l10 := cell_below g10 hb2; have l1 := cell_below g1 hb2; have l2 := cell_below g2 hb2; have hS2 := And.intro l7 (And.intro l9 (And.intro l10 (And.intro l1 l2))); obtain ⟨ua, uc, rfl⟩ := own_form ho2))
 have HB2 := hideIt (below_join (below_join HBa.out (below_undrew hb1)) hb2)
 have HO2 := hideIt ho2
 obtain ⟨n, hn⟩ : ∃ n, L.length = n := ⟨_, rfl⟩
 rw [hn] at HO2 HRO ⊢
 have HNl := hideIt hn
 have HZ : Hid (w.heap.size <= w1.heap.size) := Nat.le_trans HBa.out.size (below_undrew hb1).size
 clear ho1 hb1 ho2 hb2 hS1 hS2 g7 g9 g10 g2 g1 l7 l9 l10 l2 c7 c9 c10 b1 b2 HTk HRt hn
 by_cases hle : (n : Int) <= 3 * size
 ·have HO3 : Hid (O = [(addr, L)]) := by
   show _ = _
   rw [HRO.out, if_pos hle]
  have HF : Hid (SOut N w sb cm wv cbs xs (s, O) (.returned (.slice (some ⟨w2.heap.size, 0, none⟩) 1 1)) (w2.alloc (.cells #[.int .i64 addr, .slice ua n uc] 60))) := by
   rw [HO3.out]
   refine HE.out _ _ _ (below_join HB2.out (below_alloc _ _)) ⟨[(addr, .slice ua n uc)], own_lit2 w2 w.heap.size addr _ HB2.out.size, OutOw.one ?_⟩
   rw [HNl.out]
   exact own_mono (own_below HO2.out (below_alloc _ _)) HZ.out
  clear HE HRO
  go_wp2_with fail
  go_ret
  exact HF.out
 ·have HO3 : Hid (O = []) := by
   show _ = _
   rw [HRO.out, if_neg hle]
  have HF : Hid (SOut N w sb cm wv cbs xs (s, O) (.returned (.slice none 0 0)) w2) := by
   rw [HO3.out]
   exact HE.out _ _ _ HB2.out (OutsAt.nil _ _)
  clear HE HRO
  go_wp2_with fail
  go_ret
  exact HF.out
end Go.Proofs.YthmdjhlhodpbhaaGreatDoor
