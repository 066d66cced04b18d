/- Breached, part 4 -/
import Derived.Test.YthmdjhlhodpbhaaGreatDoorB00
import Derived.Test.YthmdjhlhodpbhaaGreatDoorB01
import Derived.Test.YthmdjhlhodpbhaaGreatDoorB03
namespace Go.Proofs.YthmdjhlhodpbhaaGreatDoor
open Go.RowKit
structure RdAt (w : World) (rb : Nat) (rv ev : Value) (r : Rd) : Prop where
  blk : w.heap[rb]? = some (.cells #[rv, ev] 151 (0, 0))
  rd : RdB w rv r.rest
  ok : r.bad = false -> ev = .nilIface
  no : r.bad = true -> ∃ k, (k = 1 \/ k = 2) /\ NErr w k ev
def RdOut (w : World) (rb : Nat) (r : Rd) (w' : World) : Prop := ∃ rv ev, RdAt w' rb rv ev r /\ Chg (· = rb) w w'
theorem RdAt.c0 {w : World} {rb : Nat} {rv ev : Value} {r : Rd} (h : RdAt w rb rv ev r) : w.cell? ⟨rb, 0, none⟩ = some rv := by simp only [World.cell?, h.blk]; rfl
theorem RdAt.c1 {w : World} {rb : Nat} {rv ev : Value} {r : Rd} (h : RdAt w rb rv ev r) : w.cell? ⟨rb, 1, none⟩ = some ev := by simp only [World.cell?, h.blk]; rfl
theorem RdAt.free {w : World} {rb : Nat} {rv ev : Value} {r : Rd} (h : RdAt w rb rv ev r) (i : Nat) : w.frozen? ⟨rb, i, none⟩ = false := frozen_of_row w rb i _ _ h.blk
theorem RdAt.below {w w' : World} {rb : Nat} {rv ev : Value} {r : Rd} (h : RdAt w rb rv ev r) (hb : Below w.heap.size w w') : RdAt w' rb rv ev r :=
  ⟨by rw [hb.block rb (Array.getElem?_eq_some_iff.1 h.blk).1]; exact h.blk, h.rd.below hb, h.ok, fun hb' => by obtain ⟨k, hk, hn⟩ := h.no hb'; exact ⟨k, hk, hn.below hb⟩⟩
theorem RdAt.keepR {w : World} {rb : Nat} {rv ev : Value} {r : Rd} (h : RdAt w rb rv ev r) (i : Nat) (v : Value) {u : Value} {l : List Int} (hu : RdB w u l) : RdB (w.setCell ⟨rb, i, none⟩ v) u l := by
  refine hu.chg (chg_set (Below.refl _ w) i v) fun k cur fr hk e => ?_
  subst e
  rw [h.blk] at hk
  simp only [Option.some.injEq, Obj.cells.injEq] at hk
  exact absurd hk.2.1 (by decide)
theorem RdAt.keepE {w : World} {rb : Nat} {rv ev : Value} {r : Rd} (h : RdAt w rb rv ev r) (i : Nat) (v : Value) {k : Nat} {u : Value} (hu : NErr w k u) : NErr (w.setCell ⟨rb, i, none⟩ v) k u := by
  refine hu.chg (chg_set (Below.refl _ w) i v) fun k cur fr hk e => ?_
  subst e
  rw [h.blk] at hk
  simp only [Option.some.injEq, Obj.cells.injEq] at hk
  exact absurd hk.2.1 (by decide)
theorem RdAt.setRest {w : World} {rb : Nat} {rv ev : Value} {r : Rd} (h : RdAt w rb rv ev r) {tv : Value} {l : List Int} (ht : RdB w tv l) : RdAt (w.setCell ⟨rb, 0, none⟩ tv) rb tv ev ⟨l, r.bad⟩ :=
  ⟨block_set h.blk 0 tv, h.keepR 0 tv ht, h.ok, fun hb => by obtain ⟨k, hk, hn⟩ := h.no hb; exact ⟨k, hk, h.keepE 0 tv hn⟩⟩
theorem RdAt.setErr {w : World} {rb : Nat} {rv ev : Value} {r : Rd} (h : RdAt w rb rv ev r) {tv : Value} {k : Nat} (hk : k = 1 \/ k = 2) (ht : NErr w k tv) : RdAt (w.setCell ⟨rb, 1, none⟩ tv) rb rv tv ⟨r.rest, true⟩ :=
  ⟨block_set h.blk 1 tv, h.keepR 1 tv h.rd, fun hb => (by cases hb), fun _ => ⟨k, hk, h.keepE 1 tv ht⟩⟩
theorem RdAt.errForm {w : World} {rb : Nat} {rv ev : Value} {r : Rd} (h : RdAt w rb rv ev r) (hb : r.bad = true) : ∃ a : Nat, ev = .iface 155 (.pointer (some ⟨a, 0, none⟩)) := by
  obtain ⟨k, hk, hn⟩ := h.no hb
  rcases hk with rfl | rfl
  · obtain ⟨a, _, _, rfl, _⟩ := hn; exact ⟨a, rfl⟩
  · obtain ⟨a, _, _, rfl, _⟩ := hn; exact ⟨a, rfl⟩
theorem NErr.form01 {w : World} {k : Nat} {v : Value} (h : NErr w k v) : ∃ t a, v = .iface t (.pointer (some ⟨a, 0, none⟩)) := by
  cases k with
  | zero => obtain ⟨e, rfl⟩ := h; exact ⟨_, e, rfl⟩
  | succ k => obtain ⟨a, s, c, rfl, _⟩ := h; exact ⟨_, a, rfl⟩
set_option maxHeartbeats 1000000 in
theorem wfail_any (rb : Nat) (rv ev : Value) (r : Rd) (s : ByteArray) (cause : Value) (k : Nat) (w : World) (h : RdAt w rb rv ev r) (hc : NErr w k cause) (hk : k = 0 \/ k = 1) :
    Calls Tryz.prog 135 #[.pointer (some ⟨rb, 0, none⟩), .string s, cause] w fun e w' => e = .returned (.tuple #[]) /\ ∃ ev', RdAt w' rb rv ev' ⟨r.rest, true⟩ /\ Chg (· = rb) w w' := by
  have c1 := h.c1
  obtain ⟨t, a, rfl⟩ := hc.form01
  have HH := hideIt h
  have HC := hideIt hc
  clear h hc
  cases hb : r.bad with
  | true =>
    obtain ⟨a1, rfl⟩ := HH.out.errForm hb
    have HB := hideIt hb
    clear hb
    go_enter Tryz.func135, Tryz.ntmps135
    go_wp2_with fail
    go_end0
    have h := HH.out
    exact ⟨rfl, _, RdAt.mk (r := ⟨r.rest, true⟩) h.blk h.rd (fun h => (by cases h)) (fun _ => h.no HB.out), Chg.refl _ _⟩
  | false =>
    have hev := HH.out.ok hb
    subst hev
    have z1 := (HH.out.below (below_alloc w (.cells #[.string s, .iface t (.pointer (some ⟨a, 0, none⟩))] 157))).free 1
    have d1 := cell_below c1 (below_alloc w (.cells #[.string s, .iface t (.pointer (some ⟨a, 0, none⟩))] 157))
    clear hb
    go_enter Tryz.func135, Tryz.ntmps135
    go_wp2_with fail
    go_end0
    have hba := below_alloc w (.cells #[.string s, .iface t (.pointer (some ⟨a, 0, none⟩))] 157)
    refine ⟨rfl, _, (HH.out.below hba).setErr (k := k + 1) (by omega) ⟨w.heap.size, _, _, rfl, heap_alloc_new w _, HC.out.below hba⟩, chg_set hba 1 _⟩
set_option maxHeartbeats 1000000 in
theorem ReadNumber_no (l : List Int) (v : Value) (w : World) (he : Env w) (h : RdB w v l) (hz : gsz l = 0) :
    Calls Tryz.prog 102 #[v] w fun e w' => ∃ c, e = .returned (.tuple #[.int .i64 0, .int .i64 0, c]) /\ NErr w' 1 c /\ Below w.heap.size w w' := by
  have HN : Hid (Calls Tryz.prog 154 #[v] w fun e w' => ∃ g, e = .returned (.tuple #[.int .i64 0, .iface 158 (.pointer (some ⟨g, 0, none⟩))]) /\ Below w.heap.size w w') := by
    obtain ⟨hl, hm, h | h⟩ := h.reads
    · obtain ⟨rfl, ao, cap, rfl⟩ := h
      exact numberSize_nil ao cap w
    · obtain ⟨hp, b, off, cap, rfl, hcap, hc⟩ := h
      have h0 := hc 0 hp
      rw [Nat.add_zero] at h0
      exact numberSize_none l hl hp b off cap w he hm h0 hz
  obtain ⟨_, _, ao, cap, rfl, _⟩ := h
  clear he hz
  go_enter Tryz.func102, Tryz.ntmps102
  go_wp2_with fail
  refine HN.out.mono ?_
  rintro e w1 ⟨g, rfl, hb⟩
  have HB := hideIt hb
  clear hb HN
  go_wp2_with fail
  go_ret3
  exact ⟨_, rfl, ⟨w1.heap.size, _, _, rfl, heap_alloc_new w1 _, g, rfl⟩, below_join HB.out (below_alloc _ _)⟩
theorem ReadNumber_ok (l : List Int) (v : Value) (w : World) (h : RdB w v l) (hz : ¬ gsz l = 0) :
    Calls Tryz.prog 102 #[v] w fun e w' => e = .returned (.tuple #[.int .i64 (gval l), .int .i64 (gsz l), .nilIface]) /\ w = w' := by
  obtain ⟨hl, hm, h | h⟩ := h.reads
  · obtain ⟨rfl, ao, cap, rfl⟩ := h
    exact absurd rfl hz
  · obtain ⟨hp, b, off, cap, rfl, hcap, hc⟩ := h
    exact Read_some l hl hp b off cap w hcap hm hc hz
set_option maxHeartbeats 1000000 in
theorem wnumber_any (rb : Nat) (rv ev : Value) (r : Rd) (s : ByteArray) (w : World) (he : Env w) (h : RdAt w rb rv ev r) :
    Calls Tryz.prog 84 #[.pointer (some ⟨rb, 0, none⟩), .string s] w fun e w' => e = .returned (.int .i64 r.num.1) /\ RdOut w rb r.num.2 w' := by
  have c0 := h.c0
  obtain ⟨_, _, ao, cap, rfl, _⟩ := id h.rd
  have HH := hideIt h
  by_cases hz : gsz r.rest = 0
  · have hv : r.num.1 = 0 := (g_none hz).1
    have HN2 : Hid (r.num.2 = ⟨r.rest.drop 0, true⟩) := by
      show _ = _
      unfold Rd.num
      simp [hz]
    rw [hv]
    have HR := hideIt (ReadNumber_no r.rest _ w he h.rd hz)
    obtain ⟨tv, htv, ⟨ta, tc, rfl⟩, hrun⟩ := h.rd.drop (k := 0) (Nat.zero_le _)
    have HT := hideIt htv
    clear h he hz htv hv
    simp only [Int.natCast_zero, Nat.sub_zero] at hrun HT
    obtain ⟨rl, hrl⟩ : ∃ rl, r.rest.length = rl := ⟨_, rfl⟩
    rw [hrl] at HR hrun c0 HT
    replace HH : Hid (RdAt w rb (.slice ao rl cap) ev r) := by rw [hrl] at HH; exact HH
    clear hrl
    go_enter Tryz.func84, Tryz.ntmps84
    go_wp2_with fail
    refine HR.out.mono ?_
    rintro e w1 ⟨c, rfl, hn, hb⟩
    have H1 := hideIt (HH.out.below hb)
    have HF := hideIt (wfail_any rb _ ev r s c 1 w1 H1.out hn (Or.inr rfl))
    obtain ⟨t1, a1, rfl⟩ := hn.form01
    have HB := hideIt hb
    have HT1 := hideIt (HT.out.below hb)
    clear hb hn HR c0
    go_wp2_with fail
    refine HF.out.mono ?_
    rintro e w2 ⟨rfl, ev', h2, hc2⟩
    have c2 := h2.c0
    have z2 := h2.free 0
    have H2 := hideIt h2
    have HC2 := hideIt hc2
    clear h2 hc2 HF
    go_wp2_with fail
    go_ret
    refine ⟨rfl, ?_⟩
    rw [HN2.out]
    refine ⟨_, _, H2.out.setRest (l := r.rest.drop 0) (HT1.out.chg HC2.out fun k cur fr hk e => ?_), ?_⟩
    · subst e
      have := H1.out.blk
      rw [this] at hk
      simp only [Option.some.injEq, Obj.cells.injEq] at hk
      exact absurd hk.2.1 (by decide)
    · exact ((Chg.of_below HB.out).trans HC2.out).trans (chg_set (Below.refl _ _) 0 _)
  · have hg := gsz_range r.rest
    obtain ⟨S, hS⟩ : ∃ S : Nat, gsz r.rest = S := ⟨(gsz r.rest).toNat, by omega⟩
    have hv : r.num.1 = gval r.rest := rfl
    have HN2 : Hid (r.num.2 = ⟨r.rest.drop S, r.bad⟩) := by
      show _ = _
      unfold Rd.num
      simp [hz]
      rw [hS]
      simp
    rw [hv]
    have HR := hideIt (ReadNumber_ok r.rest _ w h.rd hz)
    rw [hS] at HR hg
    have hSl : S <= r.rest.length := by omega
    obtain ⟨tv, htv, ⟨ta, tc, rfl⟩, hrun⟩ := h.rd.drop hSl
    have HT := hideIt htv
    have z0 := h.free 0
    clear h he hz htv hv hg hS hSl
    generalize gval r.rest = gv at HR ⊢
    obtain ⟨rl, hrl⟩ : ∃ rl, r.rest.length = rl := ⟨_, rfl⟩
    obtain ⟨tl, htl⟩ : ∃ tl, r.rest.length - S = tl := ⟨_, rfl⟩
    rw [htl] at hrun HT
    rw [hrl] at HR hrun c0
    replace HH : Hid (RdAt w rb (.slice ao rl cap) ev r) := by rw [hrl] at HH; exact HH
    clear hrl htl
    go_enter Tryz.func84, Tryz.ntmps84
    go_wp2_with fail
    refine HR.out.mono ?_
    rintro e w1 ⟨rfl, rfl⟩
    clear HR
    go_wp2_with fail
    go_ret
    refine ⟨rfl, ?_⟩
    rw [HN2.out]
    exact ⟨_, _, HH.out.setRest HT.out, chg_set (Below.refl _ _) 0 _⟩
theorem byt_no {r : Rd} {c : Int} (h : r.bad = true \/ (r.rest.length : Int) < c) : r.byt c = ([], ⟨r.rest, true⟩) := if_pos h
theorem byt_yes {r : Rd} {c : Int} (h : r.bad = false) (h2 : c <= (r.rest.length : Int)) : r.byt c = (r.rest.take c.toNat, ⟨r.rest.drop c.toNat, false⟩) := if_neg (by rw [h]; simp; omega)
structure BytOut (w : World) (rb : Nat) (x : List Int × Rd) (e : Ending) (w' : World) : Prop where
  ret : ∃ bv, e = .returned bv /\ RdB w' bv x.1
  out : RdOut w rb x.2 w'
set_option maxHeartbeats 2000000 in
theorem wbytes_any (rb : Nat) (rv ev : Value) (r : Rd) (s : ByteArray) (c : Int) (w : World) (he : Env w) (h : RdAt w rb rv ev r) (hc0 : 0 <= c) (hc1 : c <= 1073741823) :
    Calls Tryz.prog 85 #[.pointer (some ⟨rb, 0, none⟩), .string s, .int .i64 c] w fun e w' => BytOut w rb (r.byt c) e w' := by
  have c0 := h.c0
  have d1 := h.c1
  have hlm := h.rd.2.1
  obtain ⟨_, _, ao, cap, rfl, hlc, _⟩ := id h.rd
  have HH := hideIt h
  obtain ⟨rl, hrl⟩ : ∃ rl, r.rest.length = rl := ⟨_, rfl⟩
  by_cases hlt : (r.rest.length : Int) < c
  · have HN2 := hideIt (byt_no (r := r) (c := c) (Or.inr hlt))
    have HTF := hideIt (tooFew_any (r.rest.length : Int) c (by omega) (by omega) hc0 (by omega) w he)
    rw [hrl] at c0 hlt HTF
    replace HH : Hid (RdAt w rb (.slice ao rl cap) ev r) := by rw [hrl] at HH; exact HH
    clear h he hlm hrl hlc
    go_enter Tryz.func85, Tryz.ntmps85
    go_wp2_with fail
    refine HTF.out.mono ?_
    rintro e w1 ⟨g, rfl, hb⟩
    have HF := hideIt (wfail_any rb _ ev r s (.iface 158 (.pointer (some ⟨g, 0, none⟩))) 0 w1 (HH.out.below hb) ⟨g, rfl⟩ (Or.inl rfl))
    have HB := hideIt hb
    clear hb HTF c0 d1
    go_wp2_with fail
    refine HF.out.mono ?_
    rintro e w2 ⟨rfl, ev', h2, hc2⟩
    have c2 := h2.c1
    obtain ⟨a2, rfl⟩ := h2.errForm rfl
    have H2 := hideIt h2
    have HC2 := hideIt hc2
    clear h2 hc2 HF
    go_wp2_with fail
    go_ret
    rw [HN2.out]
    exact ⟨⟨_, rfl, RdB.nil _⟩, _, _, H2.out, (Chg.of_below HB.out).trans HC2.out⟩
  · cases hb : r.bad with
    | true =>
      have HN2 := hideIt (byt_no (r := r) (c := c) (Or.inl hb))
      obtain ⟨a1, rfl⟩ := h.errForm hb
      rw [hrl] at c0 hlt
      replace HH : Hid (RdAt w rb (.slice ao rl cap) (.iface 155 (.pointer (some ⟨a1, 0, none⟩))) r) := by rw [hrl] at HH; exact HH
      have HB := hideIt hb
      clear h he hlm hrl hlc hb
      go_enter Tryz.func85, Tryz.ntmps85
      go_wp2_with fail
      go_ret
      rw [HN2.out]
      have h1 := HH.out
      exact ⟨⟨_, rfl, RdB.nil _⟩, _, _, RdAt.mk (r := ⟨r.rest, true⟩) h1.blk h1.rd (fun h => (by cases h)) (fun _ => h1.no HB.out), Chg.refl _ _⟩
    | false =>
      have hev := h.ok hb
      subst hev
      obtain ⟨k, rfl⟩ : ∃ k : Nat, c = k := ⟨c.toNat, by omega⟩
      have HN2 := hideIt (byt_yes (r := r) (c := (k : Int)) hb (by omega))
      have hkl : k <= r.rest.length := by omega
      obtain ⟨tv, htv, ⟨ta, tc, rfl⟩, hrun⟩ := h.rd.drop hkl
      obtain ⟨uv, huv, ⟨ua, uc, rfl, _⟩, hrun2⟩ := h.rd.take hkl
      have HT := hideIt htv
      have HU := hideIt huv
      have z0 := h.free 0
      obtain ⟨tl, htl⟩ : ∃ tl, r.rest.length - k = tl := ⟨_, rfl⟩
      rw [htl] at hrun HT
      rw [hrl] at c0 hlt hrun hrun2
      replace HH : Hid (RdAt w rb (.slice ao rl cap) .nilIface r) := by rw [hrl] at HH; exact HH
      have HB := hideIt hb
      clear h he hlm hrl hlc hb htv huv htl hkl
      go_enter Tryz.func85, Tryz.ntmps85
      go_wp2_with fail
      go_ret
      rw [HN2.out]
      have h2 := HH.out.setRest HT.out
      rw [HB.out] at h2
      refine ⟨⟨_, rfl, HH.out.keepR 0 _ HU.out⟩, _, _, h2, chg_set (Below.refl _ _) 0 _⟩
set_option maxHeartbeats 2000000 in
theorem wkind_any (rb : Nat) (rv ev : Value) (r : Rd) (s : ByteArray) (w : World) (he : Env w) (h : RdAt w rb rv ev r) :
    Calls Tryz.prog 83 #[.pointer (some ⟨rb, 0, none⟩), .string s] w fun e w' => e = .returned (.int .i64 r.kind.1) /\ RdOut w rb r.kind.2 w' := by
  have HB := hideIt (wbytes_any rb rv ev r s 1 w he h (by decide) (by decide))
  clear he h
  go_enter Tryz.func83, Tryz.ntmps83
  go_wp2_with fail
  refine HB.out.mono ?_
  rintro e w1 ⟨⟨bv, rfl, hbv⟩, rv1, ev1, h1, hc1⟩
  have d1 := h1.c1
  cases hb : (r.byt 1).2.bad with
  | true =>
    have HK : Hid (r.kind = (0, (r.byt 1).2)) := by
      show _ = _
      unfold Rd.kind
      rw [if_pos hb]
    obtain ⟨a1, rfl⟩ := h1.errForm hb
    obtain ⟨_, _, ba, bc, rfl, _⟩ := hbv
    have H1 := hideIt h1
    have HC := hideIt hc1
    clear h1 hc1 hb HB
    go_wp2_with fail
    go_ret
    rw [HK.out]
    exact ⟨rfl, _, _, H1.out, HC.out⟩
  | false =>
    have HK : Hid (r.kind = ((r.byt 1).1.getD 0 0, (r.byt 1).2)) := by
      show _ = _
      unfold Rd.kind
      rw [if_neg (by rw [hb]; decide)]
    have hev := h1.ok hb
    subst hev
    have hl1 : (r.byt 1).1.length = 1 := by
      by_cases hn : r.bad = true \/ (r.rest.length : Int) < 1
      · rw [byt_no hn] at hb; cases hb
      · have h3 : r.bad = false := by
          cases hrb : r.bad with
          | true => exact absurd (Or.inl hrb) hn
          | false => rfl
        have h4 : (1 : Int) <= (r.rest.length : Int) := by omega
        rw [byt_yes h3 h4]
        simp
        omega
    have hrange := getD_byte hbv.1 0
    obtain ⟨_, _, ba, bc, e1, hbc, _, _, hp⟩ := id hbv
    obtain ⟨bb, off, cur, fr, e2, _⟩ := hp (by omega)
    subst e2
    subst e1
    have hcell := hbv.cell 0 (by omega)
    rw [Nat.add_zero] at hcell
    rw [hl1]
    obtain ⟨x, hx⟩ : ∃ x, (r.byt 1).1.getD 0 0 = x := ⟨_, rfl⟩
    rw [hx] at hcell hrange HK
    obtain ⟨hx0, hx1⟩ := hrange
    have hwx : IntKind.i64.wrap x = x := by rw [IntKind.wrap_i64]; omega
    have H1 := hideIt h1
    have HC := hideIt hc1
    clear h1 hc1 hb HB hbv hp hl1 hx
    go_wp2_with fail
    go_ret
    rw [HK.out]
    exact ⟨rfl, _, _, H1.out, HC.out⟩
set_option maxHeartbeats 1000000 in
theorem wunknown_any (rb : Nat) (rv ev : Value) (r : Rd) (s : ByteArray) (k : Int) (w : World) (he : Env w) (h : RdAt w rb rv ev r) (h0 : 0 <= k) (h1 : k <= 9223372036854775807) :
    Calls Tryz.prog 86 #[.pointer (some ⟨rb, 0, none⟩), .string s, .int .i64 k] w fun e w' => e = .returned (.tuple #[]) /\ RdOut w rb r.fail w' := by
  have HI := hideIt (itoa_any k h0 h1 w he)
  have HH := hideIt h
  clear h he
  go_enter Tryz.func86, Tryz.ntmps86
  go_wp2_with fail
  refine HI.out.mono ?_
  rintro e w1 ⟨t, rfl, ht, hb⟩
  have HB := hideIt hb
  have HF := hideIt (fun (W : World) (hW : Below w.heap.size w W) (g : Nat) => wfail_any rb _ ev r s (.iface 158 (.pointer (some ⟨g, 0, none⟩))) 0 W (HH.out.below hW) ⟨g, rfl⟩ (Or.inl rfl))
  clear hb HI
  go_wp2_with fail
  refine (HF.out _ (below_join HB.out (below_alloc _ _)) _).mono ?_
  rintro e w2 ⟨rfl, ev', h2, hc2⟩
  have H2 := hideIt h2
  have HC2 := hideIt hc2
  clear h2 hc2 HF
  go_wp2_with fail
  go_end0
  exact ⟨rfl, _, _, H2.out, (Chg.of_below (below_join HB.out (below_alloc _ _))).trans HC2.out⟩
def followN (bytes ahead read : Int) : Int := if bytes < read + ahead / 2 then min (read + ahead) 1073741823 else bytes
set_option maxHeartbeats 2000000 in
theorem kBytes_any (bytes ahead : Int) (w : World) :
    Calls Tryz.prog 69 #[.agg #[.int .i64 bytes, .int .i64 ahead]] w fun e w' => e = .returned (.int .i64 bytes) /\ Below w.heap.size w w' := by
  go_enter Tryz.func69, Tryz.ntmps69
  go_wp2_with fail
  go_ret
  exact ⟨rfl, below_alloc _ _⟩
set_option maxHeartbeats 2000000 in
theorem kFollow_any (bytes ahead read : Int) (b o : Nat) (cs : Array Value) (t : TypeId) (w : World) (hblk : w.heap[b]? = some (.cells cs t (0, 0))) (h0 : cs[o]? = some (.int .i64 bytes)) (h1 : cs[o + 1]? = some (.int .i64 ahead))
    (ha : 0 <= ahead /\ ahead <= 1073741823) (hr : 0 <= read /\ read <= 1099511627776) :
    Calls Tryz.prog 80 #[.pointer (some ⟨b, o, none⟩), .int .i64 read] w fun e w' => e = .returned (.bool (decide (bytes < followN bytes ahead read))) /\ w' = (if bytes < read + ahead / 2 then w.setCell ⟨b, o, none⟩ (.int .i64 (followN bytes ahead read)) else w) := by
  have c0 : w.cell? ⟨b, o, none⟩ = some (.int .i64 bytes) := by simp only [World.cell?, hblk]; exact h0
  have c1 : w.cell? ⟨b, o + 1, none⟩ = some (.int .i64 ahead) := by simp only [World.cell?, hblk]; exact h1
  have z0 : w.frozen? ⟨b, o, none⟩ = false := frozen_of_row w b o _ _ hblk
  have hq : Int.tdiv ahead 2 = ahead / 2 := Int.tdiv_eq_ediv_of_nonneg ha.1
  have w1 : IntKind.i64.wrap (ahead / 2) = ahead / 2 := by rw [IntKind.wrap_i64]; omega
  have w2 : IntKind.i64.wrap (read + ahead / 2) = read + ahead / 2 := by rw [IntKind.wrap_i64]; omega
  have w3 : IntKind.i64.wrap (read + ahead) = read + ahead := by rw [IntKind.wrap_i64]; omega
  unfold followN
  clear hblk h0 h1
  by_cases hl : bytes < read + ahead / 2
  · rw [if_pos hl, if_pos hl]
    go_enter Tryz.func80, Tryz.ntmps80
    go_wp2_with fail
    all_goals
      go_ret
      first
      | exact ⟨rfl, rfl⟩
      | (rw [Int.min_eq_right (by omega)]; exact ⟨rfl, rfl⟩)
      | (rw [Int.min_eq_left (by omega)]; exact ⟨rfl, rfl⟩)
  · rw [if_neg hl, if_neg hl]
    go_enter Tryz.func80, Tryz.ntmps80
    go_wp2_with fail
    go_ret
    exact ⟨by simp, rfl⟩
set_option maxHeartbeats 2000000 in
theorem kNew_any (ahead : Int) (w : World) :
    Calls Tryz.prog 165 #[.int .i64 ahead] w fun e w' => e = .returned (.agg #[.int .i64 ahead, .int .i64 ahead]) /\ Below w.heap.size w w' := by
  go_enter Tryz.func165, Tryz.ntmps165
  go_wp2_with fail
  refine bodyPost_ret (results_cell_row (P := Tryz.prog) Tryz.results165 _ _ w.heap.size 133 #[.int .i64 ahead, .int .i64 ahead] (0, 0) _ rfl (heap_alloc_new _ _) Tryz.underlying133 rfl (by kernel_rfl)) rfl ?_
  exact ⟨rfl, below_alloc _ _⟩
end Go.Proofs.YthmdjhlhodpbhaaGreatDoor
namespace Go.Proofs.YthmdjhlhodpbhaaGreatDoor
abbrev RunL := Int × List Int
def pvAt : List RunL -> Int -> Option Int
  | [], _ => none
  | r :: t, p => if r.1 <= p /\ p < r.1 + r.2.length then r.2[(p - r.1).toNat]? else pvAt t p
def RunsWf : List RunL -> Prop
  | [] => True
  | r :: t => 0 < r.2.length /\ (∀ q ∈ t, r.1 + r.2.length < q.1) /\ RunsWf t
def valL (base : Int) (l : List Int) (p : Int) : Option Int :=
  if base <= p then (match l[(p - base).toNat]? with | some x => if 0 <= x then some x else none | none => none) else none
def consRun (base : Int) (x : Int) : List RunL -> List RunL
  | [] => [(base, [x])]
  | r :: t => if r.1 = base + 1 then (base, x :: r.2) :: t else (base, [x]) :: r :: t
def runsOf (base : Int) : List Int -> List RunL
  | [] => []
  | x :: l => if 0 <= x then consRun base x (runsOf (base + 1) l) else runsOf (base + 1) l
theorem runsWf_mem {l : List RunL} (h : RunsWf l) {r : RunL} (hr : r ∈ l) : 0 < r.2.length := by
  induction l with
  | nil => cases hr
  | cons a t ih =>
    rcases List.mem_cons.1 hr with rfl | hr
    · exact h.1
    · exact ih h.2.2 hr
theorem pvAt_below {l : List RunL} {p : Int} (h : ∀ q ∈ l, p < q.1) : pvAt l p = none := by
  induction l with
  | nil => rfl
  | cons r t ih =>
    have h1 := h r (by simp)
    unfold pvAt
    rw [if_neg (by omega)]
    exact ih (fun q hq => h q (by simp [hq]))
theorem pvAt_some {l : List RunL} {p x : Int} (h : pvAt l p = some x) : ∃ r ∈ l, r.1 <= p /\ p < r.1 + r.2.length := by
  induction l with
  | nil => cases h
  | cons r t ih =>
    unfold pvAt at h
    split at h
    · rename_i hc
      exact ⟨r, by simp, hc⟩
    · obtain ⟨q, hq, hc⟩ := ih h
      exact ⟨q, by simp [hq], hc⟩
theorem pvAt_in {r : RunL} {t : List RunL} {p : Int} (h : r.1 <= p /\ p < r.1 + r.2.length) : pvAt (r :: t) p = r.2[(p - r.1).toNat]? := by
  unfold pvAt
  rw [if_pos h]
theorem pvAt_out {r : RunL} {t : List RunL} {p : Int} (h : ¬ (r.1 <= p /\ p < r.1 + r.2.length)) : pvAt (r :: t) p = pvAt t p := by
  conv => lhs; unfold pvAt
  rw [if_neg h]
theorem pvAt_in_some {r : RunL} {t : List RunL} {p : Int} (h : r.1 <= p /\ p < r.1 + r.2.length) : ∃ x, pvAt (r :: t) p = some x := by
  rw [pvAt_in h]
  exact ⟨_, List.getElem?_eq_getElem (by omega)⟩
theorem runs_ext : ∀ {a b : List RunL}, RunsWf a -> RunsWf b -> (∀ p, pvAt a p = pvAt b p) -> a = b
  | [], [], _, _, _ => rfl
  | [], r :: t, _, hb, h => by
    have := h r.1
    obtain ⟨x, hx⟩ := pvAt_in_some (r := r) (t := t) (p := r.1) ⟨by omega, by have := hb.1; omega⟩
    rw [hx] at this
    cases this
  | r :: t, [], ha, _, h => by
    have := h r.1
    obtain ⟨x, hx⟩ := pvAt_in_some (r := r) (t := t) (p := r.1) ⟨by omega, by have := ha.1; omega⟩
    rw [hx] at this
    cases this
  | r :: t, s :: u, ha, hb, h => by
    have hr := ha.1
    have hs := hb.1
    have e1 : r.1 = s.1 := by
      rcases Int.lt_trichotomy r.1 s.1 with h1 | h1 | h1
      · have h2 := h r.1
        rw [pvAt_below (l := s :: u) (fun q hq => by
          rcases List.mem_cons.1 hq with rfl | hq
          · exact h1
          · have := hb.2.1 q hq; omega)] at h2
        obtain ⟨x, hx⟩ := pvAt_in_some (r := r) (t := t) (p := r.1) ⟨by omega, by omega⟩
        rw [hx] at h2
        cases h2
      · exact h1
      · have h2 := h s.1
        rw [pvAt_below (l := r :: t) (fun q hq => by
          rcases List.mem_cons.1 hq with rfl | hq
          · exact h1
          · have := ha.2.1 q hq; omega)] at h2
        obtain ⟨x, hx⟩ := pvAt_in_some (r := s) (t := u) (p := s.1) ⟨by omega, by omega⟩
        rw [hx] at h2
        cases h2
    have endsAt : ∀ {r s : RunL} {t u : List RunL}, RunsWf (r :: t) -> 0 < s.2.length -> r.1 = s.1 -> r.2.length < s.2.length -> (∀ p, pvAt (r :: t) p = pvAt (s :: u) p) -> False := by
      intro r s t u ha hs e1 hlt h
      have h2 := h (r.1 + r.2.length)
      rw [pvAt_out (by omega), pvAt_below (fun q hq => by have := ha.2.1 q hq; omega)] at h2
      obtain ⟨x, hx⟩ := pvAt_in_some (r := s) (t := u) (p := r.1 + r.2.length) ⟨by omega, by omega⟩
      rw [hx] at h2
      cases h2
    have e2 : r.2.length = s.2.length := by
      rcases Nat.lt_trichotomy r.2.length s.2.length with h1 | h1 | h1
      · exact (endsAt ha hs e1 h1 h).elim
      · exact h1
      · exact (endsAt hb hr e1.symm h1 (fun p => (h p).symm)).elim
    have e3 : r.2 = s.2 := by
      apply List.ext_getElem?
      intro i
      rcases Nat.lt_or_ge i r.2.length with hi | hi
      · have h2 := h (r.1 + i)
        rw [pvAt_in ⟨by omega, by omega⟩, pvAt_in ⟨by omega, by omega⟩] at h2
        have e4 : (r.1 + (i : Int) - r.1).toNat = i := by omega
        have e5 : (r.1 + (i : Int) - s.1).toNat = i := by omega
        rw [e4, e5] at h2
        exact h2
      · rw [List.getElem?_eq_none hi, List.getElem?_eq_none (by omega)]
    have e4 : r = s := Prod.ext e1 e3
    subst e4
    congr 1
    refine runs_ext ha.2.2 hb.2.2 fun p => ?_
    by_cases hc : r.1 <= p /\ p < r.1 + r.2.length
    · rw [pvAt_below (fun q hq => by have := ha.2.1 q hq; omega), pvAt_below (fun q hq => by have := hb.2.1 q hq; omega)]
    · have h2 := h p
      rw [pvAt_out hc, pvAt_out hc] at h2
      exact h2
theorem runsOf_from (l : List Int) : ∀ (base : Int), ∀ q ∈ runsOf base l, base <= q.1 := by
  induction l with
  | nil => intro base q hq; simp [runsOf] at hq
  | cons x l ih =>
    intro base q hq
    unfold runsOf at hq
    split at hq
    · unfold consRun at hq
      split at hq
      · simp at hq; subst hq; simp
      · rename_i r t he
        have h1 : ∀ q ∈ r :: t, base + 1 <= q.1 := fun q hq => ih (base + 1) q (by rw [he]; exact hq)
        split at hq
        · rcases List.mem_cons.1 hq with rfl | hq
          · simp
          · have := h1 q (by simp [hq]); omega
        · rcases List.mem_cons.1 hq with rfl | hq
          · simp
          · have := h1 q hq; omega
    · have := ih (base + 1) q hq; omega
theorem runsOf_wf (l : List Int) : ∀ (base : Int), RunsWf (runsOf base l) := by
  induction l with
  | nil => intro base; exact trivial
  | cons x l ih =>
    intro base
    have h0 := ih (base + 1)
    have h1 := runsOf_from l (base + 1)
    unfold runsOf
    split
    · unfold consRun
      split
      · exact ⟨by simp, by simp, trivial⟩
      · rename_i r t he
        rw [he] at h0 h1
        split
        · rename_i e
          exact ⟨by simp, fun q hq => by have := h0.2.1 q hq; simp only [List.length_cons]; omega, h0.2.2⟩
        · rename_i e
          refine ⟨by simp, fun q hq => ?_, h0⟩
          have h2 := h1 r (by simp)
          rcases List.mem_cons.1 hq with rfl | hq
          · simp; omega
          · have := h0.2.1 q hq; have := h0.1; simp; omega
    · exact h0
theorem valL_cons (base x : Int) (l : List Int) (p : Int) : valL base (x :: l) p = if p = base then (if 0 <= x then some x else none) else valL (base + 1) l p := by
  unfold valL
  by_cases h : p = base
  · subst h
    simp
  · rw [if_neg h]
    by_cases h1 : base <= p
    · rw [if_pos h1, if_pos (by omega)]
      have e : (p - base).toNat = (p - (base + 1)).toNat + 1 := by omega
      rw [e, List.getElem?_cons_succ]
    · rw [if_neg h1, if_neg (by omega)]
theorem pvAt_consRun {base x : Int} {rs : List RunL} (h1 : ∀ q ∈ rs, base + 1 <= q.1) (p : Int) : pvAt (consRun base x rs) p = if p = base then some x else pvAt rs p := by
  by_cases hp : p = base
  · subst hp
    rw [if_pos rfl]
    unfold consRun
    split
    · rw [pvAt_in ⟨by simp, by simp; omega⟩]; simp
    · split
      · rw [pvAt_in ⟨by simp, by simp only [List.length_cons]; omega⟩]; simp
      · rw [pvAt_in ⟨by simp, by simp; omega⟩]; simp
  · rw [if_neg hp]
    unfold consRun
    split
    · rw [pvAt_out (by simp; omega)]
    · rename_i r t
      split
      · rename_i e
        by_cases hc : r.1 <= p /\ p < r.1 + r.2.length
        · rw [pvAt_in hc, pvAt_in (by simp only [List.length_cons]; omega)]
          have e4 : (p - base).toNat = (p - r.1).toNat + 1 := by omega
          rw [e4, List.getElem?_cons_succ]
        · rw [pvAt_out hc, pvAt_out (by simp only [List.length_cons]; omega)]
      · rw [pvAt_out (by simp; omega)]
theorem pvAt_runsOf (l : List Int) : ∀ (base p : Int), pvAt (runsOf base l) p = valL base l p := by
  induction l with
  | nil => intro base p; unfold valL runsOf pvAt; simp
  | cons x l ih =>
    intro base p
    have h1 := runsOf_from l (base + 1)
    rw [valL_cons, <- ih]
    conv => lhs; unfold runsOf
    by_cases hx : 0 <= x
    · rw [if_pos hx, if_pos hx, pvAt_consRun h1]
    · rw [if_neg hx, if_neg hx]
      by_cases hp : p = base
      · subst hp
        rw [if_pos rfl]
        exact pvAt_below (fun q hq => by have := h1 q hq; omega)
      · rw [if_neg hp]
end Go.Proofs.YthmdjhlhodpbhaaGreatDoor
