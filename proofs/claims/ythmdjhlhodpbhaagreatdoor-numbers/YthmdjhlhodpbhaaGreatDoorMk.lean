/-
  Appending the mark to a row of marks: every row of that mark stays one, whether the array was shared or made anew.
-/
import Derived.Test.YthmdjhlhodpbhaaGreatDoorTk
import Derived.ArgAppend
namespace Go.Proofs.YthmdjhlhodpbhaaGreatDoor
open Go.RowKit

/-- a row of n marks -/
abbrev Row (w : World) (base : Nat) (e : TypeId) (v : Value) (n : Nat) (x : Value) : Prop := w.ownsRow base e 1 v n (List.replicate n x)

theorem row_grown {w w' : World} {row : Option Nat} {base : Nat} {e : TypeId} {v : Value} {n : Nat} {x : Value} (h : Row w base e v n x) (hg : w.grownBy w' row) (hn : v.ownBlock = none ∨ v.ownBlock ≠ row) : Row w' base e v n x := World.ownsRow.kept h hg hn

theorem take_marks {cur : List Value} {x : Value} {n m k : Nat} (hn : cur.take n = List.replicate n x) (hk : cur.take k = List.replicate k x) :
    (cur.take n ++ List.replicate m x ++ cur.drop (n + m)).take k = List.replicate k x := by
  apply List.ext_getElem?
  intro j
  rw [List.getElem?_take, List.getElem?_replicate]
  by_cases hj : j < k
  · rw [if_pos hj, if_pos hj, hn]
    by_cases h1 : j < n
    · rw [List.append_assoc, List.getElem?_append_left (by simpa using h1), List.getElem?_replicate, if_pos h1]
    · by_cases h2 : j < n + m
      · rw [List.getElem?_append_left (by simp; omega), List.getElem?_append_right (by simp; omega), List.getElem?_replicate, if_pos (by simp; omega)]
      · rw [List.getElem?_append_right (by simp; omega), List.getElem?_drop]
        simp only [List.length_append, List.length_replicate]
        rw [show n + m + (j - (n + m)) = j from by omega]
        have : (cur.take k)[j]? = some x := by rw [hk, List.getElem?_replicate, if_pos hj]
        rw [List.getElem?_take, if_pos hj] at this
        exact this
  · rw [if_neg hj, if_neg hj]

section
variable {P : Program}
theorem run_append_mark (w : World) (base : Nat) (t ty e : TypeId) (i : TypeInfo) (z : Value) (bytes : Nat) (ht : P.underlying t = some (.slice e)) (hi : P.info? e = some i) (hz : i.zero = some z)
    (hsize : i.size = 1) (hby : i.bytes = bytes) (hzs : z.cells.size = 1) (x : Value) (hx : x.oneCell' = true) (v : Value) (n : Nat) (hown : Row w base e v n x)
    (a : Addr) (m c : Nat) (hnews : ∀ (j : Nat) u, (List.replicate m x)[j]? = some u → w.cell? (a.add j) = some u) (h63 : n + m ≤ maxLen) (hbytes : (n + m) * bytes ≤ 140737488355328) (hbase : base ≤ w.heap.size) :
    ∃ v' w', (Builtin.append_ #[t, t] ty #[v, .slice (some a) m c]).run P w = .ok v' w' ∧ Row w' base e v' (n + m) x ∧ w.grownBy w' v.ownBlock ∧ (∀ b' u k, Row w b' e u k x → Row w' b' e u k x) := by
  have hone : ∀ u ∈ List.replicate m x, u.oneCell' = true := by
    intro u hu
    rw [List.eq_of_mem_replicate hu]; exact hx
  have hrep : List.replicate n x ++ List.replicate m x = List.replicate (n + m) x := by rw [List.replicate_append_replicate]
  rcases hown.2 with ⟨rfl, rfl⟩ | ⟨g, cap, cur, rfl, hbg, hg, hnc, hcm, hcs, htake⟩
  · obtain ⟨v', w', hr, h1, h2, _⟩ := run_append_own (P := P) w base t ty e i z 1 bytes ht hi hz hsize hby hzs (by decide) (.slice none 0 0) 0 [] (World.ownsRow_nil w _ e 1) a m c (List.replicate m x) (by simp) hnews hone h63 hbytes hbase
    refine ⟨v', w', hr, by simpa using h1, h2, fun b' u k hu => row_grown hu h2 (by cases u.ownBlock <;> simp [Value.ownBlock])⟩
  · rw [Nat.mul_one] at hcs htake
    by_cases hroom : n + m ≤ cap
    · have hr := run_append_room (P := P) w t ty e i ht hi g n cap cur hg a m c (List.replicate m x) (by simp [hsize]) hnews hone hroom (by simp [hsize]; omega)
      rw [hsize, Nat.mul_one, List.length_replicate] at hr
      have hfit : n + m ≤ cur.toList.length := by simp; omega
      have hsz : (cur.toList.take n ++ List.replicate m x ++ cur.toList.drop (n + m)).toArray.size = cur.size := by
        simp only [List.size_toArray, List.length_append, List.length_take, List.length_replicate, List.length_drop, Array.length_toList]
        omega
      have key : ∀ b' cu k, b' ≤ g → k ≤ cu → cu ≤ maxLen → cur.size = cu → cur.toList.take k = List.replicate k x → Row (w.setRow g (cur.toList.take n ++ List.replicate m x ++ cur.toList.drop (n + m)).toArray) b' e (.slice (some ⟨g, 0, none⟩) k cu) k x := by
        intro b' cu k hb' hk hcu hs ht'
        refine ⟨by simp, .inr ⟨g, cu, _, rfl, hb', setRow_heap w g cur _ e _ hg, hk, hcu, by rw [hsz]; omega, ?_⟩⟩
        rw [Nat.mul_one]
        exact take_marks htake ht'
      refine ⟨_, _, hr, ?_, ⟨rfl, rfl, rfl, by simp [World.setRow], fun k _ hk => setRow_other w g k _ (fun e => hk (by simp [e, Value.ownBlock]))⟩, ?_⟩
      · refine ⟨by simp, .inr ⟨g, cap, _, rfl, hbg, setRow_heap w g cur _ e _ hg, hroom, hcm, by rw [hsz]; omega, ?_⟩⟩
        rw [Nat.mul_one, htake, hrep]
        rw [List.take_append_of_le_length (by simp)]
        simp
      · intro b' u k hu
        rcases hu.2 with ⟨rfl, rfl⟩ | ⟨g', cap', cur', rfl, hbg', hg', hnc', hcm', hcs', htake'⟩
        · exact World.ownsRow_nil _ _ _ _
        · rw [Nat.mul_one] at hcs' htake'
          by_cases hgg : g' = g
          · subst hgg
            rw [hg] at hg'
            simp only [Option.some.injEq, Obj.cells.injEq] at hg'
            obtain ⟨rfl, _⟩ := hg'
            exact key b' cap' k hbg' hnc' hcm' hcs' htake'
          · refine ⟨by simp, .inr ⟨g', cap', cur', rfl, hbg', by rw [setRow_other w g g' _ hgg]; exact hg', hnc', hcm', by omega, by rw [Nat.mul_one]; exact htake'⟩⟩
    · obtain ⟨v', w', hr, h1, h2⟩ := run_append_arg_grows (P := P) w t ty e i z 1 bytes ht hi hz hsize hby hzs (by decide) ⟨g, 0, none⟩ n cap (List.replicate n x) (by simp) (hown.cells rfl) a m c (List.replicate m x) (by simp) hnews (by omega) h63 hbytes
      rw [hrep] at h1
      exact ⟨v', w', hr, own_mono h1 hbase, ⟨h2.os, h2.tape, h2.output, h2.size, fun k hk _ => h2.block k hk (by simp)⟩, fun b' u k hu => row_grown hu h2 (by cases u.ownBlock <;> simp)⟩

theorem wpList_append_mark {w : World} {ops : Array Oper} {rest : List Oper} {o : Oper} {a : Act} {Q : Exit → Act → World → Prop} (hgd : o.guard = none) (s y : Operand) (t : TypeId)
    (ho : o.op = .call { callee := .builtin .append, args := #[s, y], argTypes := #[t, t] })
    (base : Nat) (e : TypeId) (i : TypeInfo) (z : Value) (bytes : Nat) (ht : P.underlying t = some (.slice e)) (hi : P.info? e = some i) (hz : i.zero = some z)
    (hsize : i.size = 1) (hby : i.bytes = bytes) (hzs : z.cells.size = 1) (x : Value) (hx : x.oneCell' = true) (v : Value) (n : Nat) (hs : a.eval s = v) (hown : Row w base e v n x)
    (ad : Addr) (m c : Nat) (hy : a.eval y = .slice (some ad) m c) (hnews : ∀ (j : Nat) u, (List.replicate m x)[j]? = some u → w.cell? (ad.add j) = some u) (h63 : n + m ≤ maxLen) (hbytes : (n + m) * bytes ≤ 140737488355328) (hbase : base ≤ w.heap.size)
    (h : ∀ v' w', Row w' base e v' (n + m) x → w.grownBy w' v.ownBlock → (∀ b' u k, Row w b' e u k x → Row w' b' e u k x) → wpList P ops Q rest (a.put o.dst v') w') : wpList P ops Q (o :: rest) a w := by
  refine wpList_plain hgd fun K hK => ?_
  obtain ⟨v', w', hrun, h1, h2, h3⟩ := run_append_mark (P := P) w base t o.type e i z bytes ht hi hz hsize hby hzs x hx v n hown ad m c hnews h63 hbytes hbase
  unfold Oper.wp
  simp [execOp, ho, resolve, invoke, builtin, hs, hy, hrun, Result.andThen]
  exact hK _ _ (h v' w' h1 h2 h3)
end
end Go.Proofs.YthmdjhlhodpbhaaGreatDoor
