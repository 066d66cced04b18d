/-
  The argument opened: the script as a list of steps.
-/
import Derived.Test.YthmdjhlhodpbhaaGreatDoorOr
namespace Go.Proofs.YthmdjhlhodpbhaaGreatDoor
open Go.RowKit Go.Deep Go.ChangeShapes Go.WideShapes Go.ChangeAt

theorem weightsAll_mem {H : Type} {P : Program} {e : TypeId} {d : DataW H} : ∀ {l : List (DataW H)}, d ∈ l → ∀ n ∈ d.weights P e, n ∈ DataW.weightsAll P e l
  | x :: l, hd, n, hn => by
    simp only [DataW.weightsAll, List.mem_append]
    rcases List.mem_cons.1 hd with rfl | h
    · exact Or.inl hn
    · exact Or.inr (weightsAll_mem h n hn)

theorem script_of_trod {H : Type} {enc : TypeId × Value → H} {W : World} {spare : Nat → Bool} {held : Bool} {fuel : Nat} {v : Value} {x : DataW H × List MemPlace} (h : DataW.trod enc Tryz.prog W 0 spare held fuel 22 [v] = some x) (hw : ∀ k ∈ x.1.weights Tryz.prog 22, k ≤ reachBytes) :
    ∃ ops : List OpD, Script W v ops ∧ (∀ o ∈ ops, OkBytes W o.v ∧ o.v.oneCell' = true) ∧ ops.length * 144 ≤ 140737488351232 := by
  rcases open_slice Tryz.underlying22 h with ⟨hcs, _⟩ | ⟨a, len, cap, m, n, D, Pl, hcs, _, hl, _, hm, hx, hel⟩
  · simp only [List.cons.injEq, and_true] at hcs
    subst hcs
    exact ⟨[], Or.inl ⟨rfl, rfl⟩, ⟨fun o ho => absurd ho (List.not_mem_nil), by decide⟩⟩
  · simp only [List.cons.injEq, and_true] at hcs
    subst hcs
    have hlm : len ≤ m := by rw [hm]; split <;> omega
    have hwt : ∀ k ∈ x.1.weights Tryz.prog 22, k ≤ reachBytes := hw
    rw [hx] at hwt
    simp only [DataW.weights, Tryz.underlying22, bytes38, List.length_map, List.length_range] at hwt
    have hlen : (len + (m - len)) * 144 ≤ reachBytes := hwt _ (List.mem_cons_self ..)
    have hdw : ∀ i, i < len → ∀ k ∈ (D i).weights Tryz.prog 90, k ≤ reachBytes := by
      intro i hi k hk
      refine hwt k (List.mem_cons_of_mem _ (List.mem_append_left _ ?_))
      exact weightsAll_mem (d := D i) (List.mem_map.2 ⟨i, List.mem_range.2 hi, rfl⟩) k hk
    rw [cells38] at hel
    have hops : ∀ i, i < len → ∃ o : OpD, W.cells? 0 (a.add (i * 16)) 16 = some o.cells ∧ OkBytes W o.v ∧ o.v.oneCell' = true := by
      intro i hi
      obtain ⟨cs, h1, h2⟩ := hel i (by omega)
      obtain ⟨o, rfl, ho⟩ := op_of_trod h2 (hdw i hi)
      exact ⟨o, h1, ho⟩
    haveI : Inhabited OpD := ⟨⟨0, 0, 0, 0, 0, 0, 0, 0, 0, 0, 0, 0, 0, 0, 0, .slice none 0 0⟩⟩
    obtain ⟨f, hf⟩ := choose_lt hops
    have hol : ((List.range len).map f).length = len := by simp
    refine ⟨(List.range len).map f, Or.inr ⟨a, cap, by rw [hol], ?_⟩, ?_, ?_⟩
    · intro j u hu
      have hj : j < len * 16 := by
        have := (List.getElem?_eq_some_iff.1 hu).1
        rw [cellsOf_length, hol] at this
        exact this
      have e : j = j / 16 * 16 + j % 16 := by omega
      rw [e, cellsOf_at _ (j / 16) (by rw [hol]; omega) (j % 16) (by omega)] at hu
      have hg : ((List.range len).map f)[j / 16]'(by rw [hol]; omega) = f (j / 16) := by simp
      rw [hg] at hu
      have hc := (hf (j / 16) (by omega)).1
      obtain ⟨_, _, hr⟩ := World.cells?_some hc
      have := hr (j % 16) (by omega)
      rw [add_add, ← e] at this
      rw [this]
      exact hu
    · intro o ho
      obtain ⟨i, hi, rfl⟩ := List.mem_map.1 ho
      exact (hf i (List.mem_range.1 hi)).2
    · rw [hol]
      unfold reachBytes at hlen
      omega
end Go.Proofs.YthmdjhlhodpbhaaGreatDoor
