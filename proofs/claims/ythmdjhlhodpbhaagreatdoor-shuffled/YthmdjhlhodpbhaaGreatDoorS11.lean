/- Shuffled, 11 -/
import Derived.WalkKit
import Derived.Maps.OwnSet
import Derived.Maps.OwnOps
import Derived.Maps.RangeWalk
import Derived.Lib.Overlaps
import Derived.Lib.AppendZeros
import Derived.Lib.AppendZerosOnto
import Derived.Laws.Externs
import Derived.Deep.DeepFit
import Derived.Test.YthmdjhlhodpbhaaGreatDoorS01
import Derived.Test.YthmdjhlhodpbhaaGreatDoorS05
set_option maxHeartbeats 16000000
set_option maxRecDepth 8000
namespace Go.Proofs.YthmdjhlhodpbhaaGreatDoor
open Go.Maps (Keyed)
structure MCode (α : Type) where
 V : α -> Value
 z : Value
 zc : Int
 enc : α -> Int
 R : Value -> Option (DataW Unit × List MemPlace)
 val : ∀ a, R (V a) = some (.lit (.int .i64 (enc a)), [])
 zer : R z = some (.lit (.int .i64 zc), [])
 inv : ∀ {v c ps}, R v = some (.lit (.int .i64 c), ps) -> (∀ a, enc a = c -> v = V a) /\ (c = zc -> v = z)
def ptrR : Value -> Option (DataW Unit × List MemPlace)
 | .pointer none => some (.lit (.int .i64 (-1)), [])
 | .pointer (some ⟨b, 0, none⟩) => some (.lit (.int .i64 b), [])
 | _ => none
def ptrC : MCode Nat where
 V b := .pointer (some ⟨b, 0, none⟩)
 z := .pointer none
 zc := -1
 enc b := b
 R := ptrR
 val a := rfl
 zer := rfl
 inv := by
  intro v c ps h
  unfold ptrR at h
  split at h
  ·simp at h
   exact ⟨fun a ha => by omega, fun _ => rfl⟩
  ·simp at h
   refine ⟨fun a ha => ?_, fun hc => by omega⟩
   obtain ⟨h1, _⟩ := h
   have : a = _ := Int.ofNat.inj (ha.trans h1.symm)
   rw [this]
  ·cases h
def doneR : Value -> Option (DataW Unit × List MemPlace)
 | .agg cs => match cs.toList with
  | [.int .i64 f, .bool r] => some (.lit (.int .i64 (2 * f + if r then 1 else 0)), [])
  | _ => none
 | _ => none
def doneC : MCode (Int × Bool) where
 V d := .agg #[.int .i64 d.1, .bool d.2]
 z := .agg #[.int .i64 0, .bool false]
 zc := 0
 enc d := 2 * d.1 + if d.2 then 1 else 0
 R := doneR
 val a := rfl
 zer := rfl
 inv := by
  intro v c ps h
  unfold doneR at h
  split at h
  ·rename_i cs
   split at h
   ·rename_i f r he
    have hcs : cs = #[.int .i64 f, .bool r] := by rw [<- Array.toArray_toList (xs := cs), he]
    subst hcs
    simp at h
    obtain ⟨h1, _⟩ := h
    have key : ∀ a : Int × Bool, (2 * a.1 + if a.2 then 1 else 0) = c -> a = (f, r) := by
     rintro ⟨f', r'⟩ ha
     cases r <;> cases r' <;> simp at h1 ha <;> first | (exact (Prod.ext (by simp only; omega) rfl)) | omega
    refine ⟨fun a ha => by rw [key a ha], fun hc => ?_⟩
    have := key (0, false) (by simp [hc])
    cases this
    rfl
   ·cases h
  ·cases h
def atK {α : Type} (l : List (Int × α)) (k : Int) : Option α := (l.find? fun e => e.1 == k).map (·.2)
def delK {α : Type} (l : List (Int × α)) (k : Int) : List (Int × α) := l.filter fun e => !(e.1 == k)
theorem atK_mem {α : Type} {l : List (Int × α)} (hn : (l.map (·.1)).Nodup) {k : Int} {a : α} (h : (k, a) ∈ l) : atK l k = some a := by
 unfold atK
 induction l with
 | nil => cases h
 | cons e t ih =>
  rw [List.find?_cons]
  rcases List.mem_cons.1 h with rfl | h
  ·simp
  ·have : e.1 ≠ k := fun he => by
    simp only [List.map_cons, List.nodup_cons] at hn
    exact hn.1 (List.mem_map.2 ⟨(k, a), h, he.symm⟩)
   simp only [beq_eq_false_iff_ne.2 this]
   simp only [List.map_cons, List.nodup_cons] at hn
   exact ih hn.2 h
theorem mem_atK {α : Type} {l : List (Int × α)} {k : Int} {a : α} (h : atK l k = some a) : (k, a) ∈ l := by
 unfold atK at h
 cases hf : l.find? (fun e => e.1 == k) with
 | none => rw [hf] at h; cases h
 | some e =>
  rw [hf] at h
  simp at h
  have h1 := List.mem_of_find?_eq_some hf
  have h2 := List.find?_some hf
  simp at h2
  subst h h2
  exact h1
theorem atK_none {α : Type} {l : List (Int × α)} {k : Int} : atK l k = none ↔ k ∉ l.map (·.1) := by
 unfold atK
 simp only [Option.map_eq_none_iff, List.find?_eq_none, List.mem_map, not_exists, not_and, beq_iff_eq]
theorem atK_snoc {α : Type} (l : List (Int × α)) (k : Int) (a : α) (hk : atK l k = none) (k' : Int) : atK (l ++ [(k, a)]) k' = if k' = k then some a else atK l k' := by
 by_cases h : k' = k
 ·subst h
  rw [if_pos rfl]
  unfold atK at hk ⊢
  rw [List.find?_append]
  simp only [Option.map_eq_none_iff] at hk
  rw [hk]
  simp
 ·rw [if_neg h]
  unfold atK
  rw [List.find?_append]
  have : (k == k') = false := by simpa using fun e : k = k' => h e.symm
  simp [this]
theorem atK_delK {α : Type} (l : List (Int × α)) (k k' : Int) : atK (delK l k) k' = if k' = k then none else atK l k' := by
 unfold atK delK
 by_cases h : k' = k
 ·subst h
  rw [if_pos rfl]
  simp [List.find?_eq_none]
 ·rw [if_neg h, List.find?_filter]
  congr 2
  funext e
  by_cases h1 : e.1 = k'
  ·simp [h1, h]
  ·simp [h1]
theorem delK_nodup {α : Type} {l : List (Int × α)} (hn : (l.map (·.1)).Nodup) (k : Int) : ((delK l k).map (·.1)).Nodup :=
 (List.filter_sublist.map _).nodup hn
theorem delK_length {α : Type} {l : List (Int × α)} (hn : (l.map (·.1)).Nodup) {k : Int} {a : α} (h : atK l k = some a) : (delK l k).length + 1 = l.length := by
 induction l with
 | nil => cases h
 | cons e t ih =>
  simp only [List.map_cons, List.nodup_cons] at hn
  unfold delK
  by_cases he : e.1 = k
  ·subst he
   have : t.filter (fun x => !(x.1 == e.1)) = t := List.filter_eq_self.2 fun x hx => by
    have : x.1 ≠ e.1 := fun h1 => hn.1 (List.mem_map.2 ⟨x, hx, h1⟩)
    simpa using this
   simp [this]
  ·have h2 : atK t k = some a := by
    unfold atK at h ⊢
    rw [List.find?_cons] at h
    simpa [beq_eq_false_iff_ne.2 he] using h
   have h1 := ih hn.2 h2
   unfold delK at h1
   simp [he]
   omega
section
variable {α : Type} (C : MCode α) (P : Program) (K : TypeId)
structure MapOk (D : DataW Unit) (l : List (Int × α)) : Prop where
 has : ∀ k, Maps.has D (.int .i64 k) = (atK l k).isSome
 at_ : ∀ k a, atK l k = some a -> ∀ z, D.atKey (.int .i64 k) z = .lit (.int .i64 (C.enc a))
 size : Maps.size D = l.length
 nd : (l.map (·.1)).Nodup
def MapIs (w : World) (b n : Nat) (l : List (Int × α)) : Prop := ∃ D, w.ownsMap P K C.R b n D /\ MapOk C D l
def RangeIs (w : World) (b r n : Nat) (l rest : List (Int × α)) (cnt : Nat) : Prop :=
 ∃ D left, w.ranges P K C.R b r n D left cnt /\ MapOk C D l /\ rest = l.filter (fun e => left (.int .i64 e.1)) /\ ∀ k, left (.int .i64 k) = true -> (atK l k).isSome
variable {C P K}
theorem MapIs.lt {w : World} {b n : Nat} {l : List (Int × α)} (h : MapIs C P K w b n l) : b < w.heap.size := by obtain ⟨D, h, _⟩ := h; exact h.lt
theorem MapIs.le {w : World} {b n : Nat} {l : List (Int × α)} (h : MapIs C P K w b n l) : l.length <= n := by obtain ⟨D, h, k⟩ := h; rw [<- k.size]; exact h.size_le
theorem MapIs.is_map {w : World} {b n : Nat} {l : List (Int × α)} (h : MapIs C P K w b n l) : ∃ es clock, w.heap[b]? = some (.map es clock) := by
 obtain ⟨D, ⟨es, clock, hb, _⟩, _⟩ := h
 exact ⟨es, clock, hb⟩
theorem MapIs.same {w w' : World} {b n : Nat} {l : List (Int × α)} (h : MapIs C P K w b n l) (hb : w'.heap[b]? = w.heap[b]?) : MapIs C P K w' b n l := by
 obtain ⟨D, ⟨es, clock, h1, h2⟩, k⟩ := h
 exact ⟨D, ⟨es, clock, hb.trans h1, h2⟩, k⟩
theorem mapIs_made (w : World) : MapIs C P K (w.alloc (.map #[] 0)) w.heap.size 0 [] :=
 ⟨.map [], World.ownsMap_made w P K C.R, ⟨fun k => rfl, fun k a h => (by simp [atK] at h), rfl, List.nodup_nil⟩⟩
theorem MapOk.put {D : DataW Unit} {l : List (Int × α)} (h : MapOk C D l) (ht : Maps.Tidy D) {k : Int} (a : α) (hk : atK l k = none) : MapOk C (D.put (.int .i64 k) (.lit (.int .i64 (C.enc a)))) (l ++ [(k, a)]) where
 has k' := by
  rw [atK_snoc l k a hk]
  by_cases e : k' = k
  ·subst e
   rw [if_pos rfl, Maps.has_put_same ht.isMap (k := .int .i64 k') trivial]
   rfl
  ·rw [if_neg e, Maps.has_put_other (by simpa using e), h.has]
 at_ k' a' h' z := by
  rw [atK_snoc l k a hk] at h'
  by_cases e : k' = k
  ·subst e
   rw [if_pos rfl] at h'
   cases h'
   rw [Maps.atKey_put_same ht.isMap (k := .int .i64 k') trivial]
  ·rw [if_neg e] at h'
   rw [Maps.atKey_put_other (by simpa using e)]
   exact h.at_ k' a' h' z
 size := by
  rw [Maps.size_put ht, h.has, hk, h.size]
  simp
 nd := by
  rw [List.map_append, List.nodup_append]
  refine ⟨h.nd, by simp, fun x hx y hy => ?_⟩
  simp at hy
  subst hy
  exact fun e => (atK_none.1 hk) (e ▸ hx)
theorem MapOk.del {D : DataW Unit} {l : List (Int × α)} (h : MapOk C D l) (ht : Maps.Tidy D) {k : Int} {a : α} (hk : atK l k = some a) : MapOk C (D.del (.int .i64 k)) (delK l k) where
 has k' := by
  rw [atK_delK]
  by_cases e : k' = k
  ·subst e
   rw [if_pos rfl, Maps.has_del_same]
   rfl
  ·rw [if_neg e, Maps.has_del_other (by simpa using e), h.has]
 at_ k' a' h' z := by
  rw [atK_delK] at h'
  by_cases e : k' = k
  ·rw [if_pos e] at h'; cases h'
  ·rw [if_neg e] at h'
   rw [Maps.atKey_del_other (by simpa using e)]
   exact h.at_ k' a' h' z
 size := by
  have h1 := Maps.size_del (k := .int .i64 k) ht
  rw [h.has, hk, h.size] at h1
  have h2 := delK_length h.nd hk
  simp at h1
  omega
 nd := delK_nodup h.nd k
section
variable (w : World) {ops : Array Oper} {rest : List Oper} {o : Oper} {a : Act} {Q : Exit -> Act -> World -> Prop}
theorem wf_key {k : Int} (h : -9223372036854775808 <= k /\ k <= 9223372036854775807) : (Lit.int .i64 k).wf = true := WalkArith.wf_i64 h
theorem wpList_mlen (hg : o.guard = none) (m : Operand) (t : TypeId) (hop : o.op = Op.call { callee := Callee.builtin Builtin.len, args := #[m], argTypes := #[t] })
  (e : TypeId) (ht : P.underlying t = some (.map K e)) (b n : Nat) (l : List (Int × α)) (hm : a.eval m = .map (some b)) (hown : MapIs C P K w b n l)
  (hGo : wpList P ops Q rest (a.put o.dst (.int .i64 l.length)) w) :
  wpList P ops Q (o :: rest) a w := by
 obtain ⟨D, hown, ok⟩ := hown
 exact wpList_len_own w hg m t hop K e ht C.R b n D hm hown (by rw [ok.size]; exact hGo)
theorem wpList_mput (hg : o.guard = none) (m x v : Operand) (t : TypeId) (hop : o.op = Op.mapUpdate t m x v) (e : TypeId) (hK : P.underlying K = some (.int .i64)) (ht : P.underlying t = some (.map K e))
  (b n : Nat) (l : List (Int × α)) (hm : a.eval m = .map (some b)) (hown : MapIs C P K w b n l) (hn : n < maxLen) (k : Int) (y : α) (hx : a.eval x = .int .i64 k) (hv : a.eval v = C.V y) (hk : (Lit.int .i64 k).wf = true) (hno : atK l k = none)
  (hGo : ∀ w', MapIs C P K w' b (n + 1) (l ++ [(k, y)]) -> w.grownBy w' (some b) -> w'.heap.size = w.heap.size -> wpList P ops Q rest (a.put o.dst undef) w') :
  wpList P ops Q (o :: rest) a w := by
 obtain ⟨D, hown, ok⟩ := hown
 refine wpList_mapUpdate_in w hg m x v t hop K e (Maps.int_keyed hK) ht C.R b n D hm hown hn _ _ _ hx hv (Maps.keyOf_int_mk hK hk) _ _ (C.val y) fun w' h1 h2 => ?_
 refine hGo w' ⟨_, h1, ok.put (hown.tidy (Maps.int_keyed hK)) y hno⟩ h2.grown ?_
 obtain ⟨es, clock, es', clock', hb, rfl⟩ := h2
 simp [ChangeMaps.setBlock]
theorem wpList_mdel (hg : o.guard = none) (m x : Operand) (t : TypeId) (hop : o.op = Op.call { callee := Callee.builtin Builtin.delete, args := #[m, x], argTypes := #[t, K] }) (e : TypeId) (hK : P.underlying K = some (.int .i64)) (ht : P.underlying t = some (.map K e))
  (b n : Nat) (l : List (Int × α)) (hm : a.eval m = .map (some b)) (hown : MapIs C P K w b n l) (k : Int) (y : α) (hx : a.eval x = .int .i64 k) (hk : (Lit.int .i64 k).wf = true) (hy : atK l k = some y)
  (hGo : ∀ w', MapIs C P K w' b n (delK l k) -> w.grownBy w' (some b) -> w'.heap.size = w.heap.size -> wpList P ops Q rest (a.put o.dst (.tuple #[])) w') :
  wpList P ops Q (o :: rest) a w := by
 obtain ⟨D, hown, ok⟩ := hown
 refine wpList_delete_own w hg m x t K hop e (Maps.int_keyed hK) ht C.R b n D hm hown _ _ hx (Maps.keyOf_int_mk hK hk) fun w' h1 h2 => ?_
 refine hGo w' ⟨_, h1, ok.del (hown.tidy (Maps.int_keyed hK)) hy⟩ h2.grown ?_
 obtain ⟨es, clock, es', clock', hb, rfl⟩ := h2
 simp [ChangeMaps.setBlock]
theorem RangeIs.map {w : World} {b r n : Nat} {l rs : List (Int × α)} {cnt : Nat} (h : RangeIs C P K w b r n l rs cnt) : MapIs C P K w b n l := by
 obtain ⟨D, left, h1, h2, _⟩ := h
 exact ⟨D, h1.owns, h2⟩
theorem RangeIs.left_eq {w : World} {b r n : Nat} {l rs : List (Int × α)} {cnt : Nat} (h : RangeIs C P K w b r n l rs cnt) : w.rangeLeft b r = cnt := by
 obtain ⟨D, left, h1, _⟩ := h
 exact h1.left_eq
theorem RangeIs.kept {w w' : World} {b r n : Nat} {l rs : List (Int × α)} {cnt : Nat} (h : RangeIs C P K w b r n l rs cnt) (hb : w'.heap[b]? = w.heap[b]?) (hr : w'.heap[r]? = w.heap[r]?) : RangeIs C P K w' b r n l rs cnt := by
 obtain ⟨D, left, ⟨es, clock, since, seen, c0, h1, h2, h3, h4, h5, h6⟩, k⟩ := h
 exact ⟨D, left, ⟨es, clock, since, seen, c0, hb.trans h1, h2, h3, h4, hr.trans h5, h6⟩, k⟩
theorem RangeIs.iter {w : World} {b r n : Nat} {l rs : List (Int × α)} {cnt : Nat} (h : RangeIs C P K w b r n l rs cnt) : r < w.heap.size /\ ∃ x y z u, w.heap[r]? = some (.mapIter x y z u) := by
 obtain ⟨D, left, h1, _⟩ := h
 refine ⟨h1.lt, ?_⟩
 obtain ⟨es, clock, since, seen, c0, _, _, _, _, h5, _⟩ := h1
 exact ⟨_, _, _, _, h5⟩
theorem wpList_mrange (hg : o.guard = none) (m : Operand) (t : TypeId) (hop : o.op = Op.range t m) (e : TypeId) (hK : P.underlying K = some (.int .i64)) (ht : P.underlying t = some (.map K e))
  (b n : Nat) (l : List (Int × α)) (hm : a.eval m = .map (some b)) (hown : MapIs C P K w b n l)
  (hGo : ∀ w', RangeIs C P K w' b w.heap.size n l l l.length -> w.grownBy w' none -> w'.heap.size = w.heap.size + 1 -> wpList P ops Q rest (a.put o.dst (.pointer (some ⟨w.heap.size, 0, none⟩))) w') :
  wpList P ops Q (o :: rest) a w := by
 obtain ⟨D, hown, ok⟩ := hown
 refine wpList_range_own w hg m t hop K e (Maps.int_keyed hK) ht C.R b n D hm hown fun w' h1 h2 h3 => hGo w' ?_ h2 h3
 refine ⟨D, Maps.has D, by rw [<- ok.size]; exact h1, ok, ?_, fun k hk => by rw [<- ok.has]; exact hk⟩
 symm
 rw [List.filter_eq_self]
 intro e he
 rw [ok.has, atK_mem ok.nd (show (e.1, e.2) ∈ l from he)]
 rfl
theorem wpList_mnext (hg : o.guard = none) (it : Operand) (hop : o.op = Op.next it false) (hK : P.underlying K = some (.int .i64))
  (b r n : Nat) (l rs : List (Int × α)) (cnt : Nat) (hit : a.eval it = .pointer (some ⟨r, 0, none⟩)) (h : RangeIs C P K w b r n l rs cnt)
  (hDone : rs = [] -> wpList P ops Q rest (a.put o.dst (.tuple #[.bool false])) w)
  (hMore : ∀ (k : Int) (y : α) (r1 r2 : List (Int × α)) (w' : World) (cnt' : Nat), rs = r1 ++ (k, y) :: r2 -> (Lit.int .i64 k).wf = true -> atK l k = some y -> RangeIs C P K w' b r n l (r1 ++ r2) cnt' -> cnt' < cnt ->
   w.grownBy w' (some r) -> w'.heap.size = w.heap.size -> (Instr.entry (.pointer (some ⟨r, 0, none⟩))).run P w' = .ok (.tuple #[.int .i64 k, C.V y]) w' -> wpList P ops Q rest (a.put o.dst (.tuple #[.bool true, .int .i64 k, C.V y])) w') :
  wpList P ops Q (o :: rest) a w := by
 obtain ⟨D, left, hr, ok, rfl, hl⟩ := h
 refine wpList_plain hg fun K' hK' => ?_
 unfold Oper.wp
 rcases hr.next (Maps.int_keyed hK) o.type with ⟨h0, hl0, hrun⟩ | ⟨key, v, kl, y, w', cnt', hkey, hlk, hv, hat, hrun, hrg, hlt, hgr, hsz, hen⟩
 ·simp [execOp, hop, hit, hrun, Result.andThen]
  refine hK' _ _ (hDone ?_)
  rw [List.filter_eq_nil_iff]
  intro e _
  rw [hl0]
  simp
 ·obtain ⟨x, rfl, rfl, hwx⟩ := Maps.keyOf_int_inv hK hkey
  cases ha : atK l x with
  | none => have := hl x hlk; rw [ha] at this; cases this
  | some c =>
   have hv2 : v = C.V c := by
    have h1 := ok.at_ x c ha (.lit (.int .i64 0))
    rw [hat] at h1
    obtain ⟨y1, y2⟩ := y
    simp only at h1
    subst h1
    exact (C.inv hv).1 c rfl
   subst hv2
   simp [execOp, hop, hit, hrun, Result.andThen]
   have hmem := mem_atK ha
   obtain ⟨l1, l2, hl12⟩ := List.append_of_mem hmem
   have hnd := ok.nd
   rw [hl12, List.map_append, List.map_cons, List.nodup_append] at hnd
   obtain ⟨n1, n2, n3⟩ := hnd
   rw [List.nodup_cons] at n2
   refine hK' _ _ (hMore x c (l1.filter fun e => left (.int .i64 e.1)) (l2.filter fun e => left (.int .i64 e.1)) w' cnt' ?_ hwx ha ⟨D, _, hrg, ok, ?_, ?_⟩ hlt hgr hsz hen)
   ·rw [hl12, List.filter_append, List.filter_cons]
    simp only [hlk, if_true]
   ·rw [hl12, List.filter_append, List.filter_cons]
    have e0 : (left (.int .i64 x) && !(Lit.int .i64 x).sameKey (.int .i64 x)) = false := by simp [Lit.sameKey]
    have e0' : ¬ ((left (.int .i64 x) && !(Lit.int .i64 x).sameKey (.int .i64 x)) = true) := by simp [e0]
    rw [if_neg e0']
    congr 1
    ·refine List.filter_congr fun e he => ?_
     have : e.1 ≠ x := fun h1 => n3 e.1 (List.mem_map.2 ⟨e, he, rfl⟩) x (by simp) h1
     simp [Lit.sameKey, this]
    ·refine List.filter_congr fun e he => ?_
     have : e.1 ≠ x := fun h1 => n2.1 (List.mem_map.2 ⟨e, he, h1⟩)
     simp [Lit.sameKey, this]
   ·intro k hk
    simp at hk
    exact hl k hk.1
end
end
end Go.Proofs.YthmdjhlhodpbhaaGreatDoor
namespace Go.Proofs.YthmdjhlhodpbhaaGreatDoor
open Go.RowKit
theorem tcheckCredit_any (b : Nat) (hi cr ah en room : Int) (w : World) (h2 : w.cell? ⟨b, 2, none⟩ = some (.int .i64 hi)) (h3 : w.cell? ⟨b, 3, none⟩ = some (.int .i64 cr)) (h4 : w.cell? ⟨b, 4, none⟩ = some (.int .i64 ah))
  (hh : 0 <= hi /\ hi <= 1073741823) (he : 0 <= en /\ en <= 1099511627776) :
  Calls Tryz.prog 228 #[.pointer (some ⟨b, 0, none⟩), .int .i64 en, .int .i64 room] w fun e w' => e = .returned (.int .i64 (creditN hi cr en room)) /\ Below w.heap.size w w' := by
 have HX := hideIt (kBytes_any cr ah w)
 have hw : IntKind.i64.wrap (en - hi) = en - hi := by rw [IntKind.wrap_i64]; omega
 unfold creditN
 by_cases h1 : cr < en
 ·rw [if_pos (Or.inl h1)]
  have hd : decide (cr < en) = true := by simpa using h1
  go_enter Tryz.func228, Tryz.ntmps228
  go_wp2_with fail
  refine HX.out.mono ?_
  rintro e w1 ⟨rfl, hb1⟩
  have c2 := cell_below h2 hb1
  clear HX
  go_wp2_with fail
  go_ret
  exact ⟨rfl, hb1⟩
 ·have hd : decide (cr < en) = false := by simpa using h1
  by_cases h5 : room < en - hi
  ·rw [if_pos (Or.inr h5)]
   go_enter Tryz.func228, Tryz.ntmps228
   go_wp2_with fail
   refine HX.out.mono ?_
   rintro e w1 ⟨rfl, hb1⟩
   have c2 := cell_below h2 hb1
   clear HX
   go_wp2_with fail
   go_ret
   exact ⟨rfl, hb1⟩
  ·rw [if_neg (by omega)]
   go_enter Tryz.func228, Tryz.ntmps228
   go_wp2_with fail
   refine HX.out.mono ?_
   rintro e w1 ⟨rfl, hb1⟩
   have c2 := cell_below h2 hb1
   clear HX
   go_wp2_with fail
   go_ret
   exact ⟨rfl, hb1⟩
theorem tcheckEnd_any (b : Nat) (hi fi : Int) (kn : Bool) (ty id ofs : Int) (bv : Value) (en pf : Int) (w : World) (h2 : w.cell? ⟨b, 2, none⟩ = some (.int .i64 hi)) (h5 : w.cell? ⟨b, 5, none⟩ = some (.int .i64 fi)) (h6 : w.cell? ⟨b, 6, none⟩ = some (.bool kn)) :
  Calls Tryz.prog 227 #[.pointer (some ⟨b, 0, none⟩), pfrmV ty id ofs bv en pf] w fun e w' => e = .returned (.int .i64 (endN kn ty en hi fi)) /\ Below w.heap.size w w' := by
 have HX : Hid (∀ W, Calls Tryz.prog 230 #[.agg #[.int .i64 ty, .int .i64 id, .int .i64 ofs, bv, .int .i64 en, .int .i64 pf]] W fun e w' => e = .returned (.bool (tellsN ty)) /\ Below W.heap.size W w') := fun W => wTellsFinal_any ty id ofs bv en pf W
 have HF : Hid (∀ W, Calls Tryz.prog 224 #[.agg #[.int .i64 ty, .int .i64 id, .int .i64 ofs, bv, .int .i64 en, .int .i64 pf], .int .i64 fi] W fun e w' => e = .returned (.int .i64 (finalN ty en fi)) /\ Below W.heap.size W w') := fun W => tcheckFinal_any ty id ofs bv en pf fi W
 have hne : b ≠ w.heap.size := Nat.ne_of_lt (cell_lt h2)
 have HC : Hid (∀ W : World, Below (w.alloc (.cells #[.int .i64 ty, .int .i64 id, .int .i64 ofs, bv, .int .i64 en, .int .i64 pf] 286)).heap.size (w.alloc (.cells #[.int .i64 ty, .int .i64 id, .int .i64 ofs, bv, .int .i64 en, .int .i64 pf] 286)) W -> W.cell? ⟨w.heap.size, 4, none⟩ = some (.int .i64 en) /\ W.cell? ⟨b, 2, none⟩ = some (.int .i64 hi) /\ Below w.heap.size w W) := by
  intro W hW
  refine ⟨cell_below ?_ hW, cell_below h2 (below_join (below_alloc _ _) hW), below_join (below_alloc _ _) hW⟩
  simp only [World.cell?, heap_alloc_new]
  rfl
 have q2 := cell_below h2 (below_alloc w (.cells #[.int .i64 ty, .int .i64 id, .int .i64 ofs, bv, .int .i64 en, .int .i64 pf] 286))
 have q5 := cell_below h5 (below_alloc w (.cells #[.int .i64 ty, .int .i64 id, .int .i64 ofs, bv, .int .i64 en, .int .i64 pf] 286))
 have q6 := cell_below h6 (below_alloc w (.cells #[.int .i64 ty, .int .i64 id, .int .i64 ofs, bv, .int .i64 en, .int .i64 pf] 286))
 have HA : Hid (∀ W w' : World, Below W.heap.size W w' -> (W.cell? ⟨b, 2, none⟩ = some (.int .i64 hi) /\ W.cell? ⟨w.heap.size, 0, none⟩ = some (.int .i64 ty) /\ W.cell? ⟨w.heap.size, 1, none⟩ = some (.int .i64 id) /\ W.cell? ⟨w.heap.size, 2, none⟩ = some (.int .i64 ofs) /\ W.cell? ⟨w.heap.size, 3, none⟩ = some (bv) /\ W.cell? ⟨w.heap.size, 4, none⟩ = some (.int .i64 en) /\ W.cell? ⟨w.heap.size, 5, none⟩ = some (.int .i64 pf)) -> (w'.cell? ⟨b, 2, none⟩ = some (.int .i64 hi) /\ w'.cell? ⟨w.heap.size, 0, none⟩ = some (.int .i64 ty) /\ w'.cell? ⟨w.heap.size, 1, none⟩ = some (.int .i64 id) /\ w'.cell? ⟨w.heap.size, 2, none⟩ = some (.int .i64 ofs) /\ w'.cell? ⟨w.heap.size, 3, none⟩ = some (bv) /\ w'.cell? ⟨w.heap.size, 4, none⟩ = some (.int .i64 en) /\ w'.cell? ⟨w.heap.size, 5, none⟩ = some (.int .i64 pf))) :=
  fun W w' hb h => ⟨cell_below h.1 hb, cell_below h.2.1 hb, cell_below h.2.2.1 hb, cell_below h.2.2.2.1 hb, cell_below h.2.2.2.2.1 hb, cell_below h.2.2.2.2.2.1 hb, cell_below h.2.2.2.2.2.2 hb⟩
 unfold pfrmV endN
 cases kn with
 | true =>
  rw [if_pos rfl]
  go_enter Tryz.func227, Tryz.ntmps227
  go_wp2_with fail
  go_region_with (first
   | (go_at_call 224; refine (HF.out _).mono ?_; rintro e w1 ⟨rfl, hb1⟩))
  all_goals (
   have hbw := (HC.out w1 (below_undrew hb1)).2.2
   clear hb1 HC HX HF q2 q5 q6
   go_wp2_with fail
   go_ret
   exact ⟨rfl, hbw⟩)
 | false =>
  rw [if_neg (by decide)]
  cases ht : tellsN ty with
  | false =>
   rw [ht] at HX
   rw [if_neg (by simp)]
   go_enter Tryz.func227, Tryz.ntmps227
   go_wp2_with fail
   first
    | (go_region_with (first
      | (go_at_call 230; refine (HX.out _).mono ?_; rintro e w1 ⟨rfl, hb1⟩)))
    | fail
   all_goals (
    have hbw := below_join (below_alloc w _) (below_undrew hb1)
    clear hb1 HC HX HF q2 q5 q6 HA
    go_wp2_with fail
    go_ret
    exact ⟨rfl, hbw⟩)
  | true =>
   rw [ht] at HX
   by_cases hl : en < hi
   ·rw [if_pos ⟨rfl, hl⟩]
    go_enter Tryz.func227, Tryz.ntmps227
    go_wp2_with fail
    go_region_held3 (fun w' => w'.cell? ⟨b, 2, none⟩ = some (.int .i64 hi) /\ w'.cell? ⟨w.heap.size, 0, none⟩ = some (.int .i64 ty) /\ w'.cell? ⟨w.heap.size, 1, none⟩ = some (.int .i64 id) /\ w'.cell? ⟨w.heap.size, 2, none⟩ = some (.int .i64 ofs) /\ w'.cell? ⟨w.heap.size, 3, none⟩ = some (bv) /\ w'.cell? ⟨w.heap.size, 4, none⟩ = some (.int .i64 en) /\ w'.cell? ⟨w.heap.size, 5, none⟩ = some (.int .i64 pf)) (first | assumption | go_keep) (first
     | (go_at_call 230; refine (HX.out _).mono ?_; rintro e w1 ⟨rfl, hb1⟩; have hSq := HA.out _ _ hb1 (by assumption)))
    all_goals (
     have hbw := below_join (below_alloc w _) (below_undrew hb1)
     clear hb1 HC HX HF q2 q5 q6 HA
     go_wp2_with fail
     go_ret
     exact ⟨rfl, hbw⟩)
   ·rw [if_neg (fun h => hl h.2)]
    go_enter Tryz.func227, Tryz.ntmps227
    go_wp2_with fail
    go_region_held3 (fun w' => w'.cell? ⟨b, 2, none⟩ = some (.int .i64 hi) /\ w'.cell? ⟨w.heap.size, 0, none⟩ = some (.int .i64 ty) /\ w'.cell? ⟨w.heap.size, 1, none⟩ = some (.int .i64 id) /\ w'.cell? ⟨w.heap.size, 2, none⟩ = some (.int .i64 ofs) /\ w'.cell? ⟨w.heap.size, 3, none⟩ = some (bv) /\ w'.cell? ⟨w.heap.size, 4, none⟩ = some (.int .i64 en) /\ w'.cell? ⟨w.heap.size, 5, none⟩ = some (.int .i64 pf)) (first | assumption | go_keep) (first
     | (go_at_call 230; refine (HX.out _).mono ?_; rintro e w1 ⟨rfl, hb1⟩; have hSq := HA.out _ _ hb1 (by assumption)))
    all_goals (
     have hbw := below_join (below_alloc w _) (below_undrew hb1)
     clear hb1 HC HX HF q2 q5 q6 HA
     go_wp2_with fail
     go_ret
     exact ⟨rfl, hbw⟩)
def zs2 (n : Nat) : List Value := (List.replicate n [Value.int .i64 0, .slice none 0 0]).flatten
theorem zs2_length (n : Nat) : (zs2 n).length = n * 2 := by simp [zs2]
theorem own_row2 {w : World} {g n m c q : Nat} {cur : Array Value} {t : TypeId} {l' : List RunV} {R : List Value} (hg : w.heap[g]? = some (.cells cur t (0, 0))) (hR : R.length = c * 2) (hmc : m <= c) (hcm : c <= maxLen) (hl : l'.length = m) (htk : R.take (m * 2) = cells2 l') :
  ((w.drewN q).setRow g R.toArray).ownsRow 0 t 2 (.slice (some ⟨g, 0, none⟩) m c) m (cells2 l') /\ w.grownBy ((w.drewN q).setRow g R.toArray) (Value.slice (some ⟨g, 0, none⟩) n c).ownBlock :=
 ⟨⟨by rw [cells2_length, hl], .inr ⟨g, c, _, rfl, Nat.zero_le _, setRow_heap (w.drewN q) g cur _ _ _ hg, hmc, hcm, by rw [List.size_toArray]; exact hR, htk⟩⟩,
  ⟨rfl, rfl, rfl, by simp [World.setRow, World.drewN], fun k _ hk => setRow_other (w.drewN q) g k _ (fun e => hk (by simp [e, Value.ownBlock]))⟩⟩
theorem del_room {cur cs zs : List Value} (hl : cs.length <= cur.length) (hc : 2 <= cs.length) (hz : zs.length = 2) : (overV (overV cur 0 (cs.drop 2)) (cs.length - 2) zs).take (cs.length - 2) = cs.drop 2 := by
 have hd : (cs.drop 2).length = cs.length - 2 := List.length_drop
 have e0 := overV_length (l := cur) (o := 0) (cs := cs.drop 2) (by omega)
 apply List.ext_getElem?
 intro i
 rcases Nat.lt_or_ge i (cs.length - 2) with hi | hi
 ·rw [List.getElem?_take_of_lt hi, overV_get (by rw [e0, hz]; omega), if_neg (by omega), overV_get (by omega), if_pos (by omega), Nat.sub_zero]
 ·rw [List.getElem?_eq_none (by simp; omega), List.getElem?_eq_none (by simp; omega)]
def Shape (vs : List RunV) (rl : List RunL) : Prop := vs.length = rl.length /\ ∀ (i : Nat) v r, vs[i]? = some v -> rl[i]? = some r -> v.1 = r.1 /\ ∃ ao cap, v.2 = .slice ao r.2.length cap /\ r.2.length <= cap
theorem tw_length {α : Type} {p : α -> Bool} : ∀ {l : List α} {k : Nat}, k <= l.length -> (∀ (j : Nat) a, j < k -> l[j]? = some a -> p a = true) -> (∀ a, l[k]? = some a -> p a = false) -> (l.takeWhile p).length = k
 | [], k, hk, _, _ => by simp at hk; simp [hk]
 | a :: l, 0, _, _, h => by
  have := h a rfl
  simp [this]
 | a :: l, k + 1, hk, h1, h2 => by
  have h0 := h1 0 a (by omega) rfl
  rw [List.takeWhile_cons, h0]
  simp only [if_true, List.length_cons]
  rw [tw_length (by simpa using hk) (fun j b hj hb => h1 (j + 1) b (by omega) hb) (fun b hb => h2 b hb)]
theorem below_more {B : Nat} {w wr wq : World} (h : Below B w wr) (hq : Below wr.drew.heap.size wr.drew wq) (hB : B <= w.heap.size := by simp) : Below B w wq :=
 h.trans ((below_undrew hq).mono (Nat.le_trans hB h.size))
theorem to_is {rl : List RunL} {a : RunL} {k m : Nat} (hf : fromR rl a = k) (hkm : k <= m) (hm : m <= rl.length) (h1 : ∀ (j : Nat) r, k <= j -> j < m -> rl[j]? = some r -> decide (r.1 <= behindR a) = true) (h2 : ∀ r, rl[m]? = some r -> decide (r.1 <= behindR a) = false) : toR rl a = m := by
 unfold toR
 rw [hf, tw_length (k := m - k) (by simp; omega) (fun j r hj hr => h1 (k + j) r (by omega) (by omega) (by rwa [List.getElem?_drop] at hr)) (fun r hr => h2 r (by rw [List.getElem?_drop] at hr; rwa [show k + (m - k) = m from by omega] at hr))]
 omega
theorem x_info : (Tryz.prog.info? 259).map (fun i => (i.zero, i.size, i.bytes)) = some (some (.agg #[.int .i64 0, .slice none 0 0]), 2, 32) := by kernel_rfl
theorem x_size : (Tryz.prog.info? 259).map (·.size) = some 2 := by kernel_rfl
theorem x_sizeOf (w : World) : (Go.sizeOf 259).run Tryz.prog w = .ok 2 w := by kernel_rfl
theorem x_overlaps (g vb o n1 c1 n2 c2 : Nat) (w : World) {a b : Array Value} {t1 t2 : TypeId} (hne : vb ≠ g) (hg : w.heap[g]? = some (.cells a t1 (0, 0))) (hv : w.heap[vb]? = some (.cells b t2 (0, 0))) (ha : a.size ≠ 0) :
  (callFunc 242 #[.slice (some ⟨vb, 0, none⟩) n1 c1, .slice (some ⟨g, o, none⟩) n2 c2]).run Tryz.prog w = .ok (.value (.bool false)) w := by
 rw [run_callFunc_extern Tryz.func242 (by kernel_rfl) (by kernel_rfl) (by kernel_rfl) (e := Extern.SlicesOverlaps.overlaps #[200, 200] #[4]) (by kernel_rfl),
  Lib.run_overlaps_apart w 200 4 259 Tryz.underlying200 2 x_sizeOf ⟨vb, 0, none⟩ ⟨g, o, none⟩ n1 c1 n2 c2 hne t2 t1 b.size a.size (by simp [World.shape?, hv]) (by simp [World.shape?, hg]) ha (frozen_of_row w vb _ _ _ hv) (frozen_of_row w vb _ _ _ hv)]
 rfl
theorem x_Insert_room (g n c i vb vc : Nat) (cur : Array Value) (xc cs : List Value) (w : World) (hg : w.heap[g]? = some (.cells cur 259 (0, 0))) (hv : w.heap[vb]? = some (.cells xc.toArray 259 (0, 0))) (hne : vb ≠ g)
  (hcl : cs.length = n * 2) (hxl : xc.length = 2) (htk : cur.toList.take (n * 2) = cs) (hi : i < n) (hroom : n + 1 <= c) (hcs : cur.size = c * 2) (hm : c <= maxLen) (h1 : ∀ v ∈ cs, v.oneCell' = true) (h1x : ∀ v ∈ xc, v.oneCell' = true) :
  Calls Tryz.prog 241 #[.slice (some ⟨g, 0, none⟩) n c, .int .i64 i, .slice (some ⟨vb, 0, none⟩) 1 vc] w fun e w' =>
   e = .returned (.slice (some ⟨g, 0, none⟩) (n + 1) c) /\ ∃ q, w' = (w.drewN q).setRow g (overV (overV cur.toList ((i + 1) * 2) (cs.drop (i * 2))) (i * 2) xc).toArray := by
 have hov := fun o n1 c1 n2 c2 => x_overlaps g vb o n1 c1 n2 c2 w hne hg hv (by omega)
 unfold maxLen at hm
 have hw1 : IntKind.i64.wrap ((i : Int) + 1) = (i : Int) + 1 := by rw [IntKind.wrap_i64]; omega
 have hb1 : (0 : Int) <= (i : Int) + 1 := by omega
 have hin : i <= n := by omega
 have htn : ((i : Int) + 1).toNat = i + 1 := by omega
 have hb2 : ¬ (c = i + 1) := by omega
 have hb3 : (i : Int) <= (n : Int) + 1 := by omega
 have hb4 : ¬ (c = i) := by omega
 have u1 := run_underlying Tryz.underlying200
 have z1 := x_sizeOf
 have hcur : n * 2 <= cur.toList.length := by simp; omega
 have hdl : (cs.drop (i * 2)).length = (n - i) * 2 := by rw [List.length_drop, hcl]; omega
 have hcp1 : ∀ (W : World) (ty : TypeId) (dc sc : Nat), W.heap = w.heap -> (Builtin.copy_ #[200, 200] ty #[.slice (some ⟨g, (i + 1) * 2, none⟩) (n - i) dc, .slice (some ⟨g, i * 2, none⟩) (n + 1 - i) sc]).run Tryz.prog W
   = .ok (goInt (Nat.min (n + 1 - i) (n - i))) (W.setRow g (overV cur.toList ((i + 1) * 2) (cs.drop (i * 2))).toArray) := by
  intro W ty dc sc hW
  refine run_copy_rowN W 200 200 ty 259 g ((i + 1) * 2) (n - i) dc ⟨g, i * 2, none⟩ (n + 1 - i) sc cur 259 (cs.drop (i * 2)) 2 Tryz.underlying200 x_size (by rw [hW]; exact hg) ?_ ?_ ?_ ?_
  ·rw [hdl]; simp only [Nat.min_def]; split <;> omega
  ·intro j v hj
   have hj' := (List.getElem?_eq_some_iff.1 hj).1
   rw [List.getElem?_drop, <- htk, List.getElem?_take_of_lt (by omega)] at hj
   rw [Addr.add_lit]
   simp only [World.cell?, hW, hg]
   simpa using hj
  ·rw [hdl, hcs]; omega
  ·exact fun v hv => h1 v (List.mem_of_mem_drop hv)
 have hcp2 : ∀ (W : World) (ty : TypeId) (dc : Nat), W.heap = (w.setRow g (overV cur.toList ((i + 1) * 2) (cs.drop (i * 2))).toArray).heap -> (Builtin.copy_ #[200, 200] ty #[.slice (some ⟨g, i * 2, none⟩) (n + 1 - i) dc, .slice (some ⟨vb, 0, none⟩) 1 vc]).run Tryz.prog W
   = .ok (goInt (Nat.min 1 (n + 1 - i))) (W.setRow g (overV (overV cur.toList ((i + 1) * 2) (cs.drop (i * 2))) (i * 2) xc).toArray) := by
  intro W ty dc hW
  have e1 := overV_length (l := cur.toList) (o := (i + 1) * 2) (cs := cs.drop (i * 2)) (by rw [hdl]; simp; omega)
  have hgW : W.heap[g]? = some (.cells (overV cur.toList ((i + 1) * 2) (cs.drop (i * 2))).toArray 259 (0, 0)) := by rw [hW]; exact setRow_heap w g cur _ _ _ hg
  have h2 := run_copy_rowN W 200 200 ty 259 g (i * 2) (n + 1 - i) dc ⟨vb, 0, none⟩ 1 vc _ 259 xc 2 Tryz.underlying200 x_size hgW (by rw [hxl]; simp only [Nat.min_def]; split <;> omega) ?_ ?_ h1x
  ·simpa using h2
  ·intro j v hj
   rw [Addr.add_lit]
   have : W.heap[vb]? = w.heap[vb]? := by rw [hW]; exact setRow_other w g vb _ hne
   simp only [World.cell?, this, hv]
   simpa using hj
  ·simp only [List.size_toArray]; rw [e1, hxl]; simp; omega
 have HC1 := hideIt hcp1
 have HC2 := hideIt hcp2
 clear hcp1 hcp2
 go_enter Tryz.func241, Tryz.ntmps241
 go_wp2_with (simp only [hov])
 go_region_law (refine step_copy_run rfl (.tmp 73) (.tmp 76) 200 200 rfl (.slice (some ⟨g, (i + 1) * 2, none⟩) (n - i) (c - (i + 1))) (.slice (some ⟨g, i * 2, none⟩) (n + 1 - i) (c - i)) (by kernel_rfl) (by kernel_rfl) (HC1.out _ _ _ _ rfl) ?_; generalize hW1 : World.setRow _ g _ = W1; replace hW1 := hideIt hW1; refine Hid.out ?_; refine hideIt ?_)
 have HQ : Hid (W1.heap = (w.setRow g (overV cur.toList ((i + 1) * 2) (cs.drop (i * 2))).toArray).heap) := by show _ = _; rw [<- hW1.out]; rfl
 go_wp2_with (refine wpList_copy_run rfl _ _ 200 200 rfl _ _ rfl rfl (HC2.out _ _ _ HQ.out) ?_; generalize hW2 : World.setRow _ g _ = W2; replace hW2 := hideIt hW2)
 go_ret
 refine ⟨rfl, 1, ?_⟩
 rw [<- hW2.out, <- hW1.out, setRow_setRow]
 rfl
end Go.Proofs.YthmdjhlhodpbhaaGreatDoor
