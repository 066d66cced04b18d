/-
  The plain functions of the numbers, tokens and proofs (lists of integers), with no program in them, and small laws on owned rows.
-/
import Derived.WalkKit
import Derived.Laws.BitsAllLaws
import Derived.Laws.BitsLemmas
namespace Go.Proofs.YthmdjhlhodpbhaaGreatDoor
open Go.RowKit

/-- the bytes of a list of integers, as cells -/
def U8 (l : List Int) : List Value := l.map (Value.int .u8)
theorem U8_length (l : List Int) : (U8 l).length = l.length := by simp [U8]
theorem U8_append (l r : List Int) : U8 (l ++ r) = U8 l ++ U8 r := by simp [U8]
theorem hideIt {p : Prop} (h : p) : Hid p := h
def Bytes (l : List Int) : Prop := ∀ x ∈ l, 0 ≤ x ∧ x < 256

def betw (n a b : Int) : Bool := decide (a ≤ n ∧ n ≤ b)
theorem betw_true {n a b : Int} (h : betw n a b = true) : a ≤ n ∧ n ≤ b := of_decide_eq_true h
theorem betw_mk {n a b : Int} (h : a ≤ n ∧ n ≤ b) : betw n a b = true := decide_eq_true h
theorem betw_no {n a b : Int} (h : ¬ (a ≤ n ∧ n ≤ b)) : betw n a b = false := decide_eq_false h

def putL (n : Int) : List Int :=
  if n < 64 then [n] else if n < 16384 then [64 + n / 256, n % 256] else [128 + n / 16777216, n / 65536 % 256, n / 256 % 256, n % 256]
def fourL (n : Int) : List Int := [n % 256, n / 256 % 256, n / 65536 % 256, n / 16777216 % 256]
def sumStep (s c : Int) : Int := ((s.toNat ^^^ c.toNat : Nat) : Int) * 16777619 % 4294967296
def sumL (l : List Int) : Int := l.foldl sumStep 2166136261
def frontL (a t : Int) : List Int := a :: fourL t
def tokenL (k a t : Int) : List Int := frontL a t ++ fourL (sumL (fourL k ++ frontL a t))
def proofN (k a c : Int) : Int := sumL (fourL k ++ [255, a] ++ fourL c) % 1073741824

theorem fourL_bytes (n : Int) : Bytes (fourL n) := by
  intro x hx
  simp [fourL] at hx
  omega
theorem Bytes.append {l r : List Int} (hl : Bytes l) (hr : Bytes r) : Bytes (l ++ r) := by
  intro x hx
  rcases List.mem_append.1 hx with h | h
  · exact hl x h
  · exact hr x h
theorem Bytes.cons {a : Int} {l : List Int} (ha : 0 ≤ a ∧ a < 256) (hl : Bytes l) : Bytes (a :: l) := by
  intro x hx
  rcases List.mem_cons.1 hx with h | h
  · subst h; exact ha
  · exact hl x h
theorem Bytes.nil : Bytes [] := by intro x hx; cases hx
theorem putL_bytes (n : Int) (h0 : 0 ≤ n) (h1 : n ≤ 1073741823) : Bytes (putL n) := by
  intro x hx
  unfold putL at hx
  split at hx
  · simp at hx; omega
  · split at hx
    · simp at hx; omega
    · simp at hx; omega
theorem sumStep_range (s c : Int) : 0 ≤ sumStep s c ∧ sumStep s c < 4294967296 := by unfold sumStep; omega
theorem foldl_range (l : List Int) : ∀ s : Int, 0 ≤ s ∧ s < 4294967296 → 0 ≤ l.foldl sumStep s ∧ l.foldl sumStep s < 4294967296 := by
  induction l with
  | nil => intro s h; exact h
  | cons a l ih => intro s _; exact ih _ (sumStep_range s a)
theorem sumL_range (l : List Int) : 0 ≤ sumL l ∧ sumL l < 4294967296 := foldl_range l _ (by decide)
theorem sumL_snoc (l : List Int) (c : Int) : sumL (l ++ [c]) = sumStep (sumL l) c := by simp [sumL, List.foldl_append]

/-! ### small laws on bits -/
theorem wraps_i64 (n : Int) (h0 : 0 ≤ n) (h1 : n < 2 ^ 63) : IntKind.i64.wrap n = n := by rw [IntKind.wrap_i64]; omega
theorem or_i64 (i : Nat) (x y : Int) (hx0 : 0 ≤ x) (hx : x % 2 ^ i = 0) (hx1 : x < 2 ^ 63) (hy0 : 0 ≤ y) (hy : y < 2 ^ i) (hy1 : y < 2 ^ 63) : bits .or .i64 x y = x + y :=
  bits_join .i64 63 (by decide) wraps_i64 i x y hx0 hx hx1 hy0 hy hy1
theorem or64 (y : Int) (h0 : 0 ≤ y) (h1 : y < 64) : bits .or .i64 64 y = 64 + y := or_i64 6 64 y (by decide) (by decide) (by decide) h0 h1 (by omega)
theorem or128 (y : Int) (h0 : 0 ≤ y) (h1 : y < 64) : bits .or .i64 128 y = 128 + y := or_i64 6 128 y (by decide) (by decide) (by decide) h0 h1 (by omega)
theorem or8 (x y : Int) (h0 : 0 ≤ x) (h1 : x < 16777216) (h2 : 0 ≤ y) (h3 : y < 256) : bits .or .i64 (x * 256) y = x * 256 + y :=
  or_i64 8 (x * 256) y (by omega) (by omega) (by omega) h2 h3 (by omega)
theorem xor_i64 (a b : Int) (h0 : 0 ≤ a) (h1 : a < 4294967296) (h2 : 0 ≤ b) (h3 : b < 256) : bits .xor .i64 a b = ((a.toNat ^^^ b.toNat : Nat) : Int) := by
  obtain ⟨x, rfl⟩ := Int.eq_ofNat_of_zero_le h0
  obtain ⟨y, rfl⟩ := Int.eq_ofNat_of_zero_le h2
  have hx : x < 2 ^ 63 := by omega
  have hy : y < 2 ^ 63 := by omega
  have hz : x ^^^ y < 2 ^ 63 := Nat.xor_lt_two_pow hx hy
  have ht : (BitVec.ofInt 64 (x : Int) ^^^ BitVec.ofInt 64 (y : Int)).toNat = x ^^^ y := by
    rw [BitVec.toNat_xor, ofInt_u64 x (by omega), ofInt_u64 y (by omega)]
  show IntKind.i64.wrap ((BitVec.ofInt 64 (x : Int) ^^^ BitVec.ofInt 64 (y : Int)).toNat : Int) = _
  rw [ht, Int.toNat_natCast, Int.toNat_natCast]
  exact wraps_i64 _ (Int.natCast_nonneg _) (by omega)
theorem xor_lt (a b : Int) (h1 : a < 4294967296) (h3 : b < 256) : ((a.toNat ^^^ b.toNat : Nat) : Int) < 4294967296 := by
  have h : a.toNat ^^^ b.toNat < 4294967296 := Nat.xor_lt_two_pow (n := 32) (x := a.toNat) (y := b.toNat) (by omega) (by omega)
  omega

/-! ### owned rows -/
theorem own_lit (w : World) (e : TypeId) (cs : List Value) (hm : cs.length ≤ maxLen) :
    (w.alloc (.cells cs.toArray e)).ownsRow w.heap.size e 1 (.slice (some ⟨w.heap.size, 0, none⟩) cs.length cs.length) cs.length cs := by
  have := World.ownsRow_lit (base := w.heap.size) (e := e) (size := 1) w cs.toArray cs.length (Nat.le_refl _) hm (by simp)
  simpa using this
theorem below_alloc (w : World) (o : Obj) : Below w.heap.size w (w.alloc o) := (Below.refl _ _).alloc (Nat.le_refl _) o
end Go.Proofs.YthmdjhlhodpbhaaGreatDoor
