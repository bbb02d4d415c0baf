/- Plain facts on numbers, bits and lists that the contracts of this seat speak of: nothing of the program. -/
import Derived.WalkKit
import Derived.ProofKit
import Derived.Laws.BitsAllLaws
import Derived.Laws.BitsLemmas
namespace Go.Proofs.Ytabafnfadophhaa
open Go.RowKit

theorem ret_bool {a b : Bool} (h : a = b) : Ending.returned (.bool a) = .returned (.bool b) := by rw [h]
theorem ret_int {k : IntKind} {a b : Int} (h : a = b) : Ending.returned (.int k a) = .returned (.int k b) := by rw [h]

theorem ofInt_i64 (a : Nat) (ha : a < 9223372036854775808) : (BitVec.ofInt 64 (a : Int)).toNat = a := ofInt_u64 a (by omega)
theorem i64_or_nat (a b : Nat) (ha : a < 9223372036854775808) (hb : b < 9223372036854775808) : bits .or .i64 (a : Int) (b : Int) = ((a ||| b : Nat) : Int) := by
  have hx : a ||| b < 2 ^ 63 := Nat.or_lt_two_pow (by omega) (by omega)
  show IntKind.i64.wrap ((BitVec.ofInt 64 (a : Int) ||| BitVec.ofInt 64 (b : Int)).toNat : Int) = _
  rw [BitVec.toNat_or, ofInt_i64 a ha, ofInt_i64 b hb, IntKind.wrap_i64]
  omega
theorem i64_and_nat (a b : Nat) (ha : a < 9223372036854775808) (hb : b < 9223372036854775808) : bits .and .i64 (a : Int) (b : Int) = ((a &&& b : Nat) : Int) := by
  have hx : a &&& b < 2 ^ 63 := Nat.and_lt_two_pow _ (by omega)
  show IntKind.i64.wrap ((BitVec.ofInt 64 (a : Int) &&& BitVec.ofInt 64 (b : Int)).toNat : Int) = _
  rw [BitVec.toNat_and, ofInt_i64 a ha, ofInt_i64 b hb, IntKind.wrap_i64]
  omega
theorem pow_le12 (n : Nat) (h : n ≤ 12) : (2 : Int) ^ n ≤ 4096 ∧ (1 : Int) ≤ 2 ^ n := by
  have : n = 0 ∨ n = 1 ∨ n = 2 ∨ n = 3 ∨ n = 4 ∨ n = 5 ∨ n = 6 ∨ n = 7 ∨ n = 8 ∨ n = 9 ∨ n = 10 ∨ n = 11 ∨ n = 12 := by omega
  rcases this with rfl | rfl | rfl | rfl | rfl | rfl | rfl | rfl | rfl | rfl | rfl | rfl | rfl <;> decide
theorem wrap64_small (x : Int) (h1 : -9223372036854775808 ≤ x) (h2 : x ≤ 9223372036854775807) : wrap64 x = x := by
  simp only [wrap64]; omega
theorem wrap64_pow (n : Int) (h0 : 0 ≤ n) (h : n ≤ 12) : wrap64 (2 ^ n.toNat) = 2 ^ n.toNat := by
  have := pow_le12 n.toNat (by omega)
  exact wrap64_small _ (by omega) (by omega)

/-- Is x from lo to hi? -/
def inB (x lo hi : Int) : Bool := decide (lo ≤ x ∧ x ≤ hi)
/-- Is s a set of n? -/
def okB (n s : Int) : Bool := decide ((0 ≤ n ∧ n ≤ 12) ∧ 0 ≤ s ∧ s < 2 ^ n.toNat)
/-- Is the bit i in s? -/
def bitB (s i : Int) : Bool := bits .and .i64 (s / 2 ^ i.toNat) 1 == 1
/-- Is i in the set s? -/
def inSetB (s i : Int) : Bool := inB i 0 11 && inB s 0 4095 && bitB s i
/-- Those of the first k that are in s. -/
def mem (s : Int) : Nat → List Int
  | 0 => []
  | k + 1 => mem s k ++ (if inSetB s k = true then [(k : Int)] else [])
/-- One more is gathered. -/
def gAdd (s i : Int) : Int := if s = -1 ∨ inB i 0 11 = false then -1 else bits .or .i64 s (wrap64 (2 ^ i.toNat))
/-- The set of a list; -1 where there is none. -/
def gath (l : List Int) : Int := l.foldl gAdd 0

/-- Is n in the list? -/
def hasB (n : Int) (zs : List Int) : Bool := decide (n ∈ zs)

theorem mem_len (s : Int) (k : Nat) : (mem s k).length ≤ k := by
  induction k with
  | zero => simp [mem]
  | succ k ih => unfold mem; split <;> simp <;> omega
theorem mem_out (s : Int) (h : inB s 0 4095 = false) (k : Nat) : mem s k = [] := by
  induction k with
  | zero => rfl
  | succ k ih => unfold mem; rw [ih]; simp [inSetB, h]
theorem gath_snoc (l : List Int) (i : Int) : gath (l ++ [i]) = gAdd (gath l) i := by simp [gath]
theorem gAdd_bad (s i : Int) (h : inB i 0 11 = false) : gAdd s i = -1 := by simp [gAdd, h]
theorem gAdd_none (i : Int) : gAdd (-1) i = -1 := by simp [gAdd]
theorem gAdd_ok (s i : Int) (h0 : 0 ≤ s) (h : inB i 0 11 = true) : gAdd s i = bits .or .i64 s (wrap64 (2 ^ i.toNat)) := by
  have : ¬ s = -1 := by omega
  simp [gAdd, h, this]
theorem gAdd_range (s i : Int) (h0 : 0 ≤ s) (h1 : s ≤ 4095) (h : inB i 0 11 = true) : 0 ≤ gAdd s i ∧ gAdd s i ≤ 4095 := by
  rw [gAdd_ok s i h0 h]
  simp [inB] at h
  obtain ⟨a, rfl⟩ := Int.eq_ofNat_of_zero_le h0
  rw [wrap64_pow i (by omega) (by omega)]
  have hp := pow_le12 i.toNat (by omega)
  have hq : (2 : Nat) ^ i.toNat < 2 ^ 12 := Nat.pow_lt_pow_right (by omega) (by omega)
  have e : ((2 : Int) ^ i.toNat) = ((2 ^ i.toNat : Nat) : Int) := by simp
  rw [e, i64_or_nat a _ (by omega) (by omega)]
  have hx : a ||| 2 ^ i.toNat < 2 ^ 12 := Nat.or_lt_two_pow (by omega) hq
  omega
theorem foldl_none (l : List Int) : l.foldl gAdd (-1) = -1 := by
  induction l with
  | nil => rfl
  | cons a l ih => simp only [List.foldl_cons, gAdd_none]; exact ih
theorem gath_bad (l : List Int) (k : Nat) (hk : k < l.length) (h : inB (l.getD k 0) 0 11 = false) : gath l = -1 := by
  have e : l = l.take k ++ (l.getD k 0) :: l.drop (k + 1) := by
    rw [List.getD_eq_getElem?_getD, List.getElem?_eq_getElem hk]; simp
  unfold gath
  rw [e, List.foldl_append, List.foldl_cons]
  have hb : gAdd (List.foldl gAdd 0 (l.take k)) (l.getD k 0) = -1 := gAdd_bad _ _ h
  rw [hb]
  exact foldl_none _
theorem take_snoc (l : List Int) (k : Nat) (h : k < l.length) : l.take (k + 1) = l.take k ++ [l.getD k 0] := by
  rw [List.take_succ_eq_append_getElem h, List.getD_eq_getElem?_getD, List.getElem?_eq_getElem h]; rfl
end Go.Proofs.Ytabafnfadophhaa
