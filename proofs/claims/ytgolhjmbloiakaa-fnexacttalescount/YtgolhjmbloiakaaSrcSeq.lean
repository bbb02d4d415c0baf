/- Plain mathematics: the sources one after the other, the last read's write changing first. -/
import Derived.Test.YtgolhjmbloiakaaMA
namespace Go.Proofs.Ytgolhjmbloiakaa

/-- How many sources the first n reads have; the k-th of them. -/
def srcN (c : List (List Int)) (n : Nat) : Nat := (cntK c n).toNat
def atP (c : List (List Int)) (n k : Nat) : List Int := atL (c.take n) k
theorem cntK_pos (c : List (List Int)) : ∀ n : Nat, 0 ≤ cntK c n
  | 0 => by simp [cntK]
  | n + 1 => by rw [cntK]; exact Int.mul_nonneg (cntK_pos c n) (Int.natCast_nonneg _)
theorem srcN_int (c : List (List Int)) (n : Nat) : ((srcN c n : Nat) : Int) = cntK c n := Int.toNat_of_nonneg (cntK_pos c n)
theorem srcN_zero (c : List (List Int)) : srcN c 0 = 1 := rfl
theorem srcN_succ (c : List (List Int)) (n : Nat) : srcN c (n + 1) = srcN c n * (c.getD n []).length := by
  have h : ((srcN c (n + 1) : Nat) : Int) = ((srcN c n * (c.getD n []).length : Nat) : Int) := by
    rw [srcN_int, cntK, Int.natCast_mul, srcN_int]
  exact Int.ofNat.inj h
theorem atK_snoc (cs : List (List Int)) (c : List Int) (n : Int) : ∀ j : Nat, j ≤ cs.length →
    atK (cs ++ [c]) n (j + 1) = ((atK cs (n / c.length) j).1, (atK cs (n / c.length) j).2 ++ [c.getD (n % c.length).toNat 0])
  | 0, _ => by
    have e : (cs ++ [c]).getD ((cs ++ [c]).length - 1 - 0) [] = c := by simp
    simp only [atK, e, List.nil_append]
  | j + 1, h => by
    have ih := atK_snoc cs c n j (by omega)
    have e : (cs ++ [c]).getD ((cs ++ [c]).length - 1 - (j + 1)) [] = cs.getD (cs.length - 1 - j) [] := by
      have e1 : (cs ++ [c]).length - 1 - (j + 1) = cs.length - 1 - j := by simp; omega
      rw [e1, List.getD_eq_getElem?_getD, List.getElem?_append_left (by omega), ← List.getD_eq_getElem?_getD]
    rw [atK, ih, e]
    simp only [atK, List.cons_append]
theorem atL_snoc (cs : List (List Int)) (c : List Int) (n : Int) : atL (cs ++ [c]) n = atL cs (n / c.length) ++ [c.getD (n % c.length).toNat 0] := by
  unfold atL
  rw [List.length_append, List.length_singleton, atK_snoc cs c n cs.length (Nat.le_refl _)]
theorem atP_zero (c : List (List Int)) (k : Nat) : atP c 0 k = [] := by simp [atP, atL, atK]
theorem atP_succ (c : List (List Int)) (n k i : Nat) (hn : n < c.length) (hi : i < (c.getD n []).length) : atP c (n + 1) (k * (c.getD n []).length + i) = atP c n k ++ [(c.getD n []).getD i 0] := by
  unfold atP
  have e : c.take (n + 1) = c.take n ++ [c.getD n []] := by
    rw [List.take_add_one, List.getD_eq_getElem?_getD, List.getElem?_eq_getElem hn]
    simp
  generalize c.getD n [] = l at e hi
  rw [e, atL_snoc]
  have h1 : (((k * l.length + i : Nat) : Int) / (l.length : Int)) = (k : Int) := by
    rw [← Int.natCast_ediv, Nat.add_comm, Nat.add_mul_div_right _ _ (by omega), Nat.div_eq_of_lt hi, Nat.zero_add]
  have h2 : ((((k * l.length + i : Nat) : Int) % (l.length : Int))).toNat = i := by
    rw [← Int.natCast_emod, Int.toNat_natCast, Nat.add_comm, Nat.add_mul_mod_self_right, Nat.mod_eq_of_lt hi]
  rw [h1, h2]
theorem atP_all (c : List (List Int)) (k : Nat) : atP c c.length k = atL c k := by unfold atP; rw [List.take_length]
theorem atP_len (c : List (List Int)) (n k : Nat) (hn : n ≤ c.length) : (atP c n k).length = n := by
  unfold atP
  rw [atL_len, List.length_take]
  omega
/-- One round of the outer sources is as many of the inner as there are writes. -/
theorem src_lt {a b k i : Nat} (hk : k < a) (hi : i < b) : k * b + i < a * b := by
  have h1 : (k + 1) * b ≤ a * b := Nat.mul_le_mul_right b hk
  rw [Nat.add_mul, Nat.one_mul] at h1
  omega
end Go.Proofs.Ytgolhjmbloiakaa
