/- Plain facts on lifted lines, as the law FnLifted asks for them. Nothing of the program. -/
import Derived.Test.YtgclnfhkjnomaabMatesPlain
namespace Go.Proofs.Ytgclnfhkjnomaab
open Go.RowKit

/-- Does a line go from a, of class p, to one of the first m that is of class q? -/
def rowB (zs cl : List Int) (p q : Int) (a : Nat) : Nat → Bool
  | 0 => false
  | m + 1 => rowB zs cl p q a m || (decide (cl.getD a 0 = p) && decide (cl.getD m 0 = q) && inSetB (zs.getD a 0) m)
/-- Does one go so from one of the first m? -/
def allB (zs cl : List Int) (p q : Int) (n : Nat) : Nat → Bool
  | 0 => false
  | m + 1 => allB zs cl p q n m || rowB zs cl p q m n
theorem rowB_iff (zs cl : List Int) (p q : Int) (a m : Nat) : rowB zs cl p q a m = true ↔ ∃ b, b < m ∧ cl.getD a 0 = p ∧ cl.getD b 0 = q ∧ line zs a b = true := by
  induction m with
  | zero => simp [rowB]
  | succ m ih =>
    unfold rowB
    rw [Bool.or_eq_true, Bool.and_eq_true, Bool.and_eq_true, decide_eq_true_eq, decide_eq_true_eq, ih]
    constructor
    · rintro (⟨b, h1, h2⟩ | ⟨⟨h1, h2⟩, h3⟩)
      · exact ⟨b, by omega, h2⟩
      · exact ⟨m, by omega, h1, h2, h3⟩
    · rintro ⟨b, h1, h2, h3, h4⟩
      by_cases e : b = m
      · subst e; exact .inr ⟨⟨h2, h3⟩, h4⟩
      · exact .inl ⟨b, by omega, h2, h3, h4⟩
theorem allB_iff (zs cl : List Int) (p q : Int) (n m : Nat) : allB zs cl p q n m = true ↔ ∃ a b, a < m ∧ b < n ∧ cl.getD a 0 = p ∧ cl.getD b 0 = q ∧ line zs a b = true := by
  induction m with
  | zero => simp [allB]
  | succ m ih =>
    unfold allB
    rw [Bool.or_eq_true, ih, rowB_iff]
    constructor
    · rintro (⟨a, b, h1, h2⟩ | ⟨b, h1, h2⟩)
      · exact ⟨a, b, by omega, h2⟩
      · exact ⟨m, b, by omega, h1, h2⟩
    · rintro ⟨a, b, h1, h2, h3⟩
      by_cases e : a = m
      · subst e; exact .inr ⟨b, h2, h3⟩
      · exact .inl ⟨a, b, by omega, h2, h3⟩
theorem lift_all {n : Nat} {zs cl : List Int} (hz : Web n zs) (hc : cl.length = n) {i k : Nat} (hi : i < n) (hk : k < n) : inSetB ((liftL zs cl).getD i 0) k = (allB zs cl (cl.getD i 0) (cl.getD k 0) n n && !decide (cl.getD i 0 = cl.getD k 0)) := by
  have h := (web_lift hz hc).2.2 i k hi
  rw [Bool.eq_iff_iff, Bool.and_eq_true, allB_iff, Bool.not_eq_true', decide_eq_false_iff_not]
  show line (liftL zs cl) i k = true ↔ _
  rw [h]
  constructor
  · rintro ⟨_, h2, a, b, ha, hb, e1, e2, hl⟩
    exact ⟨⟨a, b, ha, hb, e1, e2, hl⟩, fun e => h2 e.symm⟩
  · rintro ⟨⟨a, b, ha, hb, e1, e2, hl⟩, h2⟩
    exact ⟨hk, fun e => h2 e.symm, a, b, ha, hb, e1, e2, hl⟩
theorem lift_same {n : Nat} {zs cl : List Int} (hz : Web n zs) (hc : cl.length = n) {i k : Nat} (hi : i < n) (hk : k < n) (e : cl.getD i 0 = cl.getD k 0) : (liftL zs cl).getD k 0 = (liftL zs cl).getD i 0 ∧ inSetB ((liftL zs cl).getD i 0) k = false := by
  have h := web_lift hz hc
  refine ⟨by rw [h.2.1 i hi, h.2.1 k hk, e], ?_⟩
  rw [lift_all hz hc hi hk, e]
  simp
theorem lift_line {n : Nat} {zs cl : List Int} (hz : Web n zs) (hc : cl.length = n) {i k : Nat} (hi : i < n) (hk : k < n) (e : ¬ cl.getD i 0 = cl.getD k 0) (hl : inSetB (zs.getD i 0) k = true) : inSetB ((liftL zs cl).getD i 0) k = true := by
  show line (liftL zs cl) i k = true
  rw [(web_lift hz hc).2.2 i k hi]
  exact ⟨hk, fun e2 => e e2.symm, i, k, hi, hk, rfl, rfl, hl⟩
theorem lift_web {n : Nat} {zs cl : List Int} (hz : Web n zs) (hc : cl.length = n) : webB (liftL zs cl) = true ∧ (liftL zs cl).length = n := by
  have h := web_lift hz hc
  exact ⟨h.1.b, h.1.2.1⟩
theorem lift_none {zs cl : List Int} (h : ¬ (webB zs = true ∧ cl.length = zs.length)) : liftL zs cl = [] := by unfold liftL; rw [if_neg h]
/-- One more is asked for. -/
theorem rowB_step {zs cl : List Int} {p q A C x : Int} {a m : Nat} (h1 : A = cl.getD a 0) (h2 : C = cl.getD m 0) (h3 : x = zs.getD a 0) : rowB zs cl p q a (m + 1) = (rowB zs cl p q a m || (decide (A = p) && decide (C = q) && inSetB x m)) := by rw [h1, h2, h3]; rfl
end Go.Proofs.Ytgclnfhkjnomaab
