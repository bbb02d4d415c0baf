/- Plain facts on Sorted, as the specification's loops go. Nothing of the program. -/
import Derived.Test.YtgclnfhkjnomaaaOrderPlain
namespace Go.Proofs.Ytgclnfhkjnomaaa
open Go.RowKit

theorem ret_two {v : Value} {b b' : Bool} (h : b = b') : Ending.returned (.tuple #[v, .bool b]) = .returned (.tuple #[v, .bool b']) := by rw [h]
theorem sortK_none {zs : List Int} {k m : Nat} (h : sortK zs k = none) (hm : k ≤ m) : sortK zs m = none := by
  induction m with
  | zero => rw [show k = 0 by omega] at h; exact h
  | succ m ih =>
    by_cases e : k = m + 1
    · rw [← e]; exact h
    · unfold sortK; rw [ih (by omega)]
theorem sorted_none {zs : List Int} {k : Nat} {l : List Int} {d : Int} (h : sortK zs k = some (l, d)) (hk : k < zs.length) (hp : pick zs d zs.length < 0) : sortedO zs = none := by
  have h1 : sortK zs (k + 1) = none := by
    unfold sortK
    rw [h]
    simp only
    rw [if_pos hp]
  unfold sortedO
  split
  · exact sortK_none h1 (by omega)
  · rfl
theorem sorted_some {zs : List Int} (ht : webB zs = true) {l : List Int} {d : Int} (h : sortK zs zs.length = some (l, d)) : sortedO zs = some (l, d) := by
  unfold sortedO; rw [if_pos ht]; exact h
theorem sorted_bad {zs : List Int} (ht : webB zs = false) : sortedO zs = none := by
  unfold sortedO; rw [ht]; rfl
theorem sortedL_none {zs : List Int} (h : sortedO zs = none) : sortedL zs = [] := by unfold sortedL; rw [h]
theorem sortedB_none {zs : List Int} (h : sortedO zs = none) : sortedB zs = false := by unfold sortedB; rw [h]; rfl
theorem sortedL_some {zs : List Int} {l : List Int} {d : Int} (h : sortedO zs = some (l, d)) : sortedL zs = l := by unfold sortedL; rw [h]
theorem sortedB_some {zs : List Int} {l : List Int} {d : Int} (h : sortedO zs = some (l, d)) : sortedB zs = true := by unfold sortedB; rw [h]; rfl
theorem sorted_of_b {zs : List Int} (h : sortedB zs = false) : sortedO zs = none := by
  unfold sortedB at h
  cases hs : sortedO zs with
  | none => rfl
  | some q => rw [hs] at h; cases h
theorem pick_stay {zs : List Int} {d : Int} {m n : Nat} (h : 0 ≤ pick zs d m) (hm : m ≤ n) : pick zs d n = pick zs d m := by
  induction n with
  | zero => rw [show m = 0 by omega]
  | succ n ih =>
    by_cases e : m = n + 1
    · rw [e]
    · have := ih (by omega)
      conv => lhs; unfold pick
      rw [this, if_pos h]
theorem pick_hit {zs : List Int} {d : Int} {m : Nat} (h : pick zs d m < 0) (hm : mayB zs d m = true) : pick zs d (m + 1) = (m : Int) := by
  conv => lhs; unfold pick
  rw [if_neg (by omega), if_pos hm]
theorem pick_miss {zs : List Int} {d : Int} {m : Nat} (h : pick zs d m < 0) (hm : mayB zs d m = false) : pick zs d (m + 1) = pick zs d m := by
  have e : pick zs d m = -1 := by
    rcases pick_spec zs d m with ⟨e, _⟩ | ⟨i, _, e, _⟩
    · exact e
    · omega
  conv => lhs; unfold pick
  rw [if_neg (by omega), hm, e]
  rfl
theorem pick_nat {zs : List Int} {d : Int} {m : Nat} (h : 0 ≤ pick zs d m) : ∃ i : Nat, pick zs d m = (i : Int) ∧ i < m := by
  rcases pick_spec zs d m with ⟨e, _⟩ | ⟨i, hi, e, _⟩
  · omega
  · exact ⟨i, e, hi⟩
theorem sortK_next {zs : List Int} {k : Nat} {l : List Int} {d : Int} (h : sortK zs k = some (l, d)) {i : Nat} (hp : pick zs d zs.length = (i : Int)) : sortK zs (k + 1) = some (l ++ [(i : Int)], gAdd d i) := by
  conv => lhs; unfold sortK
  rw [h]
  simp only
  rw [hp, if_neg (by omega)]
theorem mayB_eq (zs : List Int) (d : Int) (m : Nat) : mayB zs d m = (!inSetB d m && (notI ((backL zs).getD m 0) d == 0)) := rfl
end Go.Proofs.Ytgclnfhkjnomaaa
