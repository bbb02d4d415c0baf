/- Plain facts on what is sorted, as the law FnSorted asks for them. Nothing of the program. -/
import Derived.Test.YtgclnfhkjnomaaaSortPlain
namespace Go.Proofs.Ytgclnfhkjnomaaa
open Go.RowKit

theorem sorted_facts {zs : List Int} (ht : webB zs = true) (hb : sortedB zs = true) :
    (∀ x ∈ sortedL zs, ∃ j : Nat, x = j ∧ j < zs.length) ∧
    (∀ p, p + 1 < (sortedL zs).length → (sortedL zs).getD (p + 1) 0 < (sortedL zs).getD p 0 → inSetB (zs.getD ((sortedL zs).getD p 0).toNat 0) ((sortedL zs).getD (p + 1) 0) = true) ∧
    followsB zs (sortedL zs) = true := by
  have hz := web_iff.1 ht
  refine ⟨?_, ?_, sorted_follows hz hb⟩
  all_goals
    unfold sortedB at hb
    cases hs : sortedO zs with
    | none => rw [hs] at hb; cases hb
    | some q =>
      obtain ⟨l, d⟩ := q
      rw [sortedL_some hs]
      have hk : sortK zs zs.length = some (l, d) := by unfold sortedO at hs; rw [if_pos ht] at hs; exact hs
      first
        | exact (sort_stands hz _ hk).low
        | exact sort_least hz _ hk
theorem round_bad {zs : List Int} (h : webB zs = false) : roundB zs = false := by unfold roundB; rw [h]; rfl
end Go.Proofs.Ytgclnfhkjnomaaa
