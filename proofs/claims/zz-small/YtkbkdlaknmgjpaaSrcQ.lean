/- What is used of a right work. -/
import Derived.Test.YtkbkdlaknmgjpaaMA
namespace Go.Proofs.Ytkbkdlaknmgjpaa

theorem workB_useQ {dss : List (List Dd)} (h : workB dss = true) : dss.length ≤ 3 ∧ ∀ i, i < dss.length → okL (dss.getD i []) = true := by
 simp only [workB, Bool.and_eq_true, decide_eq_true_eq] at h
 obtain ⟨⟨⟨⟨h1, h2⟩, _⟩, _⟩, _⟩ := h
 exact ⟨h1.2, fun i hi => all_get [] h2 i hi⟩
end Go.Proofs.Ytkbkdlaknmgjpaa
