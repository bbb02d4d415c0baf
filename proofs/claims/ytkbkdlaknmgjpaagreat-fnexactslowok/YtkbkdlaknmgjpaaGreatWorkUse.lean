/- Plain: what a right work gives to the walks. -/
import Derived.Test.YtkbkdlaknmgjpaaGreatMA
namespace Go.Proofs.YtkbkdlaknmgjpaaGreat
open Go.RowKit

theorem workB_useR {dss : List (List Dd)} (h : workB dss = true) : dss.length ≤ 3 ∧ ∀ i, i < dss.length → okL (dss.getD i []) = true := by
  simp only [workB, Bool.and_eq_true, decide_eq_true_eq] at h
  obtain ⟨⟨⟨⟨h1, h2⟩, _⟩, _⟩, _⟩ := h
  exact ⟨h1.2, fun i hi => all_get [] h2 i hi⟩
theorem evsW_9 {dss : List (List Dd)} (h : workB dss = true) : (evsW dss dss.length).length ≤ 9 := by
  simp only [workB, Bool.and_eq_true, decide_eq_true_eq] at h
  obtain ⟨⟨⟨⟨_, h2⟩, _⟩, h4⟩, _⟩ := h
  have := evsW_len (fun i hi => all_get [] h2 i hi) dss.length (Nat.le_refl _)
  omega
end Go.Proofs.YtkbkdlaknmgjpaaGreat
