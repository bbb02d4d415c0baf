/- Plain bounds on what Waited answers. -/
import Derived.Test.YtljamlgnobpjeaaWaitPlain
namespace Go.Proofs.Ytljamlgnobpjeaa
theorem workB_small {x : List (List Dd)} (h : workB x = true) : x.length ≤ 1048576 ∧ lenW x ≤ 1048576 ∧ ∀ i, i < x.length → (x.getD i []).length ≤ 1048576 := by
  simp only [workB, Bool.and_eq_true, decide_eq_true_eq] at h
  obtain ⟨⟨⟨⟨h1, h2⟩, h3⟩, _⟩, _⟩ := h
  refine ⟨by omega, by omega, fun i hi => ?_⟩
  have := all_get [] h2 i hi
  simp only [okL, Bool.and_eq_true, decide_eq_true_eq] at this
  omega
theorem waitB_small (dss : List (List Dd)) : (waitB dss).length ≤ 1048576 ∧ lenW (waitB dss) ≤ 1048576 ∧ ∀ i, i < (waitB dss).length → ((waitB dss).getD i []).length ≤ 1048576 := by
  unfold waitB
  split
  · split
    · rename_i h
      exact workB_small h
    · exact ⟨by simp, by simp [lenW], by simp⟩
  · exact ⟨by simp, by simp [lenW], by simp⟩
end Go.Proofs.Ytljamlgnobpjeaa
