/- How long the answers on rows are. -/
import Derived.Test.YtgolhjmbloiakaaMA
namespace Go.Proofs.Ytgolhjmbloiakaa
open Go.RowKit

theorem ratB_len (dss : List (List Dd)) (n : Int) : (ratB dss n).length ≤ 36 := by
  by_cases h : 0 ≤ n ∧ n < rcntB dss
  · exact (row_all h.1 h.2).2.2.1
  · unfold ratB
    rw [if_neg h]
    simp
theorem rwB_len (dss : List (List Dd)) (f : List Int) : (rwB dss f).length ≤ 12 := by
  unfold rwB
  split
  · rename_i h
    rw [rowsB, Bool.and_eq_true] at h
    have hx := eventsB_12 dss
    obtain ⟨_, _, hr⟩ := rows_use hx h.2
    have := (web_rwAll hx hr f.length (Nat.le_refl _)).1.2.1
    unfold rwL
    omega
  · simp
end Go.Proofs.Ytgolhjmbloiakaa
