/- Plain facts that the law FnWaited asks: what stands where in a work that is waited. -/
import Derived.Test.YtljamlgnobpjeaaWaitLaw
namespace Go.Proofs.Ytljamlgnobpjeaa
theorem getD_pre {α : Type} (l t : List α) (i : Nat) (z : α) (h : i < l.length) : (l ++ t).getD i z = l.getD i z := by
  rw [List.getD_eq_getElem?_getD, List.getElem?_append_left h, List.getD_eq_getElem?_getD]
theorem wait_first {ds : List Dd} {q : Nat} (hq : q < ds.length) (h4 : (ds.getD q zD).1 ≠ 4) (h0 : (waitK ds q).length = 0) : (waitK ds (q + 1)).length = 1 ∧ 1 ≤ (waitC ds).length ∧ (waitC ds).getD 0 zD = bareD (ds.getD q zD) := by
  have e0 : waitK ds q = [] := List.eq_nil_of_length_eq_zero h0
  have e1 : waitK ds (q + 1) = [bareD (ds.getD q zD)] := by rw [waitK, if_neg h4, if_pos e0]
  obtain ⟨t, ht⟩ := waitK_pre ds (q + 1) ds.length hq
  rw [waitC, ht, e1]
  simp
theorem wait_more {ds : List Dd} {q m : Nat} (hq : q < ds.length) (h4 : (ds.getD q zD).1 ≠ 4) (hm : m = (waitK ds q).length) (h0 : 0 < m) : (waitK ds (q + 1)).length = m + 1 + 1 ∧ m + 2 ≤ (waitC ds).length ∧ (waitC ds).getD m zD = waitD ∧ (waitC ds).getD (m + 1) zD = bareD (ds.getD q zD) := by
  have e0 : waitK ds q ≠ [] := fun e => by rw [e] at hm; simp at hm; omega
  have e1 : waitK ds (q + 1) = waitK ds q ++ [waitD] ++ [bareD (ds.getD q zD)] := by rw [waitK, if_neg h4, if_neg e0]
  obtain ⟨t, ht⟩ := waitK_pre ds (q + 1) ds.length hq
  subst hm
  have l1 : (waitK ds (q + 1)).length = (waitK ds q).length + 1 + 1 := by rw [e1]; simp
  refine ⟨l1, by rw [waitC, ht, List.length_append]; omega, ?_, ?_⟩
  · rw [waitC, ht, getD_pre _ _ _ _ (by omega), e1, List.append_assoc, List.getD_eq_getElem?_getD, List.getElem?_append_right (Nat.le_refl _)]
    simp
  · rw [waitC, ht, getD_pre _ _ _ _ (by omega), e1, List.getD_eq_getElem?_getD, List.getElem?_append_right (by simp)]
    simp
theorem wait_same {ds : List Dd} {q : Nat} (h4 : (ds.getD q zD).1 = 4) : (waitK ds (q + 1)).length = (waitK ds q).length := by rw [waitK, if_pos h4]
/-- Either nothing comes of it, or all that the law asks. -/
theorem waitB_cases (dss : List (List Dd)) : waitB dss = [] ∨ (workB dss = true ∧ workB (waitB dss) = true ∧ (waitB dss).length = dss.length ∧ 1 ≤ dss.length ∧ dss.length ≤ 3 ∧ (∀ k, k < dss.length → (waitB dss).getD k [] = waitC (dss.getD k []) ∧ (dss.getD k []).length ≤ 5) ∧ evW (waitB dss) (waitB dss).length = evW dss dss.length ∧ waitB (waitB dss) = waitB dss) := by
  by_cases h1 : workB dss = true
  · by_cases h2 : workB (waitW dss) = true
    · right
      have e : waitB dss = waitW dss := by rw [waitB, if_pos h1, if_pos h2]
      have hw := h1
      simp only [workB, Bool.and_eq_true, decide_eq_true_eq] at hw
      obtain ⟨⟨⟨⟨hw1, hw2⟩, _⟩, _⟩, _⟩ := hw
      rw [e]
      refine ⟨h1, h2, by simp [waitW], hw1.1, hw1.2, fun k hk => ⟨?_, ?_⟩, evW_wait dss, ?_⟩
      · rw [waitW, List.getD_eq_getElem?_getD, List.getElem?_map, List.getD_eq_getElem?_getD, List.getElem?_eq_getElem hk]
        rfl
      · have := all_get [] hw2 k hk
        simp only [okL, Bool.and_eq_true, decide_eq_true_eq] at this
        exact this.2
      · rw [waitB, if_pos h2, waitW_twice, if_pos h2]
    · left; rw [waitB, if_pos h1, if_neg h2]
  · left; rw [waitB, if_neg h1]
end Go.Proofs.Ytljamlgnobpjeaa
