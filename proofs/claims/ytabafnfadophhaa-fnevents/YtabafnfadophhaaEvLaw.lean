/- What the law on events asks, in the words of its walk. -/
import Derived.Test.YtabafnfadophhaaEvRow
import Derived.Test.YtabafnfadophhaaMA
namespace Go.Proofs.Ytabafnfadophhaa

theorem rise_get {zs : List Int} (h : zs.Pairwise (· < ·)) : ∀ i, i + 1 < zs.length → zs.getD i 0 < zs.getD (i + 1) 0 := by
  intro i hi
  rw [List.getD_eq_getElem?_getD, List.getElem?_eq_getElem (by omega), List.getD_eq_getElem?_getD, List.getElem?_eq_getElem hi]
  exact List.pairwise_iff_getElem.1 h i (i + 1) (by omega) hi (by omega)
theorem idxB_rises (f : Ev → Bool) (es : List Ev) : ∀ i, i + 1 < (idxB f es).length → (idxB f es).getD i 0 < (idxB f es).getD (i + 1) 0 := by
  refine rise_get ?_
  unfold idxB
  split
  · exact idxK_rises f es es.length
  · exact List.Pairwise.nil
/-- All that the law asks of the events of a right work. -/
theorem events_all {dss : List (List Dd)} (h : workB dss = true) : 3 ≤ (eventsB dss).length ∧ (eventsB dss).length ≤ 12 ∧ ((eventsB dss).length : Int) = 3 + evB dss ∧
    (idxB rdE (eventsB dss)).length + (idxB (toE 0) (eventsB dss)).length + (idxB (toE 1) (eventsB dss)).length + (idxB (toE 2) (eventsB dss)).length = (eventsB dss).length ∧
    (∃ r, idxB (toE 0) (eventsB dss) = 0 :: r) ∧ (∃ r, idxB (toE 1) (eventsB dss) = 1 :: r) ∧ (∃ r, idxB (toE 2) (eventsB dss) = 2 :: r) ∧ ∀ j, 3 ≤ j → j < (eventsB dss).length → GoodE dss (eventsB dss) j := by
  obtain ⟨h1, h2, h3, h4, h5⟩ := events_law h
  have e1 : eventsB dss = evsW dss dss.length := by rw [eventsB, if_pos h]
  have e2 : evB dss = evW dss dss.length := by rw [evB, if_pos h]
  have e3 : ∀ f, idxB f (evsW dss dss.length) = idxK f (evsW dss dss.length) (evsW dss dss.length).length := fun f => by unfold idxB; rw [if_pos h1]
  have l3 : 3 ≤ (evsW dss dss.length).length := by
    obtain ⟨⟨t, ht⟩, _⟩ := evs_good (workB_use h).2 dss.length (Nat.le_refl _)
    rw [ht]
    simp [evBeg]
  rw [e1, e2]
  simp only [e3]
  exact ⟨l3, h1, h2, h3, h4 0 (by omega), h4 1 (by omega), h4 2 (by omega), h5⟩
end Go.Proofs.Ytabafnfadophhaa
