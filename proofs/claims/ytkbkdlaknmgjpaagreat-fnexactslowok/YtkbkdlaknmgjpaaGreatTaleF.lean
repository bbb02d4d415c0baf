/- What a tale that is right gives to the walks. -/
import Derived.Test.YtkbkdlaknmgjpaaGreatTaleOkS
import Derived.Test.YtkbkdlaknmgjpaaGreatMA
import Derived.Test.YtkbkdlaknmgjpaaGreatMB
import Derived.Test.YtkbkdlaknmgjpaaGreatME
namespace Go.Proofs.YtkbkdlaknmgjpaaGreat
open Go.RowKit

theorem tale_facts {dss : List (List Dd)} {f rows : List Int} (h : taleB dss f rows = true) : (dss.length ≤ 3 ∧ ∀ i, i < dss.length → okL (dss.getD i []) = true) ∧ eventsB dss = evsW dss dss.length ∧
    (evsW dss dss.length).length ≤ 12 ∧ rows.length ≤ 36 ∧ (∀ j, j < rows.length → 0 ≤ rows.getD j 0 ∧ rows.getD j 0 < ((evsW dss dss.length).length : Int)) ∧ (∀ j, j < rows.length → 0 ≤ plE (evsW dss dss.length) (rows.getD j 0) ∧ plE (evsW dss dss.length) (rows.getD j 0) ≤ 2) ∧
    (idxB rdE (evsW dss dss.length)).length = f.length ∧ f.length ≤ 12 ∧ (∀ i, i < f.length → 0 ≤ f.getD i 0 ∧ f.getD i 0 < ((evsW dss dss.length).length : Int)) := by
  obtain ⟨hb, hs, hr⟩ := tale_use h
  have e1 : eventsB dss = evsW dss dss.length := by rw [eventsB, if_pos hb]
  have h12 := (events_law hb).1
  rw [e1] at hs hr
  obtain ⟨s1, s2⟩ := src_use h12 hs
  obtain ⟨_, r2, r3⟩ := rows_use h12 hr
  have rl : (idxB rdE (evsW dss dss.length)).length ≤ 12 := by
    unfold idxB
    rw [if_pos h12]
    have := idxK_len rdE (evsW dss dss.length) (evsW dss dss.length).length
    omega
  exact ⟨workB_useR hb, e1, h12, r2, r3, fun j hj => plW_in h12 hr hj, s1, by omega, fun i hi => (s2 i (by omega)).1⟩
end Go.Proofs.YtkbkdlaknmgjpaaGreat
