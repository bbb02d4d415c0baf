/- How long the answers on tales are. -/
import Derived.Test.YtgolhjmbloiakaaGreatMA
namespace Go.Proofs.YtgolhjmbloiakaaGreat
open Go.RowKit

theorem agB_len (dss : List (List Dd)) (f rows : List Int) : (agB dss f rows).length ≤ 12 := by
  unfold agB
  split
  · rename_i h
    have hb := (tale_use h).1
    rw [agL, agK_len, eventsB, if_pos hb]
    exact (events_law hb).1
  · simp
theorem ocB_len (dss : List (List Dd)) (f rows : List Int) : (ocB dss f rows).length ≤ 15 := by
  by_cases h : taleB dss f rows = true
  · obtain ⟨_, h1, h2, h3, _⟩ := ag_law h
    omega
  · unfold ocB
    rw [if_neg h]
    simp
end Go.Proofs.YtgolhjmbloiakaaGreat
