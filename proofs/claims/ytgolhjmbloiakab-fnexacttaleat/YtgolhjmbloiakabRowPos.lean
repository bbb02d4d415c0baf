/- Each place has a write. -/
import Derived.Test.YtgolhjmbloiakabMC
namespace Go.Proofs.Ytgolhjmbloiakab

theorem plcW_pos {dss : List (List Dd)} (hb : workB dss = true) : ∀ p, p < 3 → 0 < (plcW (evsW dss dss.length) p).length := fun p hp => by
  have := (plcW_first hb p hp).1
  rw [eventsB, if_pos hb] at this
  exact this
end Go.Proofs.Ytgolhjmbloiakab
