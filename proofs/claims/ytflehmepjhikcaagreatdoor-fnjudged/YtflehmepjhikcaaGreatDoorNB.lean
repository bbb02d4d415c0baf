/- Gathered texts. -/
import Derived.Test.YtflehmepjhikcaaGreatDoorMA
set_option maxRecDepth 100000
set_option maxHeartbeats 8000000
namespace Go.Proofs.YtflehmepjhikcaaGreatDoor
open Go.ChangeShapes Go.WideShapes Go.ChangeAt Go.RowKit

end Go.Proofs.YtflehmepjhikcaaGreatDoor
