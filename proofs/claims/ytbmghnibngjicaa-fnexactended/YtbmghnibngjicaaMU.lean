/- Gathered texts. -/
import Derived.Test.YtbmghnibngjicaaMB
set_option maxRecDepth 100000
set_option maxHeartbeats 8000000
namespace Go.Proofs.Ytbmghnibngjicaa

def endZ (dss : List (List Dd)) (b : Bd) : Bool := (List.range dss.length).all (fun c => decide (((dss.getD c []).length : Int) ≤ b.nxt.getD c 0) && (b.nts.getD c []).isEmpty)
def endedB (dss : List (List Dd)) (b : Bd) : Bool := boardB dss b && endZ dss b
end Go.Proofs.Ytbmghnibngjicaa
