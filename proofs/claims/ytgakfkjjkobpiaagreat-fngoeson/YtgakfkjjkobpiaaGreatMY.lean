/- Gathered texts. -/
import Derived.Test.YtgakfkjjkobpiaaGreatMB
set_option maxRecDepth 100000
set_option maxHeartbeats 8000000
namespace Go.Proofs.YtgakfkjjkobpiaaGreat

def Pj (AA:List (List Dd))(b:Bd):Bool:=(List.range AA.length).all (fun c=>decide (((AA.getD c []).length:Int)<=b.AL.getD c 0)&&(b.AH.getD c []).isEmpty)
def Ji (AA:List (List Dd))(b:Bd):Bool:=Af AA b&&Pj AA b
end Go.Proofs.YtgakfkjjkobpiaaGreat
