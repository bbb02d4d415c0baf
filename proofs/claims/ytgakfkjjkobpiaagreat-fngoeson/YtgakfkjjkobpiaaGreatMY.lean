/- Gathered texts. -/
import Derived.Test.YtgakfkjjkobpiaaGreatMB
set_option maxRecDepth 100000
set_option maxHeartbeats 8000000
namespace Go.Proofs.YtgakfkjjkobpiaaGreat

def Pv (AA:List (List Dd))(b:Bd):Bool:=(List.range AA.length).all (fun c=>decide (((AA.getD c []).length:Int)<=b.AL.getD c 0)&&(b.AH.getD c []).isEmpty)
def Jp (AA:List (List Dd))(b:Bd):Bool:=Af AA b&&Pv AA b
end Go.Proofs.YtgakfkjjkobpiaaGreat
