/- Gathered texts. -/
import Derived.Test.YtflehmepjhikcaaGreatDoorMA
import Derived.Outline
set_option maxRecDepth 100000
set_option maxHeartbeats 8000000
namespace Go.Proofs.YtflehmepjhikcaaGreatDoor
open Go.ChangeShapes Go.WideShapes Go.ChangeAt Go.RowKit
theorem VB (w:World)(a:Option Addr)(len cap:Nat):
  Calls Tryz.prog 5 #[.slice a len cap] w fun e w'=>e = .returned (.bool (decide (4096<len)))/\w'=w:=by
 go_enter Tryz.func5,Tryz.ntmps5
 go_wp2;go_ret;exact⟨BE (by rw[KBg];simp;omega),rfl⟩
end Go.Proofs.YtflehmepjhikcaaGreatDoor
