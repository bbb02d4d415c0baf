/- Contract of the laws' eqDeed where both are one deed: it answers true. -/
import Derived.Test.YtldpimmobolgaaaDoorOpenDeed
import Derived.RegionTactic
import Derived.Deep.QuietTactic
import Derived.BigQuiet
namespace Go.Proofs.YtldpimmobolgaaaDoor
open Go.ChangeShapes Go.WideShapes Go.ChangeAt Go.RowKit

theorem eqDeed_same (k p v g : Int) (w : World) :
    Calls Tryd.prog 16 #[deedV k p v g, deedV k p v g] w fun e w' => e = .returned (.bool true) ∧ Keep w w' := by
  go_enter Tryd.func16, Tryd.ntmps16
  go_wp2
  go_ret
  exact ⟨rfl, ((Keep.refl w).alloc _).alloc _⟩
end Go.Proofs.YtldpimmobolgaaaDoor
