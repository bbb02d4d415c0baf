/- Contract of the specification's l1Has (split off SetsA). -/
import Derived.Test.YtkbkdlaknmgjpaaGreatRows
import Derived.Test.YtkbkdlaknmgjpaaGreatMA
import Derived.OpenShut
namespace Go.Proofs.YtkbkdlaknmgjpaaGreat
open Go.ChangeShapes Go.WideShapes Go.ChangeAt Go.RowKit

theorem l1Has_any (s i : Int) (w : World) (h1 : 0 ≤ i) (h2 : i ≤ 11) :
    Calls Tryz.prog 117 #[.int .i64 s, .int .i64 i] w fun e w' => e = .returned (.bool (bitB s i)) ∧ w' = w := by
  go_enter Tryz.func117, Tryz.ntmps117
  go_wp2
  go_ret
  exact ⟨rfl, rfl⟩
end Go.Proofs.YtkbkdlaknmgjpaaGreat
