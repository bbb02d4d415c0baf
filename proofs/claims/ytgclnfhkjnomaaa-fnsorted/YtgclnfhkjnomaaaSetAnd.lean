/- Contract of what the program's sets have in common. -/
import Derived.Test.YtgclnfhkjnomaaaSetsA
import Derived.Test.YtgclnfhkjnomaaaWebPlain
import Derived.Outline
namespace Go.Proofs.Ytgclnfhkjnomaaa
open Go.ChangeShapes Go.WideShapes Go.ChangeAt Go.RowKit
theorem setAnd_any (s t : Int) (w : World) :
    Calls Try.prog 66 #[.int .i64 s, .int .i64 t] w fun e w' => e = .returned (.int .i64 (andI s t)) ∧ w' = w := by
  go_enter Try.func66, Try.ntmps66
  go_wp2
  go_ret
  exact ⟨rfl, rfl⟩
end Go.Proofs.Ytgclnfhkjnomaaa
