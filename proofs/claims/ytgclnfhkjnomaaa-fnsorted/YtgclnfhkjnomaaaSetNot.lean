/- Contract of a set of the program's without another. -/
import Derived.Test.YtgclnfhkjnomaaaSetsA
import Derived.Test.YtgclnfhkjnomaaaWebPlain
import Derived.Outline
namespace Go.Proofs.Ytgclnfhkjnomaaa
open Go.ChangeShapes Go.WideShapes Go.ChangeAt Go.RowKit
theorem setNot_any (s t : Int) (w : World) :
    Calls Try.prog 67 #[.int .i64 s, .int .i64 t] w fun e w' => e = .returned (.int .i64 (notI s t)) ∧ w' = w := by
  go_enter Try.func67, Try.ntmps67
  go_wp2
  go_ret
  exact ⟨rfl, rfl⟩
end Go.Proofs.Ytgclnfhkjnomaaa
