/- Contract of a set of the program's without another. -/
import Derived.Test.YtgclnfhkjnomaaiSetsA
import Derived.Test.YtgclnfhkjnomaaiWebPlain
import Derived.Outline
namespace Go.Proofs.Ytgclnfhkjnomaai
open Go.ChangeShapes Go.WideShapes Go.ChangeAt Go.RowKit
theorem setNot_any (s t : Int) (w : World) :
    Calls Try.prog 47 #[.int .i64 s, .int .i64 t] w fun e w' => e = .returned (.int .i64 (notI s t)) ∧ w' = w := by
  go_enter Try.func47, Try.ntmps47
  go_wp2
  go_ret
  exact ⟨rfl, rfl⟩
end Go.Proofs.Ytgclnfhkjnomaai
