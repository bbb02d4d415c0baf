/- Contract of what the program's sets have in common. -/
import Derived.Test.YtgclnfhkjnomaaiSetsA
import Derived.Test.YtgclnfhkjnomaaiWebPlain
import Derived.Outline
namespace Go.Proofs.Ytgclnfhkjnomaai
open Go.ChangeShapes Go.WideShapes Go.ChangeAt Go.RowKit
theorem setAnd_any (s t : Int) (w : World) :
    Calls Try.prog 33 #[.int .i64 s, .int .i64 t] w fun e w' => e = .returned (.int .i64 (andI s t)) ∧ w' = w := by
  go_enter Try.func33, Try.ntmps33
  go_wp2
  go_ret
  exact ⟨rfl, rfl⟩
end Go.Proofs.Ytgclnfhkjnomaai
