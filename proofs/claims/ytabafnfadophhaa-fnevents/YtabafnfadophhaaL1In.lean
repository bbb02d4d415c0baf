/- Contract of the specification's l1In: is a number from the least to the greatest. -/
import Derived.Test.YtabafnfadophhaaRows
import Derived.Test.YtabafnfadophhaaMA
import Derived.OpenShut
namespace Go.Proofs.Ytabafnfadophhaa
open Go.ChangeShapes Go.WideShapes Go.ChangeAt Go.RowKit

theorem l1In_any (x lo hi : Int) (w : World) :
    Calls Try.prog 53 #[.int .i64 x, .int .i64 lo, .int .i64 hi] w fun e w' => e = .returned (.bool (inB x lo hi)) ∧ w' = w := by
  go_enter Try.func53, Try.ntmps53
  go_wp2
  all_goals
    go_ret
    exact ⟨ret_bool (by rw [Bool.eq_iff_iff]; unfold inB; simp; omega), rfl⟩
end Go.Proofs.Ytabafnfadophhaa
