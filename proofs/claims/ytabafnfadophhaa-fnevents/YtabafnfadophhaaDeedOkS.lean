/- Contract of the specification's DeedOk: it answers whether four numbers are a deed, and turns nothing. -/
import Derived.Test.YtabafnfadophhaaL1In
import Derived.Test.YtabafnfadophhaaMA
import Derived.Test.YtabafnfadophhaaBase
namespace Go.Proofs.Ytabafnfadophhaa
open Go.ChangeShapes Go.WideShapes Go.ChangeAt Go.RowKit

abbrev deedV (k p v g : Int) : Value := .agg #[.int .i64 k, .int .i64 p, .int .i64 v, .int .i64 g]

theorem specDeedOk_any (k p v g : Int) (w : World) :
    Calls Try.prog 54 #[deedV k p v g] w fun e w' => e = .returned (.bool (deedB k p v g)) ∧ Keep w w' := by
  unfold deedV
  go_enter Try.func54, Try.ntmps54
  go_wp2_with (go_at_call 53; refine (l1In_any _ _ _ _).mono ?_; rintro e w' ⟨rfl, rfl⟩)
  all_goals
    go_ret
    refine ⟨ret_bool ?_, (Keep.refl w).alloc _⟩
    simp [inB] at *
    rw [Bool.eq_iff_iff]
    simp [deedB]
    omega
end Go.Proofs.Ytabafnfadophhaa
