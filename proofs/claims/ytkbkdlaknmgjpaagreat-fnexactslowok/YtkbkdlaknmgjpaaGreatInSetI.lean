/- Contract of the program's InSet. -/
import Derived.Test.YtkbkdlaknmgjpaaGreatMB
namespace Go.Proofs.YtkbkdlaknmgjpaaGreat
open Go.ChangeShapes Go.WideShapes Go.ChangeAt Go.RowKit

theorem implInSet_any (s i : Int) (w : World) :
    Calls Tryz.prog 18 #[.int .i64 s, .int .i64 i] w fun e w' => e = .returned (.bool (inSetB s i)) ∧ w' = w := by
  go_enter Tryz.func18, Tryz.ntmps18
  go_wp2_with (go_at_call 60; refine (has_any _ _ _).mono ?_; rintro e w' ⟨rfl, rfl⟩)
  go_ret
  exact ⟨rfl, rfl⟩
end Go.Proofs.YtkbkdlaknmgjpaaGreat
