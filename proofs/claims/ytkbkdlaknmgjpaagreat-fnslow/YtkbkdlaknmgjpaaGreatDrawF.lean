/- Contracts of the cursor that the specification draws its inputs with: a number out of a range. -/
import Derived.Test.YtkbkdlaknmgjpaaGreatMG
namespace Go.Proofs.YtkbkdlaknmgjpaaGreat
open Go.ChangeShapes Go.WideShapes Go.ChangeAt Go.RowKit

theorem from_any (w : World) (B g : Nat) (lo hi : Int) (hc : Cur w B g) (h0 : -1099511627776 ≤ lo) (h1 : lo ≤ hi) (h2 : hi ≤ 1099511627776) :
    Calls Tryz.prog 150 #[.pointer (some ⟨g, 0, none⟩), .int .i64 lo, .int .i64 hi] w fun e w' => ∃ x, e = .returned (.int .i64 x) ∧ lo ≤ x ∧ x ≤ hi ∧ Cur w' B g ∧ w.grownBy w' (some g) := by
  go_enter Tryz.func150, Tryz.ntmps150
  go_wp2_with fail
  refine (below_any _ B g _ hc (by omega)).mono ?_
  rintro e w1 ⟨x, rfl, x0, x1, c1, g1⟩
  go_wp2
  go_ret
  exact ⟨_, rfl, by omega, by omega, c1, g1⟩
end Go.Proofs.YtkbkdlaknmgjpaaGreat
