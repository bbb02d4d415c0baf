/- Contract of the laws' big: is the input too great. -/
import Derived.Test.YtkbkdlaknmgjpaaGreatMB
import Derived.Outline
namespace Go.Proofs.YtkbkdlaknmgjpaaGreat
open Go.ChangeShapes Go.WideShapes Go.ChangeAt Go.RowKit

theorem big_any (w : World) (a : Option Addr) (len cap : Nat) :
    Calls Tryz.prog 6 #[.slice a len cap] w fun e w' => e = .returned (.bool (decide (4096 < len))) ∧ w' = w := by
  go_enter Tryz.func6, Tryz.ntmps6
  go_wp2
  go_ret
  exact ⟨ret_bool (by rw [Bool.eq_iff_iff]; simp; omega), rfl⟩
end Go.Proofs.YtkbkdlaknmgjpaaGreat
