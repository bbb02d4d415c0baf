/- Contract of one more line in the program's web. -/
import Derived.Test.YtgolhjmbloiakaaMA
import Derived.Test.YtgolhjmbloiakaaMB
namespace Go.Proofs.Ytgolhjmbloiakaa
open Go.ChangeShapes Go.WideShapes Go.ChangeAt Go.RowKit

set_option maxHeartbeats 400000 in
theorem line_any (w : World) (g n cap : Nat) (st : List Int) (j : Nat) (i : Int) (hr : RowAt w g st) (hn : st.length = n) (hj : j < n) :
    Calls Try.prog 70 #[.slice (some ⟨g, 0, none⟩) n cap, .int .i64 j, .int .i64 i] w fun e w' => e = .returned (.tuple #[]) ∧ RowAt w' g (st.set j (gAdd (st.getD j 0) i)) ∧ w.grownBy w' (some g) := by
  have d1 := hr.cell (j := j) (by omega)
  have d2 := hr.free j
  have hs := hr.set j (gAdd (st.getD j 0) i)
  generalize st.getD j 0 = x at *
  have hG := grown_set w g j (.int .i64 (gAdd x i))
  go_enter Try.func70, Try.ntmps70
  go_wp2_with fail
  refine (with_any _ _ _).mono ?_
  rintro e w' ⟨rfl, rfl⟩
  go_wp2
  go_end0
  exact ⟨rfl, hs, hG⟩
end Go.Proofs.Ytgolhjmbloiakaa
