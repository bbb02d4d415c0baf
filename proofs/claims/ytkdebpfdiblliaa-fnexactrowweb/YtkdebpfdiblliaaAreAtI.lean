/- Contract of the program's test of two events: are they at one place. -/
import Derived.Test.YtkdebpfdiblliaaColPlain
import Derived.Test.YtkdebpfdiblliaaMA
import Derived.Outline
namespace Go.Proofs.Ytkdebpfdiblliaa
open Go.ChangeShapes Go.WideShapes Go.ChangeAt Go.RowKit

abbrev eA (i q : Int) (r : Bool) (pl vl c : Int) : Value := .agg #[.int .i64 i, .int .i64 q, .bool r, .int .i64 pl, .int .i64 vl, .int .i64 c]
theorem areAt_any (w : World) (x0 x1 : Int) (x2 : Bool) (x3 x4 x5 y0 y1 : Int) (y2 : Bool) (y3 y4 y5 : Int) :
    Calls Try.prog 43 #[eA x0 x1 x2 x3 x4 x5, eA y0 y1 y2 y3 y4 y5] w fun e w' => e = .returned (.bool (onpE (x0, x1, x2, x3, x4, x5) (y0, y1, y2, y3, y4, y5))) ∧ Keep w w' := by
  go_enter Try.func43, Try.ntmps43
  go_wp2
  go_ret
  exact ⟨rfl, ((Keep.refl w).alloc _).alloc _⟩
end Go.Proofs.Ytkdebpfdiblliaa
