/- A deed that came in as an argument: four numbers, each fitting its kind; and how the laws hand it on. -/
import Derived.Test.YtkbkdlaknmgjpaaMA
import Derived.Lib.SmallJoins
namespace Go.Proofs.Ytkbkdlaknmgjpaa
open Go.ChangeShapes Go.WideShapes Go.ChangeAt Go.RowKit
theorem toDeed_any (k p v g : Int) (w : World) :
  Calls Try.prog 32 #[deedV k p v g] w fun e w' => e = .returned (deedV k p v g) ∧ Keep w w' := by
 go_enter Try.func32, Try.ntmps32
 go_wp2
 refine bodyPost_ret (results_row (by rfl) _ _ (w.heap.size + 1) _ _ _ _ rfl (by simp only [heap_at, heap_size]; repeat (first | exact if_pos rfl | exact if_pos trivial | rw [if_neg (by omega)])) Try.underlying62 rfl (by kernel_rfl)) rfl ?_
 exact ⟨rfl, (((Keep.refl w).alloc _).alloc _).alloc _⟩
end Go.Proofs.Ytkbkdlaknmgjpaa
