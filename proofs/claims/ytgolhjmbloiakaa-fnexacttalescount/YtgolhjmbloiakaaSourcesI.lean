/- Contract of the program's sources: its iterator keeps the choices in a box. -/
import Derived.Test.YtgolhjmbloiakaaMA
import Derived.Outline
namespace Go.Proofs.Ytgolhjmbloiakaa
open Go.ChangeShapes Go.WideShapes Go.ChangeAt Go.RowKit

theorem sources_any (w : World) (a : Option Addr) (n c : Nat) :
    Calls Try.prog 79 #[.slice a n c] w fun e w' => e = .returned (.func (.func 115) #[] #[.pointer (some ⟨w.heap.size, 0, none⟩)]) ∧ w' = w.alloc (.cells #[.slice a n c] 68) := by
  go_enter Try.func79, Try.ntmps79
  go_wp2
  go_ret
  exact ⟨rfl, rfl⟩
end Go.Proofs.Ytgolhjmbloiakaa
