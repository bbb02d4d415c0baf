/- The cell of a new block of one. -/
import Derived.Test.YtkbkdlaknmgjpaaMB
namespace Go.Proofs.Ytkbkdlaknmgjpaa
open Go.ChangeShapes Go.WideShapes Go.ChangeAt Go.RowKit
theorem new_one (w : World) (u : Value) (n : Nat) (hn : w.heap.size = n) : ∀ j y, ([u] : List Value)[j]? = some y → (w.alloc (.cells #[u] 23)).cell? ((⟨n, 0, none⟩ : Addr).add j) = some y := by
 subst hn
 intro j y hj
 match j, hj with
 | 0, hj => simp at hj; subst hj; simp [Addr.add]
end Go.Proofs.Ytkbkdlaknmgjpaa
