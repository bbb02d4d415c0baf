/- How long the answers on events are; blocks that lie apart. -/
import Derived.Test.YtkbkdlaknmgjpaaMB
namespace Go.Proofs.Ytkbkdlaknmgjpaa
open Go.ChangeShapes Go.WideShapes Go.ChangeAt Go.RowKit
theorem apart_of {v v' : Value} {m : Nat} (h1 : ∀ k, v'.ownBlock = some k → k < m) (h2 : ∀ k, v.ownBlock = some k → m ≤ k) : v.ownBlock = none ∨ v.ownBlock ≠ v'.ownBlock := by
 cases hv : v.ownBlock with
 | none => exact .inl rfl
 | some k =>
  refine .inr fun e => ?_
  have a := h1 k e.symm
  have b := h2 k hv
  omega
end Go.Proofs.Ytkbkdlaknmgjpaa
