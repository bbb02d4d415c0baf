/- A list of numbers that others' turns leave. -/
import Derived.Test.YtkbkdlaknmgjpaaMB
import Derived.Test.YtkbkdlaknmgjpaaMC
namespace Go.Proofs.Ytkbkdlaknmgjpaa
open Go.ChangeShapes Go.WideShapes Go.ChangeAt Go.RowKit
theorem row_only {w w' : World} {base lo hi : Nat} {v : Value} {zs : List Int} (h : Row w base v zs) (k : Only lo hi w w') (hb : hi ≤ base) : Row w' base v zs := by
 rcases h with h | ⟨g, cap, hv, hg, hr⟩
 ·
  exact .inl h
 ·
  have hlt := hr.lt
  obtain ⟨cur, e, hh, ht⟩ := hr
  exact .inr ⟨g, cap, hv, hg, cur, e, (k.block g hlt (.inr (Nat.le_trans hb hg))).trans hh, ht⟩
end Go.Proofs.Ytkbkdlaknmgjpaa
