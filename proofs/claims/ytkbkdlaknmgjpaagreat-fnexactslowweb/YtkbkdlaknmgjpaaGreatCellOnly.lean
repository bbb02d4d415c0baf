/- A cell that others' turns leave. -/
import Derived.Test.YtkbkdlaknmgjpaaGreatMC
namespace Go.Proofs.YtkbkdlaknmgjpaaGreat
open Go.ChangeShapes Go.WideShapes Go.ChangeAt Go.RowKit

theorem cell_only {w w' : World} {lo hi X i : Nat} (k : Only lo hi w w') (hlt : X < w.heap.size) (hb : hi ≤ X) : w'.cell? ⟨X, i, none⟩ = w.cell? ⟨X, i, none⟩ := by
  have e := k.block X hlt (.inr hb)
  simp only [World.cell?, e]
end Go.Proofs.YtkbkdlaknmgjpaaGreat
