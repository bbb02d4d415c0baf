/- A list of numbers that can be read, as the cells that an append takes. -/
import Derived.Test.YtkbkdlaknmgjpaaGreatMB
namespace Go.Proofs.YtkbkdlaknmgjpaaGreat
open Go.ChangeShapes Go.WideShapes Go.ChangeAt Go.RowKit

/-- A list that can be read, as the cells that an append takes. -/
theorem rd_cells {w : World} {b off : Nat} {zs : List Int} (hc : ∀ i, i < zs.length → w.cell? ⟨b, off + i, none⟩ = some (.int .i64 (zs.getD i 0))) :
    ∀ j u, (zs.map (Value.int .i64))[j]? = some u → w.cell? ((⟨b, off, none⟩ : Addr).add j) = some u := by
  intro j u hj
  rw [List.getElem?_map] at hj
  have hjl : j < zs.length := by
    apply Classical.byContradiction
    intro hno
    rw [List.getElem?_eq_none (by omega)] at hj
    cases hj
  have e1 : (⟨b, off, none⟩ : Addr).add j = ⟨b, off + j, none⟩ := by unfold Addr.add; split <;> simp_all
  rw [e1, hc j hjl, List.getD_eq_getElem?_getD]
  rw [List.getElem?_eq_getElem hjl] at hj ⊢
  simpa using hj
theorem ints_one (zs : List Int) : ∀ u ∈ zs.map (Value.int .i64), u.oneCell' = true := by
  intro u hu
  obtain ⟨y, _, rfl⟩ := List.mem_map.1 hu
  rfl
end Go.Proofs.YtkbkdlaknmgjpaaGreat
