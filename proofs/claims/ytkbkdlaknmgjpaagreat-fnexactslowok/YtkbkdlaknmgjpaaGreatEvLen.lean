/- How long the answers on events are; blocks that lie apart. -/
import Derived.Test.YtkbkdlaknmgjpaaGreatMB
namespace Go.Proofs.YtkbkdlaknmgjpaaGreat
open Go.ChangeShapes Go.WideShapes Go.ChangeAt Go.RowKit

theorem idxB_len (f : Ev → Bool) (es : List Ev) : (idxB f es).length ≤ 12 := by
  unfold idxB
  split
  · have := idxK_len f es es.length; omega
  · simp
theorem clsB_len (es : List Ev) : (clsB es).length ≤ 12 := by
  unfold clsB
  split
  · simpa
  · simp
theorem own_first {w : World} {base : Nat} {v : Value} {zs r : List Int} {p : Int} (h : Own w base v zs) (hz : zs = p :: r) : ∃ g c, v = .slice (some ⟨g, 0, none⟩) zs.length c ∧ g < w.heap.size ∧ w.cell? ⟨g, 0, none⟩ = some (.int .i64 p) ∧ 0 < zs.length := by
  have hl : 0 < zs.length := by rw [hz]; simp
  have hlt := World.ownsRow.lt h
  have h2 := h
  rcases h.2 with ⟨_, hn⟩ | ⟨g, cap, cur, rfl, _⟩
  · omega
  · refine ⟨g, cap, rfl, (hlt g rfl).2, ?_, hl⟩
    rw [World.ownsRow.cellAt h2 0 (by omega), hz]
    rfl
theorem apart_of {v v' : Value} {m : Nat} (h1 : ∀ k, v'.ownBlock = some k → k < m) (h2 : ∀ k, v.ownBlock = some k → m ≤ k) : v.ownBlock = none ∨ v.ownBlock ≠ v'.ownBlock := by
  cases hv : v.ownBlock with
  | none => exact .inl rfl
  | some k =>
    refine .inr fun e => ?_
    have a := h1 k e.symm
    have b := h2 k hv
    omega
end Go.Proofs.YtkbkdlaknmgjpaaGreat
