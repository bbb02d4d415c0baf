/- A list of one's own, of which one number is set, or that is cut. -/
import Derived.Test.YtkbkdlaknmgjpaaGreatMB
namespace Go.Proofs.YtkbkdlaknmgjpaaGreat
open Go.ChangeShapes Go.WideShapes Go.ChangeAt Go.RowKit

theorem Own.setAt {w : World} {base g n cap : Nat} {zs : List Int} (h : Own w base (.slice (some ⟨g, 0, none⟩) n cap) zs) (j : Nat) (x : Int) : Own (w.setCell ⟨g, j, none⟩ (.int .i64 x)) base (.slice (some ⟨g, 0, none⟩) n cap) (zs.set j x) := by
  obtain ⟨h1, h2⟩ := h
  refine ⟨by simp, ?_⟩
  rcases h2 with ⟨h, _⟩ | ⟨g', cap', cur, e, hg, hh, r1, r2, r3, r4⟩
  · cases h
  · cases e
    refine .inr ⟨g, cap, cur.setIfInBounds j (.int .i64 x), by simp, hg, heap_setCell_same w g j _ _ _ hh, by simpa using r1, r2, by simpa using r3, ?_⟩
    rw [Nat.mul_one] at r4 ⊢
    rw [Array.toList_setIfInBounds]
    exact take_set_val _ zs j x r4
theorem Own.cut {w : World} {base g n cap : Nat} {zs : List Int} (h : Own w base (.slice (some ⟨g, 0, none⟩) n cap) zs) {m : Nat} (hm : m ≤ zs.length) : Own w base (.slice (some ⟨g, 0, none⟩) m cap) (zs.take m) := by
  obtain ⟨h1, h2⟩ := h
  have hl : (zs.take m).length = m := by rw [List.length_take]; omega
  refine ⟨by simp, ?_⟩
  rw [hl]
  rcases h2 with ⟨h, _⟩ | ⟨g', cap', cur, e, hg, hh, r1, r2, r3, r4⟩
  · cases h
  · cases e
    refine .inr ⟨g, cap, cur, rfl, hg, hh, by omega, r2, r3, ?_⟩
    rw [Nat.mul_one] at r4 ⊢
    have e1 := congrArg (List.take m) r4
    rw [List.take_take, Nat.min_eq_left hm, ← List.map_take] at e1
    exact e1
theorem Own.len {w : World} {base g n cap : Nat} {zs : List Int} (h : Own w base (.slice (some ⟨g, 0, none⟩) n cap) zs) : n = zs.length := by
  rcases h.2 with ⟨h, _⟩ | ⟨g', cap', cur, e, _⟩
  · cases h
  · cases e; rfl
theorem Own.rowAt {w : World} {base g n cap : Nat} {zs : List Int} (h : Own w base (.slice (some ⟨g, 0, none⟩) n cap) zs) : RowAt w g zs := by
  rcases h.2 with ⟨h, _⟩ | ⟨g', cap', cur, e, hg, hh, r1, r2, r3, r4⟩
  · cases h
  · cases e
    exact ⟨cur, _, hh, by rw [Nat.mul_one] at r4; exact r4⟩
end Go.Proofs.YtkbkdlaknmgjpaaGreat
