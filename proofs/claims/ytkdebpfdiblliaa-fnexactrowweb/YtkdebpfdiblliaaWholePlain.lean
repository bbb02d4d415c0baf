/- Plain mathematics: is a deed a swap or of a Group; does a wait stand between two deeds. -/
import Derived.Test.YtkdebpfdiblliaaMA
namespace Go.Proofs.Ytkdebpfdiblliaa

/-- Is that deed a swap or of a Group? -/
def wholeD (d : Dd) : Bool := (d.1 == 3) || decide (0 < d.2.2.2)
/-- Does a wait stand between the deeds lo and hi? -/
def waitsD (ds : List Dd) (lo hi : Nat) : Bool := (List.range hi).any (fun j => decide (lo < j) && ((ds.getD j zD).1 == 4))
theorem waitsD_no {ds : List Dd} {lo hi : Nat} (h : ∀ j, lo < j → j < hi → (ds.getD j zD).1 ≠ 4) : waitsD ds lo hi = false := by
  unfold waitsD
  rw [List.any_eq_false]
  intro j hj
  rw [List.mem_range] at hj
  by_cases hl : lo < j
  · have := h j hl hj
    simp [hl]; simpa using this
  · simp [hl]
theorem waitsD_yes {ds : List Dd} {lo hi j : Nat} (h1 : lo < j) (h2 : j < hi) (h : (ds.getD j zD).1 = 4) : waitsD ds lo hi = true := by
  unfold waitsD
  rw [List.any_eq_true]
  exact ⟨j, List.mem_range.2 h2, by simp only [h]; simp [h1]⟩
end Go.Proofs.Ytkdebpfdiblliaa
