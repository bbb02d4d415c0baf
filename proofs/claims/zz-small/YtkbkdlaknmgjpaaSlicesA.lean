/- Contracts of the law's own helpers on lists of numbers: to compare two, to copy one, to mark one and to ask for the marks. -/
import Derived.Test.YtkbkdlaknmgjpaaSliceEq
import Derived.Outline
import Derived.RegionTactic
import Derived.Deep.QuietTactic
import Derived.BigQuiet
namespace Go.Proofs.Ytkbkdlaknmgjpaa
open Go.ChangeShapes Go.WideShapes Go.ChangeAt Go.RowKit
def marks (k : Int) : Nat → List Int
 | 0 => []
 | n + 1 => marks k n ++ [k + n]
theorem marks_len (k : Int) (n : Nat) : (marks k n).length = n := by
 induction n with
 | zero => rfl
 | succ n ih => simp [marks, ih]
theorem marks_getD (k : Int) (n i : Nat) (h : i < n) : (marks k n).getD i 0 = k + i := by
 induction n with
 | zero => omega
 | succ n ih =>
  unfold marks
  by_cases hi : i < n
  ·
   rw [List.getD_eq_getElem?_getD, List.getElem?_append_left (by rw [marks_len]; exact hi), ← List.getD_eq_getElem?_getD, ih hi]
  ·
   have : i = n := by omega
   subst this
   rw [List.getD_eq_getElem?_getD, List.getElem?_append_right (by rw [marks_len]; exact Nat.le_refl _), marks_len]
   simp
theorem marked_len (zs : List Int) (k : Int) (j : Nat) (hj : j ≤ zs.length) : (marks k j ++ zs.drop j).length = zs.length := by
 rw [List.length_append, marks_len, List.length_drop]; omega
end Go.Proofs.Ytkbkdlaknmgjpaa
