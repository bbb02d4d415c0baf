/- Plain mathematics of the numbers that the program picks among twelve: those that there are and that pass a test. -/
import Derived.Test.YtabafnfadophhaaEvRow
namespace Go.Proofs.Ytabafnfadophhaa

def tstE (f : Ev → Bool) (es : List Ev) (k : Nat) : Bool := decide (k < es.length) && f (es.getD k zE)
def chK (f : Ev → Bool) (es : List Ev) : Nat → List Int
  | 0 => []
  | k + 1 => if tstE f es k = true then chK f es k ++ [(k : Int)] else chK f es k
theorem chK_min (f : Ev → Bool) (es : List Ev) : ∀ k, chK f es k = idxK f es (min k es.length)
  | 0 => by simp [chK, idxK]
  | k + 1 => by
    rw [chK, chK_min f es k]
    by_cases h : k < es.length
    · rw [show min (k + 1) es.length = k + 1 by omega, show min k es.length = k by omega, idxK]
      simp [tstE, h]
    · rw [show min (k + 1) es.length = min k es.length by omega]
      simp [tstE, h]
theorem chK_all (f : Ev → Bool) (es : List Ev) (k : Nat) (h : es.length ≤ k) : chK f es k = idxK f es es.length := by
  rw [chK_min, Nat.min_eq_right h]
theorem chK_len (f : Ev → Bool) (es : List Ev) (k : Nat) : (chK f es k).length ≤ k := by
  rw [chK_min]
  have := idxK_len f es (min k es.length)
  omega
end Go.Proofs.Ytabafnfadophhaa
