/- Plain mathematics of the lines that slow ink keeps. -/
import Derived.Test.YtkdebpfdiblliaaLinePlain
import Derived.Test.YtkdebpfdiblliaaWholePlain
namespace Go.Proofs.Ytkdebpfdiblliaa
open Go.RowKit

def dOf (dss : List (List Dd)) (e : Ev) : Dd := (dss.getD e.1.toNat []).getD e.2.1.toNat zD
/-- What is not kept: a write ahead of a read of another class, with no wait between them, neither of a swap or a Group. -/
def kepQ (dss : List (List Dd)) (a b : Ev) : Bool := !(rdE a) && rdE b && (csE a != csE b) && (!waitsD (dss.getD a.1.toNat []) a.2.1.toNat b.2.1.toNat && !wholeD (dOf dss a) && !wholeD (dOf dss b))
def kepP (dss : List (List Dd)) (es : List Ev) (i k : Nat) : Bool := decide (3 ≤ i) && behP es i k && kepQ dss (es.getD i zE) (es.getD k zE)
def kepL (dss : List (List Dd)) (es : List Ev) : List Int := offAll (kepP dss es) es.length (behL es) es.length
theorem kepP_up {dss : List (List Dd)} {es : List Ev} {i j : Nat} (h : j ≤ i) : kepP dss es i j = false := by unfold kepP; rw [behP_up h]; simp
theorem kep_line {dss : List (List Dd)} {es : List Ev} (h : es.length ≤ 12) : Web es.length (kepL dss es) ∧ ∀ a j : Nat, a < es.length → line (kepL dss es) a j = (decide (j < es.length) && behP es a j && !kepP dss es a j) := by
  have h1 := beh_line h
  have h2 := web_offAll (p := kepP dss es) h1.1 es.length (Nat.le_refl _)
  refine ⟨h2.1, fun a j ha => ?_⟩
  unfold kepL
  rw [h2.2 a j ha, h1.2 a j ha]
  by_cases hj : j < es.length
  · simp [ha, hj]
  · simp [hj]
/-- Nothing is taken from the first three. -/
theorem kep_three {dss : List (List Dd)} {es : List Ev} : ∀ k : Nat, k ≤ 3 → offAll (kepP dss es) es.length (behL es) k = behL es
  | 0, _ => rfl
  | k + 1, h => by
    rw [offAll, kep_three k (by omega)]
    exact offIn_none _ _ (fun j _ => by unfold kepP; simp; omega)
/-- A line that is met has not been taken yet. -/
theorem kep_has {dss : List (List Dd)} {es : List Ev} (hn : es.length ≤ 12) {k m : Nat} (hk : k < es.length) (hm : m < es.length) :
    inSetB ((offIn (kepP dss es) k (offAll (kepP dss es) es.length (behL es) k) m).getD k 0) m = behP es k m := by
  have h1 := beh_line hn
  have h2 := web_offAll (p := kepP dss es) h1.1 k (by omega)
  have h3 := web_offIn (p := kepP dss es) hk h2.1 m (by omega)
  have e3 := h3.2 k m hk
  rw [h2.2 k m hk, h1.2 k m hk] at e3
  unfold line at e3
  rw [e3]
  simp [hm]
end Go.Proofs.Ytkdebpfdiblliaa
