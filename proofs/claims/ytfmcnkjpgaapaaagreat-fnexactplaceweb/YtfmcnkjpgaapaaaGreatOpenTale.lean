/- A tale that came in as an argument: two lists of numbers. -/
import Derived.Test.YtfmcnkjpgaapaaaGreatMB
import Derived.OpenShut
import Derived.Lib.SmallJoins
namespace Go.Proofs.YtfmcnkjpgaapaaaGreat
open Go.ChangeShapes Go.WideShapes Go.ChangeAt Go.RowKit

section
variable {H : Type} {enc : TypeId × Value → H} {w : World} {base : Nat} {held : Bool}
theorem open_num1 {n : Nat} {v : Value} {y : DataW H × List MemPlace} (h : DataW.trod enc Tryz.prog w base (fun _ => true) held n 25 [v] = some y) : ∃ f : List Int, Rd w v f ∧ f.length ≤ maxLen := by
  obtain ⟨d, p⟩ := y
  rcases open_ints Tryz.underlying25 Tryz.underlying2 (by kernel_rfl) h with ⟨hcs, _⟩ | ⟨x, l, c, zs, hcs, _, hl, hm, hz, _, hcell, hwz⟩
  · simp at hcs
    subst hcs
    exact ⟨[], ⟨none, 0, rfl, .inl rfl⟩, by simp⟩
  · simp at hcs
    subst hcs
    obtain ⟨f, hfl, hr⟩ := rd_of_row (w := w) (a := some x) (len := l) (cap := c) (ys := zs) (.inr ⟨x, rfl, hl, hm, by simpa using hz, hcell, hwz⟩)
    exact ⟨f, hr, by omega⟩
set_option maxRecDepth 100000 in
set_option maxHeartbeats 1000000 in
theorem open_tale {r : Reach} {b0 : Nat} {v : Value} {d : DataW H} {p : List MemPlace} (hv : Value.okWide Tryz.prog w r b0 42 v) (h : DataW.Trod enc Tryz.prog w base (fun _ => true) held 42 v d p) :
    ∃ (vF vR : Value) (f rows : List Int), v = .agg #[vF, vR] ∧ Rd w vF f ∧ Rd w vR rows ∧ f.length ≤ maxLen ∧ rows.length ≤ maxLen := by
  obtain ⟨c0, c1, y0, y1, n, rfl, _, _, e0, e1⟩ := Joins.open_agg2 Tryz.underlying42 (by kernel_rfl) (by kernel_rfl) hv h
  obtain ⟨f, hf, lf⟩ := open_num1 e0
  obtain ⟨rows, hr, lr⟩ := open_num1 e1
  exact ⟨c0, c1, f, rows, rfl, hf, hr, lf, lr⟩
end
end Go.Proofs.YtfmcnkjpgaapaaaGreat
