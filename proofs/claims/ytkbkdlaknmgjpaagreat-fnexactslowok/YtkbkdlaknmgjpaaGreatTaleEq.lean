/- The laws' eqTale. (Written by mkte.py.) -/
import Derived.Test.YtkbkdlaknmgjpaaGreatMD
import Derived.Test.YtkbkdlaknmgjpaaGreatSliceEq
import Derived.Lib.Hide
namespace Go.Proofs.YtkbkdlaknmgjpaaGreat
open Go.ChangeShapes Go.WideShapes Go.ChangeAt Go.RowKit

theorem box_talesE {w w1 : World} {x0 x1 y0 y1 : Value} {t t' : TypeId} (k : Keep ((w.alloc (.cells #[x0, x1] t)).alloc (.cells #[y0, y1] t')) w1) :
    (w1.cell? ⟨w.heap.size, 0, none⟩ = some x0 ∧ w1.cell? ⟨w.heap.size, 1, none⟩ = some x1) ∧ (w1.cell? ⟨w.heap.size + 1, 0, none⟩ = some y0 ∧ w1.cell? ⟨w.heap.size + 1, 1, none⟩ = some y1) := by
  have h0 : ∀ i : Nat, w1.cell? ⟨w.heap.size, i, none⟩ = (#[x0, x1])[i]? := fun i => by
    rw [k.cell (by simp only [heap_size]; omega), (((Keep.refl (w.alloc _)).alloc _)).cell (by simp only [heap_size]; omega)]
    exact box_cell (Keep.refl _) i
  have h1 : ∀ i : Nat, w1.cell? ⟨w.heap.size + 1, i, none⟩ = (#[y0, y1])[i]? := fun i => by
    have := box_cell k i
    rw [heap_size] at this
    exact this
  exact ⟨⟨h0 0, h0 1⟩, ⟨h1 0, h1 1⟩⟩

set_option maxHeartbeats 1000000 in
theorem eqTale_any (w : World) (vF vR uF uR : Value) (f rows g rows' : List Int) (hf : Rd w vF f) (hr : Rd w vR rows) (kf : Rd w uF g) (kr : Rd w uR rows') (lf : f.length ≤ 1048576) (lr : rows.length ≤ 1048576) :
    Calls Tryz.prog 30 #[.agg #[vF, vR], .agg #[uF, uR]] w fun e w' => e = .returned (.bool (decide (f = g) && decide (rows = rows'))) ∧ Keep w w' := by
  have CF := fun (W : World) (kW : Keep w W) => eq_any W vF uF f g (hf.keep kW) (kf.keep kW) lf
  have CR := fun (W : World) (kW : Keep w W) => eq_any W vR uR rows rows' (hr.keep kW) (kr.keep kW) lr
  obtain ⟨aF, cF, rfl, -⟩ := hf
  obtain ⟨aR, cR, rfl, -⟩ := hr
  obtain ⟨bF, dF, rfl, -⟩ := kf
  obtain ⟨bR, dR, rfl, -⟩ := kr
  generalize decide (f = g) = P at CF ⊢
  generalize decide (rows = rows') = Q at CR ⊢
  go_enter Tryz.func30, Tryz.ntmps30
  go_wp2_with fail
  refine (CF _ (((Keep.refl w).alloc _).alloc _)).mono ?_
  rintro e w1 ⟨rfl, k1⟩
  obtain ⟨⟨c0, c1⟩, ⟨c2, c3⟩⟩ := box_talesE k1
  have K1 := (((Keep.refl w).alloc _).alloc _).trans k1
  cases P
  · go_wp2
    go_ret
    exact ⟨rfl, K1⟩
  · go_wp2_with fail
    refine (CR _ K1).mono ?_
    rintro e w2 ⟨rfl, k2⟩
    cases Q
    · go_wp2
      go_ret
      exact ⟨rfl, K1.trans k2⟩
    · go_wp2
      go_ret
      exact ⟨rfl, K1.trans k2⟩
theorem eqTale_same (w : World) (vF vR uF uR : Value) (f rows : List Int) (hf : Rd w vF f) (hr : Rd w vR rows) (kf : Rd w uF f) (kr : Rd w uR rows) (lf : f.length ≤ 1048576) (lr : rows.length ≤ 1048576) :
    Calls Tryz.prog 30 #[.agg #[vF, vR], .agg #[uF, uR]] w fun e w' => e = .returned (.bool true) ∧ Keep w w' := by
  have h := eqTale_any w vF vR uF uR f rows f rows hf hr kf kr lf lr
  have e : (decide (f = f) && decide (rows = rows)) = true := by simp
  rw [e] at h
  exact h
end Go.Proofs.YtkbkdlaknmgjpaaGreat
