/- The laws' heldTale. (Written by mkte.py.) -/
import Derived.Test.YtgolhjmbloiakabMD
import Derived.Test.YtgolhjmbloiakabMarkRow
import Derived.Lib.Hide
namespace Go.Proofs.Ytgolhjmbloiakab
open Go.ChangeShapes Go.WideShapes Go.ChangeAt Go.RowKit

set_option maxHeartbeats 1000000 in
theorem heldTale_any (w : World) (vF vR : Value) (n m : Nat) (k : Int) (hf : Rd w vF (marks k n)) (hr : Rd w vR (marks (k + n) m)) (lf : n ≤ 1048576) (lr : m ≤ 1048576) (h0 : 1 ≤ k) (h1 : k ≤ 8388608) :
    Calls Try.prog 12 #[.agg #[vF, vR], .int .i64 k] w fun e w' => e = .returned (.int .i64 (k + n + m)) ∧ Keep w w' := by
  have C := fun (W : World) (kW : Keep w W) => held_row W vF k n (hf.keep kW) lf h0 (by omega)
  have C2 := fun (W : World) (kW : Keep w W) => held_row W vR (k + n) m (hr.keep kW) lr (by omega) (by omega)
  obtain ⟨aF, cF, hvF, -⟩ := hf
  obtain ⟨aR, cR, hvR, -⟩ := hr
  subst hvF hvR
  rw [marks_len] at C
  rw [marks_len] at C2
  rw [marks_len, marks_len]
  have n1 : 0 ≤ k + (n : Int) := by omega
  have n2 : 0 ≤ k + (n : Int) + (m : Int) := by omega
  go_enter Try.func12, Try.ntmps12
  go_wp2_with fail
  refine (C _ ((Keep.refl w).alloc _)).mono ?_
  rintro e w1 ⟨rfl, k1⟩
  have c0 := box_cell k1 0
  have c1 := box_cell k1 1
  simp at c0 c1
  have K1 := ((Keep.refl w).alloc _).trans k1
  go_wp2_with fail
  refine (C2 _ K1).mono ?_
  rintro e w2 ⟨rfl, k2⟩
  go_wp2
  go_ret
  exact ⟨rfl, K1.trans k2⟩
end Go.Proofs.Ytgolhjmbloiakab
