/- Contracts of the small functions on sets, of the specification and of the program: each answers as a plain function says and turns nothing. -/
import Derived.Test.YtefdhogmjijkgaaRows
import Derived.Test.YtefdhogmjijkgaaMA
import Derived.Test.YtefdhogmjijkgaaSetsB
import Derived.Test.YtefdhogmjijkgaaL1Has
import Derived.OpenShut
namespace Go.Proofs.Ytefdhogmjijkgaa
open Go.ChangeShapes Go.WideShapes Go.ChangeAt Go.RowKit

theorem specSetOk_any (n s : Int) (w : World) :
    Calls Try.prog 84 #[.int .i64 n, .int .i64 s] w fun e w' => e = .returned (.bool (okB n s)) ∧ w' = w := by
  cases hn : inB n 0 12
  · go_enter Try.func84, Try.ntmps84
    go_wp2_with (go_at_call 38; refine (l1In_any _ _ _ _).mono ?_; rintro e w' ⟨rfl, rfl⟩)
    go_ret
    refine ⟨ret_bool ?_, rfl⟩
    simp [inB] at hn
    rw [Bool.eq_iff_iff]; unfold okB; simp; omega
  · have hn' := hn
    simp only [inB, decide_eq_true_eq] at hn'
    obtain ⟨n1, n2⟩ := hn'
    have hp := pow_le12 n.toNat (by omega)
    go_enter Try.func84, Try.ntmps84
    go_wp2_with (go_at_call 38; refine (l1In_any _ _ _ _).mono ?_; rintro e w' ⟨rfl, rfl⟩)
    go_ret
    refine ⟨ret_bool ?_, rfl⟩
    rw [Bool.eq_iff_iff]; unfold okB inB; simp; omega
theorem implInSet_any (s i : Int) (w : World) :
    Calls Try.prog 21 #[.int .i64 s, .int .i64 i] w fun e w' => e = .returned (.bool (inSetB s i)) ∧ w' = w := by
  go_enter Try.func21, Try.ntmps21
  go_wp2_with (go_at_call 45; refine (has_any _ _ _).mono ?_; rintro e w' ⟨rfl, rfl⟩)
  go_ret
  exact ⟨rfl, rfl⟩
end Go.Proofs.Ytefdhogmjijkgaa
