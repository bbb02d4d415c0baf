/- Contracts of SetOk and InSet, the program's and the specification's. -/
import Derived.Test.YtmigdnceidbppagSetsA
namespace Go.Proofs.Ytmigdnceidbppag
open Go.ChangeShapes Go.WideShapes Go.ChangeAt Go.RowKit

theorem implSetOk_any (n s : Int) (w : World) :
    Calls Try.prog 10 #[.int .i64 n, .int .i64 s] w fun e w' => e = .returned (.bool (okB n s)) ∧ w' = w := by
  go_enter Try.func10, Try.ntmps10
  go_wp2_with (go_at_call 26; refine (isOf_any _ _ _).mono ?_; rintro e w' ⟨rfl, rfl⟩)
  go_ret
  exact ⟨rfl, rfl⟩
theorem specInSet_any (s i : Int) (w : World) :
    Calls Try.prog 11 #[.int .i64 s, .int .i64 i] w fun e w' => e = .returned (.bool (inSetB s i)) ∧ w' = w := by
  cases hi : inB i 0 11
  · go_enter Try.func11, Try.ntmps11
    go_wp2_with (go_at_call 25; refine (l1In_any _ _ _ _).mono ?_; rintro e w' ⟨rfl, rfl⟩)
    go_ret
    exact ⟨ret_bool (by simp [inSetB, hi]), rfl⟩
  · have hi' := hi
    simp only [inB, decide_eq_true_eq] at hi'
    obtain ⟨i1, i2⟩ := hi'
    cases hs : inB s 0 4095
    · go_enter Try.func11, Try.ntmps11
      go_wp2_with (go_at_call 25; refine (l1In_any _ _ _ _).mono ?_; rintro e w' ⟨rfl, rfl⟩)
      go_ret
      exact ⟨ret_bool (by simp [inSetB, hs]), rfl⟩
    · go_enter Try.func11, Try.ntmps11
      go_wp2_with (first | (go_at_call 25; refine (l1In_any _ _ _ _).mono ?_; rintro e w' ⟨rfl, rfl⟩) | (go_at_call 27; refine (l1Has_any _ _ _ i1 i2).mono ?_; rintro e w' ⟨rfl, rfl⟩))
      go_ret
      exact ⟨ret_bool (by simp [inSetB, hi, hs]), rfl⟩
end Go.Proofs.Ytmigdnceidbppag
