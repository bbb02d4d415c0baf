/- Contract of the program's set with one more member. -/
import Derived.Test.YtefdhogmjijkgaaSetsB
import Derived.Outline
namespace Go.Proofs.Ytefdhogmjijkgaa
open Go.ChangeShapes Go.WideShapes Go.ChangeAt Go.RowKit

theorem with_any (s i : Int) (w : World) :
    Calls Try.prog 81 #[.int .i64 s, .int .i64 i] w fun e w' => e = .returned (.int .i64 (gAdd s i)) ∧ w' = w := by
  by_cases hs : s = -1
  · subst hs
    go_enter Try.func81, Try.ntmps81
    go_wp2
    go_ret
    exact ⟨ret_int (gAdd_none i).symm, rfl⟩
  · have hsb : (s == -1) = false := by simp [hs]
    have HS : Hid (¬ s = -1) := hs
    clear hs
    cases hi : inB i 0 11
    · go_enter Try.func81, Try.ntmps81
      go_wp2_with (go_at_call 66; refine (inSize_any _ _).mono ?_; rintro e w' ⟨rfl, rfl⟩)
      go_ret
      exact ⟨ret_int (gAdd_bad s i hi).symm, rfl⟩
    · have hi' := hi
      simp only [inB, decide_eq_true_eq] at hi'
      obtain ⟨i1, i2⟩ := hi'
      go_enter Try.func81, Try.ntmps81
      go_wp2_with (go_at_call 66; refine (inSize_any _ _).mono ?_; rintro e w' ⟨rfl, rfl⟩)
      go_ret
      exact ⟨ret_int (by simp [gAdd, HS.out, hi]), rfl⟩
end Go.Proofs.Ytefdhogmjijkgaa
