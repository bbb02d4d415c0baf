/- Contract of the specification's InSet. -/
import Derived.Test.YtfmcnkjpgaapaaaGreatME
import Derived.Test.YtfmcnkjpgaapaaaGreatMB
namespace Go.Proofs.YtfmcnkjpgaapaaaGreat
open Go.ChangeShapes Go.WideShapes Go.ChangeAt Go.RowKit

theorem specInSet_any (s i : Int) (w : World) :
    Calls Tryz.prog 18 #[.int .i64 s, .int .i64 i] w fun e w' => e = .returned (.bool (inSetB s i)) ∧ w' = w := by
  cases hi : inB i 0 11
  · go_enter Tryz.func18, Tryz.ntmps18
    go_wp2_with (go_at_call 46; refine (l1In_any _ _ _ _).mono ?_; rintro e w' ⟨rfl, rfl⟩)
    go_ret
    exact ⟨ret_bool (by simp [inSetB, hi]), rfl⟩
  · have hi' := hi
    simp only [inB, decide_eq_true_eq] at hi'
    obtain ⟨i1, i2⟩ := hi'
    cases hs : inB s 0 4095
    · go_enter Tryz.func18, Tryz.ntmps18
      go_wp2_with (go_at_call 46; refine (l1In_any _ _ _ _).mono ?_; rintro e w' ⟨rfl, rfl⟩)
      go_ret
      exact ⟨ret_bool (by simp [inSetB, hs]), rfl⟩
    · go_enter Tryz.func18, Tryz.ntmps18
      go_wp2_with (first | (go_at_call 46; refine (l1In_any _ _ _ _).mono ?_; rintro e w' ⟨rfl, rfl⟩) | (go_at_call 47; refine (l1Has_any _ _ _ i1 i2).mono ?_; rintro e w' ⟨rfl, rfl⟩))
      go_ret
      exact ⟨ret_bool (by simp [inSetB, hi, hs]), rfl⟩
end Go.Proofs.YtfmcnkjpgaapaaaGreat
