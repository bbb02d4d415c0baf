/- Contract of the specification's SetOk (split off SetsA). -/
import Derived.Test.YtkbkdlaknmgjpaaGreatRows
import Derived.Test.YtkbkdlaknmgjpaaGreatMA
import Derived.Test.YtkbkdlaknmgjpaaGreatMB
import Derived.OpenShut
namespace Go.Proofs.YtkbkdlaknmgjpaaGreat
open Go.ChangeShapes Go.WideShapes Go.ChangeAt Go.RowKit

theorem specSetOk_any (n s : Int) (w : World) :
    Calls Tryz.prog 119 #[.int .i64 n, .int .i64 s] w fun e w' => e = .returned (.bool (okB n s)) ∧ w' = w := by
  cases hn : inB n 0 12
  · go_enter Tryz.func119, Tryz.ntmps119
    go_wp2_with (go_at_call 109; refine (l1In_any _ _ _ _).mono ?_; rintro e w' ⟨rfl, rfl⟩)
    go_ret
    refine ⟨ret_bool ?_, rfl⟩
    simp [inB] at hn
    rw [Bool.eq_iff_iff]; unfold okB; simp; omega
  · have hn' := hn
    simp only [inB, decide_eq_true_eq] at hn'
    obtain ⟨n1, n2⟩ := hn'
    have hp := pow_le12 n.toNat (by omega)
    go_enter Tryz.func119, Tryz.ntmps119
    go_wp2_with (go_at_call 109; refine (l1In_any _ _ _ _).mono ?_; rintro e w' ⟨rfl, rfl⟩)
    go_ret
    refine ⟨ret_bool ?_, rfl⟩
    rw [Bool.eq_iff_iff]; unfold okB inB; simp; omega
end Go.Proofs.YtkbkdlaknmgjpaaGreat
