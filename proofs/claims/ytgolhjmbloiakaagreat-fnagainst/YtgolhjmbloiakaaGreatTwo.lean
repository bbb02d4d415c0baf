/- Contract of the specification's test on two webs. -/
import Derived.Test.YtgolhjmbloiakaaGreatWebOkS
import Derived.Test.YtgolhjmbloiakaaGreatL1Has
namespace Go.Proofs.YtgolhjmbloiakaaGreat
open Go.ChangeShapes Go.WideShapes Go.ChangeAt Go.RowKit

theorem l2Two_any (w : World) (v1 v2 : Value) (xs ys : List Int) (h1 : Rd w v1 xs) (h2 : Rd w v2 ys) (n1 : xs.length ≤ 1048576) (n2 : ys.length ≤ 1048576) :
    Calls Tryz.prog 32 #[v1, v2] w fun e w' => e = .returned (.bool (twoB xs ys)) ∧ w' = w := by
  have r1 := h1
  have r2 := h2
  obtain ⟨a1, c1, rfl, _⟩ := r1
  obtain ⟨a2, c2, rfl, _⟩ := r2
  cases ha : webB xs
  · go_enter Tryz.func32, Tryz.ntmps32
    go_wp2_with (go_at_call 34; refine (specWebOk_any _ _ _ h1 n1).mono ?_; rintro e w' ⟨rfl, rfl⟩)
    go_ret
    exact ⟨ret_bool (by simp [twoB, ha]), rfl⟩
  · cases hb : webB ys
    · go_enter Tryz.func32, Tryz.ntmps32
      go_wp2_with fail
      refine (specWebOk_any _ _ _ h1 n1).mono ?_
      rintro e w' ⟨rfl, rfl⟩
      go_wp2_with fail
      refine (specWebOk_any _ _ _ h2 n2).mono ?_
      rintro e w' ⟨rfl, rfl⟩
      go_wp2
      go_ret
      exact ⟨ret_bool (by simp [twoB, hb]), rfl⟩
    · go_enter Tryz.func32, Tryz.ntmps32
      go_wp2_with fail
      refine (specWebOk_any _ _ _ h1 n1).mono ?_
      rintro e w' ⟨rfl, rfl⟩
      go_wp2_with fail
      refine (specWebOk_any _ _ _ h2 n2).mono ?_
      rintro e w' ⟨rfl, rfl⟩
      go_wp2
      go_ret
      refine ⟨ret_bool ?_, rfl⟩
      rw [Bool.eq_iff_iff, twoB_iff]
      simp [ha, hb]
      omega
end Go.Proofs.YtgolhjmbloiakaaGreat
