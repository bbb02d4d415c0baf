/- Contracts of the small functions on sets, of the specification and of the program: each answers as a plain function says and turns nothing. -/
import Derived.Test.YtgclnfhkjnomaabRows
import Derived.Test.YtgclnfhkjnomaabPlain
import Derived.OpenShut
namespace Go.Proofs.Ytgclnfhkjnomaab
open Go.ChangeShapes Go.WideShapes Go.ChangeAt Go.RowKit

theorem l1In_any (x lo hi : Int) (w : World) :
    Calls Try.prog 32 #[.int .i64 x, .int .i64 lo, .int .i64 hi] w fun e w' => e = .returned (.bool (inB x lo hi)) ∧ w' = w := by
  go_enter Try.func32, Try.ntmps32
  go_wp2
  all_goals
    go_ret
    exact ⟨ret_bool (by rw [Bool.eq_iff_iff]; unfold inB; simp; omega), rfl⟩
theorem inSize_any (x : Int) (w : World) :
    Calls Try.prog 34 #[.int .i64 x] w fun e w' => e = .returned (.bool (inB x 0 11)) ∧ w' = w := by
  go_enter Try.func34, Try.ntmps34
  go_wp2
  all_goals
    go_ret
    exact ⟨ret_bool (by rw [Bool.eq_iff_iff]; unfold inB; simp; omega), rfl⟩
theorem isOf_any (n s : Int) (w : World) :
    Calls Try.prog 33 #[.int .i64 s, .int .i64 n] w fun e w' => e = .returned (.bool (okB n s)) ∧ w' = w := by
  go_enter Try.func33, Try.ntmps33
  go_wp2
  · go_ret
    exact ⟨ret_bool (by rw [wrap64_pow n (by assumption) (by assumption), Bool.eq_iff_iff]; unfold okB; simp; omega), rfl⟩
  all_goals
    go_ret
    exact ⟨ret_bool (by rw [Bool.eq_iff_iff]; unfold okB; simp; omega), rfl⟩
theorem l1Has_any (s i : Int) (w : World) (h1 : 0 ≤ i) (h2 : i ≤ 11) :
    Calls Try.prog 31 #[.int .i64 s, .int .i64 i] w fun e w' => e = .returned (.bool (bitB s i)) ∧ w' = w := by
  go_enter Try.func31, Try.ntmps31
  go_wp2
  go_ret
  exact ⟨rfl, rfl⟩
theorem has_any (s i : Int) (w : World) :
    Calls Try.prog 21 #[.int .i64 s, .int .i64 i] w fun e w' => e = .returned (.bool (inSetB s i)) ∧ w' = w := by
  have key : okB 12 s = inB s 0 4095 := by rw [Bool.eq_iff_iff]; unfold okB inB; simp; omega
  cases hs : inB s 0 4095
  · have hk : okB 12 s = false := key.trans hs
    clear key
    go_enter Try.func21, Try.ntmps21
    go_wp2_with (go_at_call 33; refine (isOf_any _ _ _).mono ?_; rintro e w' ⟨rfl, rfl⟩)
    go_ret
    exact ⟨ret_bool (by simp [inSetB, hs]), rfl⟩
  · have hk : okB 12 s = true := key.trans hs
    clear key
    cases hi : inB i 0 11
    · go_enter Try.func21, Try.ntmps21
      go_wp2_with (first | (go_at_call 33; refine (isOf_any _ _ _).mono ?_; rintro e w' ⟨rfl, rfl⟩) | (go_at_call 34; refine (inSize_any _ _).mono ?_; rintro e w' ⟨rfl, rfl⟩))
      go_ret
      exact ⟨ret_bool (by simp [inSetB, hi]), rfl⟩
    · have hi' := hi
      simp only [inB, decide_eq_true_eq] at hi'
      obtain ⟨i1, i2⟩ := hi'
      go_enter Try.func21, Try.ntmps21
      go_wp2_with (first | (go_at_call 33; refine (isOf_any _ _ _).mono ?_; rintro e w' ⟨rfl, rfl⟩) | (go_at_call 34; refine (inSize_any _ _).mono ?_; rintro e w' ⟨rfl, rfl⟩))
      go_ret
      exact ⟨ret_bool (by simp [inSetB, hs, hi, bitB]), rfl⟩
theorem specSetOk_any (n s : Int) (w : World) :
    Calls Try.prog 20 #[.int .i64 n, .int .i64 s] w fun e w' => e = .returned (.bool (okB n s)) ∧ w' = w := by
  cases hn : inB n 0 12
  · go_enter Try.func20, Try.ntmps20
    go_wp2_with (go_at_call 32; refine (l1In_any _ _ _ _).mono ?_; rintro e w' ⟨rfl, rfl⟩)
    go_ret
    refine ⟨ret_bool ?_, rfl⟩
    simp [inB] at hn
    rw [Bool.eq_iff_iff]; unfold okB; simp; omega
  · have hn' := hn
    simp only [inB, decide_eq_true_eq] at hn'
    obtain ⟨n1, n2⟩ := hn'
    have hp := pow_le12 n.toNat (by omega)
    go_enter Try.func20, Try.ntmps20
    go_wp2_with (go_at_call 32; refine (l1In_any _ _ _ _).mono ?_; rintro e w' ⟨rfl, rfl⟩)
    go_ret
    refine ⟨ret_bool ?_, rfl⟩
    rw [Bool.eq_iff_iff]; unfold okB inB; simp; omega
theorem implInSet_any (s i : Int) (w : World) :
    Calls Try.prog 10 #[.int .i64 s, .int .i64 i] w fun e w' => e = .returned (.bool (inSetB s i)) ∧ w' = w := by
  go_enter Try.func10, Try.ntmps10
  go_wp2_with (go_at_call 21; refine (has_any _ _ _).mono ?_; rintro e w' ⟨rfl, rfl⟩)
  go_ret
  exact ⟨rfl, rfl⟩
end Go.Proofs.Ytgclnfhkjnomaab
