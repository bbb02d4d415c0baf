/- Contract of the program's test on two webs. -/
import Derived.Test.YtgclnfhkjnomaabWebOk
namespace Go.Proofs.Ytgclnfhkjnomaab
open Go.ChangeShapes Go.WideShapes Go.ChangeAt Go.RowKit

theorem areAlike_any (w : World) (v1 v2 : Value) (xs ys : List Int) (h1 : Rd w v1 xs) (h2 : Rd w v2 ys) (n1 : xs.length ≤ 1048576) (n2 : ys.length ≤ 1048576) :
    Calls Try.prog 29 #[v1, v2] w fun e w' => e = .returned (.bool (twoB xs ys)) ∧ w' = w := by
  have r1 := h1
  have r2 := h2
  obtain ⟨a1, c1, rfl, _⟩ := r1
  obtain ⟨a2, c2, rfl, _⟩ := r2
  by_cases hl : xs.length = ys.length
  · have hlb : ((xs.length : Int) == (ys.length : Int)) = true := by simp [hl]
    have HL : Hid (xs.length = ys.length) := hl
    clear hl
    cases ha : webB xs
    · go_enter Try.func29, Try.ntmps29
      go_wp2_with fail
      refine (isRight_any _ _ _ h1 n1).mono ?_
      rintro e w' ⟨rfl, rfl⟩
      go_wp2
      go_ret
      exact ⟨ret_bool (by simp [twoB, ha]), rfl⟩
    · go_enter Try.func29, Try.ntmps29
      go_wp2_with fail
      refine (isRight_any _ _ _ h1 n1).mono ?_
      rintro e w' ⟨rfl, rfl⟩
      go_wp2_with fail
      refine (isRight_any _ _ _ h2 n2).mono ?_
      rintro e w' ⟨rfl, rfl⟩
      go_wp2
      go_ret
      exact ⟨ret_bool (by simp [twoB, ha, HL.out]), rfl⟩
  · have hlb : ((xs.length : Int) == (ys.length : Int)) = false := by simp; omega
    have HL : Hid (¬ xs.length = ys.length) := hl
    clear hl
    go_enter Try.func29, Try.ntmps29
    go_wp2
    go_ret
    exact ⟨ret_bool (by simp [twoB, HL.out]), rfl⟩
end Go.Proofs.Ytgclnfhkjnomaab
