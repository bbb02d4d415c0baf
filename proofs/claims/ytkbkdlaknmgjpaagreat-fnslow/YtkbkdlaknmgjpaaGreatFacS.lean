/- Contract of the specification's l9Factorial. -/
import Derived.Test.YtkbkdlaknmgjpaaGreatME
import Derived.Lib.Hide
namespace Go.Proofs.YtkbkdlaknmgjpaaGreat
open Go.ChangeShapes Go.WideShapes Go.ChangeAt Go.RowKit

set_option maxHeartbeats 1000000 in
theorem l9Factorial_any (w : World) (n : Nat) (hn : n ≤ 12) :
    Calls Tryz.prog 183 #[.int .i64 n] w fun e w' => e = .returned (.int .i64 (fac n)) ∧ w' = w := by
  go_enter Tryz.func183, Tryz.ntmps183
  go_wp2
  go_loopw [3, 4] (fun x i wr => ∃ k : Nat, 1 ≤ k ∧ (k ≤ n ∨ k = 1) ∧ x = .int .i64 (fac k) ∧ i = .int .i64 ((k : Int) + 1) ∧ wr = w) (fun _ i _ => (n + 2 - (intOf i).toNat))
  case atStart => exact ⟨1, Nat.le_refl _, .inr rfl, rfl, rfl, rfl⟩
  case round =>
    obtain ⟨k, h1, hk, rfl, rfl, rfl⟩ := hrel
    by_cases hlt : k + 1 ≤ n
    · have f0 := fac_pos k
      have f1 := fac_top (n := k) (by omega)
      have g1 := fac_top (n := k + 1) (by omega)
      have g0 := fac_pos (k + 1)
      have HN : Hid (fac (k + 1) = fac k * ((k : Int) + 1)) := Lib.hid rfl
      rw [HN.out] at g0 g1
      generalize fac k = x at f0 f1 HN g0 g1
      have i2 : (k : Int) + 1 ≤ (n : Int) := by omega
      have i3 : (n : Int) ≤ 12 := by omega
      have i4 : (0 : Int) ≤ (k : Int) := Int.natCast_nonneg _
      go_wp2
      go_roundw
      case rel => exact ⟨k + 1, by omega, .inl hlt, by rw [HN.out], by go_num, trivial⟩
      case measure => simp [intOf]; omega
    · have HE : Hid (fac k = fac n) := Lib.hid (by
        by_cases e : k = n
        · rw [e]
        · have e1 : k = 1 := by omega
          have e0 : n = 0 := by omega
          rw [e1, e0]; rfl)
      have i2 : (n : Int) < (k : Int) + 1 := by omega
      go_wp2
      go_ret
      exact ⟨by rw [← HE.out]; rfl, rfl⟩
end Go.Proofs.YtkbkdlaknmgjpaaGreat
