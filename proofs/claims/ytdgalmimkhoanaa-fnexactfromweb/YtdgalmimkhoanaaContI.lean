/- Contracts of slices.Index and slices.Contains of a list of numbers. -/
import Derived.Test.YtdgalmimkhoanaaIsS
import Derived.Outline
import Derived.Lib.Hide
namespace Go.Proofs.Ytdgalmimkhoanaa
open Go.ChangeShapes Go.WideShapes Go.ChangeAt Go.RowKit

set_option maxHeartbeats 1000000 in
theorem index_any (w : World) (v : Value) (zs : List Int) (h : Rd w v zs) (hn : zs.length ≤ 1048576) (n : Int) :
    Calls Try.prog 86 #[v, .int .i64 n] w fun e w' => ∃ r : Int, e = .returned (.int .i64 r) ∧ Hid (decide (0 ≤ r) = isB zs n) ∧ w' = w := by
  obtain ⟨a, c, rfl, h⟩ := h
  go_enter Try.func86, Try.ntmps86
  go_wp2
  go_loop [8] (fun i => ∃ k : Nat, k ≤ zs.length ∧ i = .int .i64 k ∧ Hid (∀ i, i < k → zs.getD i 0 ≠ n)) (fun i => zs.length - (intOf i).toNat)
  case atStart => exact ⟨0, Nat.zero_le _, rfl, Lib.hid (fun i hi => absurd hi (Nat.not_lt_zero _))⟩
  case round =>
    obtain ⟨k, hk, rfl, hno⟩ := hrel
    by_cases hlt : k < zs.length
    · rcases h with h | ⟨b, o, rfl, hb, hc⟩
      · exfalso; rw [h] at hlt; simp at hlt
      have d1 := hc k hlt
      obtain ⟨p, hp⟩ : ∃ p, p = zs.getD k 0 := ⟨_, rfl⟩
      have HP := Lib.hid hp
      rw [← hp] at d1
      clear hc hp
      have i1 : (0 : Int) ≤ (k : Int) := Int.natCast_nonneg _
      have i2 : (k : Int) < (zs.length : Int) := by omega
      by_cases he : p = n
      · have hb : (n == p) = true := by simp [he]
        have HE : Hid (isB zs n = true) := Lib.hid (isB_at hlt (by rw [← HP.out]; exact he))
        clear he
        go_wp2
        go_ret
        exact ⟨k, rfl, Lib.hid (by rw [HE.out]; simp), rfl⟩
      · have hb : (n == p) = false := by simp; exact fun h => he h.symm
        have HE : Hid (∀ i, i < k + 1 → zs.getD i 0 ≠ n) := Lib.hid (fun i hi => by
          by_cases e : i = k
          · subst e; rw [← HP.out]; exact he
          · exact hno.out i (by omega))
        clear he
        go_wp2
        go_round
        case rel => exact ⟨k + 1, by omega, by go_num, HE⟩
        case measure => simp [intOf]; omega
    · obtain rfl : k = zs.length := by omega
      have HE : Hid (isB zs n = false) := Lib.hid (isB_take hno.out)
      go_wp2
      go_ret
      exact ⟨-1, rfl, Lib.hid (by rw [HE.out]; rfl), rfl⟩
theorem contains_any (w : World) (v : Value) (zs : List Int) (h : Rd w v zs) (hn : zs.length ≤ 1048576) (n : Int) :
    Calls Try.prog 52 #[v, .int .i64 n] w fun e w' => e = .returned (.bool (isB zs n)) ∧ w' = w := by
  go_enter Try.func52, Try.ntmps52
  go_wp2_with fail
  refine (index_any _ _ _ h hn _).mono ?_
  rintro e w1 ⟨r, rfl, hr, rfl⟩
  go_wp2
  go_ret
  exact ⟨by rw [← hr.out]; rfl, rfl⟩
end Go.Proofs.Ytdgalmimkhoanaa
