/- Contract of the specification's l8Is: is a number in a list. -/
import Derived.Test.YtkbkdlaknmgjpaaMB
import Derived.Test.YtkbkdlaknmgjpaaMC
import Derived.Test.YtkbkdlaknmgjpaaNewOne
import Derived.Lib.Hide
namespace Go.Proofs.Ytkbkdlaknmgjpaa
open Go.ChangeShapes Go.WideShapes Go.ChangeAt Go.RowKit
set_option maxHeartbeats 1000000 in
theorem l8Is_any (w : World) (v : Value) (zs : List Int) (h : Rd w v zs) (hn : zs.length ≤ 1048576) (n : Int) :
  Calls Try.prog 30 #[v, .int .i64 n] w fun e w' => e = .returned (.bool (isB zs n)) ∧ w' = w := by
 obtain ⟨a, c, rfl, h⟩ := h
 go_enter Try.func30, Try.ntmps30
 go_wp2
 go_loop [5] (fun i => ∃ k : Nat, k ≤ zs.length ∧ i = .int .i64 k ∧ Hid (∀ i, i < k → zs.getD i 0 ≠ n)) (fun i => zs.length - (intOf i).toNat)
 case atStart => exact ⟨0, Nat.zero_le _, rfl, Lib.hid (fun i hi => absurd hi (Nat.not_lt_zero _))⟩
 case round =>
  obtain ⟨k, hk, rfl, hno⟩ := hrel
  by_cases hlt : k < zs.length
  ·
   rcases h with h | ⟨b, o, rfl, hb, hc⟩
   ·
    exfalso; rw [h] at hlt; simp at hlt
   have d1 := hc k hlt
   obtain ⟨p, hp⟩ : ∃ p, p = zs.getD k 0 := ⟨_, rfl⟩
   have HP := Lib.hid hp
   rw [← hp] at d1
   clear hc hp
   by_cases he : p = n
   ·
    have hb : (p == n) = true := by simp [he]
    have HE : Hid (isB zs n = true) := Lib.hid (isB_at hlt (by rw [← HP.out]; exact he))
    clear he
    go_wp2
    go_ret
    exact ⟨by rw [HE.out]; rfl, rfl⟩
   ·
    have hb : (p == n) = false := by simp [he]
    have HE : Hid (∀ i, i < k + 1 → zs.getD i 0 ≠ n) := Lib.hid (fun i hi => by
     by_cases e : i = k
     ·
      subst e; rw [← HP.out]; exact he
     ·
      exact hno.out i (by omega))
    clear he
    go_wp2
    go_round
    case rel => exact ⟨k + 1, by omega, by go_num, HE⟩
    case measure => simp [intOf]; omega
  ·
   obtain rfl : k = zs.length := by omega
   have HE : Hid (isB zs n = false) := Lib.hid (isB_take hno.out)
   go_wp2
   go_ret
   exact ⟨by rw [HE.out]; rfl, rfl⟩
end Go.Proofs.Ytkbkdlaknmgjpaa
