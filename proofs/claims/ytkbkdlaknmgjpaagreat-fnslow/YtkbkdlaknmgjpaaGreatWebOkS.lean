/- Contract of the specification's WebOk (split off WebOk). -/
import Derived.Test.YtkbkdlaknmgjpaaGreatSetOkS
import Derived.Test.YtkbkdlaknmgjpaaGreatMB
import Derived.Test.YtkbkdlaknmgjpaaGreatMA
import Derived.Outline
namespace Go.Proofs.YtkbkdlaknmgjpaaGreat
open Go.ChangeShapes Go.WideShapes Go.ChangeAt Go.RowKit

set_option maxHeartbeats 400000 in
theorem specWebOk_any (w : World) (v : Value) (zs : List Int) (h : Rd w v zs) (hn : zs.length ≤ 1048576) :
    Calls Tryz.prog 64 #[v] w fun e w' => e = .returned (.bool (webB zs)) ∧ w' = w := by
  obtain ⟨a, c, rfl, h⟩ := h
  go_enter Tryz.func64, Tryz.ntmps64
  go_wp2
  go_loop [4] (fun i => ∃ k : Nat, k ≤ zs.length ∧ i = .int .i64 k ∧ ∀ j, j < k → okB zs.length (zs.getD j 0) = true) (fun i => zs.length - (intOf i).toNat)
  case atStart => exact ⟨0, Nat.zero_le _, rfl, fun j hj => by omega⟩
  case round =>
    obtain ⟨k, hk, rfl, hall⟩ := hrel
    have HA : Hid (∀ j, j < k → okB zs.length (zs.getD j 0) = true) := hall
    clear hall
    by_cases hlt : k < zs.length
    · rcases h with h | ⟨b, o, rfl, hb, hc⟩
      · exfalso; rw [h] at hlt; simp at hlt
      have d0 := hc k hlt
      obtain ⟨p, hp⟩ : ∃ p, p = zs.getD k 0 := ⟨_, rfl⟩
      have HP : Hid (p = zs.getD k 0) := hp
      rw [← hp] at d0
      clear hc hp
      cases hok : okB zs.length p
      · go_wp2_with (go_at_call 119; refine (specSetOk_any _ _ _).mono ?_; rintro e w' ⟨rfl, rfl⟩)
        go_ret
        exact ⟨ret_bool (webB_bad hlt (by rw [← HP.out]; exact hok)).symm, rfl⟩
      · go_wp2_with (go_at_call 119; refine (specSetOk_any _ _ _).mono ?_; rintro e w' ⟨rfl, rfl⟩)
        go_round
        case rel =>
          refine ⟨k + 1, by omega, by go_num, fun j hj => ?_⟩
          by_cases e : j = k
          · subst e; rw [← HP.out]; exact hok
          · exact HA.out j (by omega)
        case measure => simp [intOf]; omega
    · have hw : webB zs = true := webB_all fun i hi => HA.out i (by omega)
      have hl := webB_len hw
      have HW : Hid (webB zs = true) := hw
      clear hw
      go_wp2
      go_ret
      exact ⟨ret_bool (by rw [HW.out]; simp; omega), rfl⟩
end Go.Proofs.YtkbkdlaknmgjpaaGreat
