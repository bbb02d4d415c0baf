/- Contract of the specification's l4Show: the text of a right deed. -/
import Derived.Test.YtljamlgnobpjeaaGreatDoorDeedOkS
import Derived.Test.YtljamlgnobpjeaaGreatDoorIntS
namespace Go.Proofs.YtljamlgnobpjeaaGreatDoor
open Go.ChangeShapes Go.WideShapes Go.ChangeAt Go.RowKit

theorem itoa_dig {n : Int} (h0 : 0 ≤ n) (h1 : n ≤ 9) : Lib.itoa n = digL n := by
  unfold Lib.itoa
  rw [if_neg (by omega), Lib.decDigits, dif_pos (by omega)]
  rfl
theorem l1Dig_any (n : Int) (w : World) (h0 : 0 ≤ n) (h1 : n ≤ 9) :
    Calls Tryz.prog 70 #[.int .i64 n] w fun e w' => e = .returned (strV (digL n)) ∧ Keep w w' := by
  rw [← itoa_dig h0 h1]
  exact l1Int_any n w (by omega) (by omega)
set_option maxRecDepth 100000 in
set_option maxHeartbeats 8000000 in
theorem l4Show_any (k p v g : Int) (w : World) (hd : deedB k p v g = true) :
    Calls Tryz.prog 52 #[deedV k p v g] w fun e w' => e = .returned (strV (showL k p v g)) ∧ Keep w w' := by
  have hd' := hd
  simp only [deedB, decide_eq_true_eq] at hd'
  obtain ⟨⟨q1, q2⟩, ⟨p1, p2⟩, ⟨g1, g2⟩, h4, h5, h6, h7⟩ := hd'
  have hk : k = 1 ∨ k = 2 ∨ k = 3 ∨ k = 4 := by omega
  have hp : p = 0 ∨ p = 1 ∨ p = 2 := by omega
  have lg : (digL g).length = 1 := rfl
  have lv : (digL v).length = 1 := rfl
  clear hd
  rcases hk with rfl | rfl | rfl | rfl
  · have hv : v = 0 := by omega
    subst hv
    clear h4 h5 h6 h7 q1 q2
    by_cases hg : g = 0
    · subst hg
      rcases hp with rfl | rfl | rfl
      all_goals
        go_enter Tryz.func52, Tryz.ntmps52
        go_wp2
        go_ret
        exact ⟨ret_bytes (by simp [showL, partP, partV, partG, kindL, placeL]), ((((Keep.refl w).alloc _).alloc _).alloc _)⟩
    · have hgb : (g != 0) = true := by simpa using hg
      rcases hp with rfl | rfl | rfl
      all_goals
        go_enter Tryz.func52, Tryz.ntmps52
        go_wp2_with fail
        refine (l1Dig_any _ _ (by omega) (by omega)).mono ?_
        rintro e w1 ⟨rfl, k1⟩
        have kb := Keep.trans (((Keep.refl _).alloc _).alloc _) k1
        obtain ⟨hs, c0, c1, c2, c3⟩ := box_deed kb
        go_wp2
        go_ret
        exact ⟨ret_bytes (by simp [showL, partP, partV, partG, kindL, placeL, hg]), (((Keep.refl w).alloc _).trans kb)⟩
  · obtain ⟨v1, v2⟩ := h6 (.inl rfl)
    have hv0 : ¬ v = 0 := by omega
    have hvb : (v != 0) = true := by simpa using hv0
    clear h4 h5 h6 h7 q1 q2
    by_cases hg : g = 0
    · subst hg
      rcases hp with rfl | rfl | rfl
      all_goals
        go_enter Tryz.func52, Tryz.ntmps52
        go_wp2_with fail
        refine (l1Dig_any _ _ (by omega) (by omega)).mono ?_
        rintro e w1 ⟨rfl, k1⟩
        have kb := Keep.trans (((Keep.refl _).alloc _).alloc _) k1
        obtain ⟨hs, c0, c1, c2, c3⟩ := box_deed kb
        go_wp2
        go_ret
        exact ⟨ret_bytes (by simp [showL, partP, partV, partG, kindL, placeL, hv0]), (((Keep.refl w).alloc _).trans kb)⟩
    · have hgb : (g != 0) = true := by simpa using hg
      rcases hp with rfl | rfl | rfl
      all_goals
        go_enter Tryz.func52, Tryz.ntmps52
        go_wp2_with fail
        refine (l1Dig_any _ _ (by omega) (by omega)).mono ?_
        rintro e w1 ⟨rfl, k1⟩
        have kb := Keep.trans (((Keep.refl _).alloc _).alloc _) k1
        obtain ⟨hs, c0, c1, c2, c3⟩ := box_deed kb
        go_wp2_with fail
        refine (l1Dig_any _ _ (by omega) (by omega)).mono ?_
        rintro e w2 ⟨rfl, k2⟩
        go_wp2
        go_ret
        exact ⟨ret_bytes (by simp [showL, partP, partV, partG, kindL, placeL, hv0, hg]), ((((Keep.refl w).alloc _).trans kb).trans k2)⟩
  · obtain ⟨v1, v2⟩ := h6 (.inr rfl)
    have hv0 : ¬ v = 0 := by omega
    have hvb : (v != 0) = true := by simpa using hv0
    have hg : g = 0 := by omega
    subst hg
    clear h4 h5 h6 h7 q1 q2
    rcases hp with rfl | rfl | rfl
    all_goals
      go_enter Tryz.func52, Tryz.ntmps52
      go_wp2_with fail
      refine (l1Dig_any _ _ (by omega) (by omega)).mono ?_
      rintro e w1 ⟨rfl, k1⟩
      have kb := Keep.trans (((Keep.refl _).alloc _).alloc _) k1
      obtain ⟨hs, c0, c1, c2, c3⟩ := box_deed kb
      go_wp2
      go_ret
      exact ⟨ret_bytes (by simp [showL, partP, partV, partG, kindL, placeL, hv0]), (((Keep.refl w).alloc _).trans kb)⟩
  · have hv : v = 0 := by omega
    have hg : g = 0 := by omega
    have hp0 : p = 0 := by omega
    subst hv hg hp0
    clear h4 h5 h6 h7 q1 q2 hp
    go_enter Tryz.func52, Tryz.ntmps52
    go_wp2
    go_ret
    exact ⟨ret_bytes (by simp [showL, partP, partV, partG, kindL]), (((Keep.refl w).alloc _).alloc _)⟩
end Go.Proofs.YtljamlgnobpjeaaGreatDoor
