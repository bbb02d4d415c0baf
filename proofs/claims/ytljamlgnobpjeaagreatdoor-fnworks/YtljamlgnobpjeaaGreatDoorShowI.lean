/- Contract of the program's ShowDeed: the text of a right deed, the empty text of others. -/
import Derived.Test.YtljamlgnobpjeaaGreatDoorDeedOkI
import Derived.Test.YtljamlgnobpjeaaGreatDoorMB
import Derived.Test.YtljamlgnobpjeaaGreatDoorShelf
import Derived.Lib.Hide
namespace Go.Proofs.YtljamlgnobpjeaaGreatDoor
open Go.ChangeShapes Go.WideShapes Go.ChangeAt Go.RowKit

theorem kindWord_any (k : Int) (w : World) :
    Calls Tryz.prog 60 #[.int .i64 k] w fun e w' => e = .returned (strV (kindL k)) ∧ w' = w := by
  have hk : k = 1 ∨ k = 2 ∨ k = 3 ∨ k = 4 ∨ (¬ k = 1 ∧ ¬ k = 2 ∧ ¬ k = 3 ∧ ¬ k = 4) := by omega
  rcases hk with rfl | rfl | rfl | rfl | ⟨h1, h2, h3, h4⟩
  all_goals
    go_enter Tryz.func60, Tryz.ntmps60
    go_wp2
    go_ret
    first | exact ⟨rfl, rfl⟩ | exact ⟨by simp [kindL, h1, h2, h3, h4], rfl⟩
theorem dig_small {n : Int} (h0 : 0 ≤ n) (h1 : n ≤ 9) : ∃ i : Nat, n = i ∧ i < 100 ∧ Lib.decDigits i = digL n := by
  refine ⟨n.toNat, by omega, by omega, ?_⟩
  rw [Lib.decDigits, dif_pos (by omega)]
  rfl
theorem place_cut0 (w : World) : (Instr.slice 9 (.string ⟨#[120, 121, 122]⟩) (some (.int .i64 0)) (some (.int .i64 1)) none).run Tryz.prog w = .ok (.string ⟨#[120]⟩) w := by kernel_rfl
theorem place_cut1 (w : World) : (Instr.slice 9 (.string ⟨#[120, 121, 122]⟩) (some (.int .i64 1)) (some (.int .i64 2)) none).run Tryz.prog w = .ok (.string ⟨#[121]⟩) w := by kernel_rfl
theorem place_cut2 (w : World) : (Instr.slice 9 (.string ⟨#[120, 121, 122]⟩) (some (.int .i64 2)) (some (.int .i64 3)) none).run Tryz.prog w = .ok (.string ⟨#[122]⟩) w := by kernel_rfl
theorem place_cut {p : Int} (h0 : 0 ≤ p) (h1 : p ≤ 2) (w : World) :
    (Instr.slice 9 (.string ⟨#[120, 121, 122]⟩) (some (.int .i64 p)) (some (.int .i64 (p + 1))) none).run Tryz.prog w = .ok (strV (placeL p)) w := by
  have : p = 0 ∨ p = 1 ∨ p = 2 := by omega
  rcases this with rfl | rfl | rfl
  · exact place_cut0 w
  · exact place_cut1 w
  · exact place_cut2 w
set_option maxRecDepth 100000 in
set_option maxHeartbeats 4000000 in
theorem implShowDeed_any (k p v g : Int) (w : World) :
    Calls Tryz.prog 39 #[deedV k p v g] w fun e w' => e = .returned (strV (showD k p v g)) ∧ Keep w w' := by
  cases hd : deedB k p v g
  · go_enter Tryz.func39, Tryz.ntmps39
    go_wp2_with fail
    refine (implDeedOk_any _ _ _ _ _).mono ?_
    rintro e w1 ⟨rfl, k1⟩
    go_wp2
    go_ret
    exact ⟨by simp [showD, hd], ((Keep.refl w).alloc _).trans k1⟩
  · have hd' := hd
    simp only [deedB, decide_eq_true_eq] at hd'
    obtain ⟨⟨q1, q2⟩, ⟨p1, p2⟩, ⟨g1, g2⟩, h4, h5, h6, h7⟩ := hd'
    have hcut := place_cut p1 p2
    have hk : k = 1 ∨ k = 2 ∨ k = 3 ∨ k = 4 := by omega
    have Hshow : Hid (showD k p v g = showL k p v g) := by unfold showD; rw [if_pos hd]; exact Lib.hid rfl
    have lp : (placeL p).length = 1 := rfl
    have lk1 : (kindL 1).length = 4 := rfl
    have lk2 : (kindL 2).length = 5 := rfl
    have lk3 : (kindL 3).length = 4 := rfl
    have lk4 : (kindL 4).length = 4 := rfl
    rcases hk with rfl | rfl | rfl | rfl
    · have hv : v = 0 := by omega
      subst hv
      clear h4 h5 h6 h7
      by_cases hg : g = 0
      · subst hg
        go_enter Tryz.func39, Tryz.ntmps39
        go_wp2_with fail
        refine (implDeedOk_any _ _ _ _ _).mono ?_
        rintro e w1 ⟨rfl, k1⟩
        obtain ⟨hs, c0, c1, c2, c3⟩ := box_deed k1
        go_wp2_with (first | (go_at_call 60; refine (kindWord_any _ _).mono ?_; rintro e w' ⟨rfl, rfl⟩))
        go_ret
        refine ⟨?_, ((Keep.refl w).alloc _).trans k1⟩
        rw [Hshow.out]
        exact ret_bytes (by simp [showL, partP, partV, partG])
      · obtain ⟨gi, rfl, gl, gd⟩ := dig_small g1 g2
        have HG : ¬ gi = 0 := by omega
        have hgb : ((gi : Int) != 0) = true := by simpa using hg
        have lg : (digL gi).length = 1 := rfl
        go_enter Tryz.func39, Tryz.ntmps39
        go_wp2_with fail
        refine (implDeedOk_any _ _ _ _ _).mono ?_
        rintro e w1 ⟨rfl, k1⟩
        obtain ⟨hs, c0, c1, c2, c3⟩ := box_deed k1
        go_wp2_with (first | (go_at_call 59; refine (Tryz.strconv_FormatInt_10_small gi gl _).mono ?_; rw [gd]; rintro e w' ⟨rfl, rfl⟩) | (go_at_call 60; refine (kindWord_any _ _).mono ?_; rintro e w' ⟨rfl, rfl⟩))
        go_ret
        refine ⟨?_, ((Keep.refl w).alloc _).trans k1⟩
        rw [Hshow.out]
        exact ret_bytes (by simp [showL, partP, partV, partG, HG])
    · obtain ⟨v1, v2⟩ := h6 (.inl rfl)
      have hv0 : ¬ v = 0 := by omega
      obtain ⟨vi, rfl, vl, vd⟩ := dig_small (show 0 ≤ v by omega) v2
      have HV : ¬ vi = 0 := by omega
      have lv : (digL vi).length = 1 := rfl
      clear h4 h5 h6 h7
      by_cases hg : g = 0
      · subst hg
        go_enter Tryz.func39, Tryz.ntmps39
        go_wp2_with fail
        refine (implDeedOk_any _ _ _ _ _).mono ?_
        rintro e w1 ⟨rfl, k1⟩
        obtain ⟨hs, c0, c1, c2, c3⟩ := box_deed k1
        go_wp2_with (first | (go_at_call 59; refine (Tryz.strconv_FormatInt_10_small vi vl _).mono ?_; rw [vd]; rintro e w' ⟨rfl, rfl⟩) | (go_at_call 60; refine (kindWord_any _ _).mono ?_; rintro e w' ⟨rfl, rfl⟩))
        go_ret
        refine ⟨?_, ((Keep.refl w).alloc _).trans k1⟩
        rw [Hshow.out]
        exact ret_bytes (by simp [showL, partP, partV, partG, HV])
      · obtain ⟨gi, rfl, gl, gd⟩ := dig_small g1 g2
        have HG : ¬ gi = 0 := by omega
        have hgb : ((gi : Int) != 0) = true := by simpa using hg
        have lg : (digL gi).length = 1 := rfl
        go_enter Tryz.func39, Tryz.ntmps39
        go_wp2_with fail
        refine (implDeedOk_any _ _ _ _ _).mono ?_
        rintro e w1 ⟨rfl, k1⟩
        obtain ⟨hs, c0, c1, c2, c3⟩ := box_deed k1
        go_wp2_with (first | (go_at_call 59; refine (Tryz.strconv_FormatInt_10_small gi gl _).mono ?_; rw [gd]; rintro e w' ⟨rfl, rfl⟩) | (go_at_call 59; refine (Tryz.strconv_FormatInt_10_small vi vl _).mono ?_; rw [vd]; rintro e w' ⟨rfl, rfl⟩) | (go_at_call 60; refine (kindWord_any _ _).mono ?_; rintro e w' ⟨rfl, rfl⟩))
        go_ret
        refine ⟨?_, ((Keep.refl w).alloc _).trans k1⟩
        rw [Hshow.out]
        exact ret_bytes (by simp [showL, partP, partV, partG, HG, HV])
    · obtain ⟨v1, v2⟩ := h6 (.inr rfl)
      have hv0 : ¬ v = 0 := by omega
      obtain ⟨vi, rfl, vl, vd⟩ := dig_small (show 0 ≤ v by omega) v2
      have HV : ¬ vi = 0 := by omega
      have lv : (digL vi).length = 1 := rfl
      have hg : g = 0 := by omega
      subst hg
      clear h4 h5 h6 h7
      go_enter Tryz.func39, Tryz.ntmps39
      go_wp2_with fail
      refine (implDeedOk_any _ _ _ _ _).mono ?_
      rintro e w1 ⟨rfl, k1⟩
      obtain ⟨hs, c0, c1, c2, c3⟩ := box_deed k1
      go_wp2_with (first | (go_at_call 59; refine (Tryz.strconv_FormatInt_10_small vi vl _).mono ?_; rw [vd]; rintro e w' ⟨rfl, rfl⟩) | (go_at_call 60; refine (kindWord_any _ _).mono ?_; rintro e w' ⟨rfl, rfl⟩))
      go_ret
      refine ⟨?_, ((Keep.refl w).alloc _).trans k1⟩
      rw [Hshow.out]
      exact ret_bytes (by simp [showL, partP, partV, partG, HV])
    · have hv : v = 0 := by omega
      have hg : g = 0 := by omega
      subst hv hg
      clear h4 h5 h6 h7
      go_enter Tryz.func39, Tryz.ntmps39
      go_wp2_with fail
      refine (implDeedOk_any _ _ _ _ _).mono ?_
      rintro e w1 ⟨rfl, k1⟩
      obtain ⟨hs, c0, c1, c2, c3⟩ := box_deed k1
      go_wp2_with (first | (go_at_call 60; refine (kindWord_any _ _).mono ?_; rintro e w' ⟨rfl, rfl⟩))
      go_ret
      refine ⟨?_, ((Keep.refl w).alloc _).trans k1⟩
      rw [Hshow.out]
      exact ret_bytes (by simp [showL, partP, partV, partG])
end Go.Proofs.YtljamlgnobpjeaaGreatDoor
