/- Contract of the program's ReadDeed: the deed of which this is the text, and whether there is one. -/
import Derived.Test.YtljamlgnobpjeaaGreatDoorGuessI
namespace Go.Proofs.YtljamlgnobpjeaaGreatDoor
open Go.ChangeShapes Go.WideShapes Go.ChangeAt Go.RowKit

set_option maxRecDepth 100000 in
set_option maxHeartbeats 1000000 in
theorem implReadDeed_any (l : List UInt8) (w : World) (hl : l.length ≤ 1048576) (hw : LibW w) :
    Calls Tryz.prog 48 #[strV l] w fun e w' => e = .returned (readV (fitI l) (gIk l) (gIp l) (gIv l) (gIg l)) ∧ Keep w w' := by
  obtain ⟨k, hk⟩ : ∃ k, k = gIk l := ⟨_, rfl⟩
  obtain ⟨p, hp⟩ : ∃ p, p = gIp l := ⟨_, rfl⟩
  obtain ⟨v, hv⟩ : ∃ v, v = gIv l := ⟨_, rfl⟩
  obtain ⟨g, hg⟩ : ∃ g, g = gIg l := ⟨_, rfl⟩
  have HF : Hid (fitI l = fits l k p v g) := Lib.hid (by unfold fitI; rw [hk, hp, hv, hg])
  have HG : Hid (∀ w : World, LibW w → Calls Tryz.prog 69 #[strV l] w fun e w' => e = .returned (deedV k p v g) ∧ Keep w w') := Lib.hid (by rw [hk, hp, hv, hg]; exact fun w hw => guessed_any l w hl hw)
  rw [← hk, ← hp, ← hv, ← hg]
  clear hk hp hv hg
  cases hd : deedB k p v g
  · have HR : Hid (readV (fitI l) k p v g = .tuple #[deedV 0 0 0 0, .bool false]) := Lib.hid (by rw [HF.out]; simp [fits, hd, readV])
    go_enter Tryz.func48, Tryz.ntmps48
    go_wp2_with fail
    refine (HG.out _ (hw.keep ((Keep.refl _).alloc _))).mono ?_
    rintro e w1 ⟨rfl, k1⟩
    go_wp2_with fail
    refine (implDeedOk_any _ _ _ _ _).mono ?_
    rintro e w2 ⟨rfl, k2⟩
    have hR : St w w2 w.heap.size 0 0 0 0 := St.keep (St.start 0 0 0 0) ((k1.alloc _).trans k2)
    obtain ⟨r0, r1, r2, r3⟩ := hR.cells
    have g0 := hR.free 0
    have g1 := hR.free 1
    have g2 := hR.free 2
    have g3 := hR.free 3
    go_wp2
    have hZ := (((hR.set0 0).set1 0).set2 0).set3 0
    refine bodyPost_ret (results_row_tmp (by rfl) _ _ w.heap.size _ _ (0, 0) _ (.bool false) rfl hZ.1 rfl Tryz.underlying53 rfl (by kernel_rfl)) rfl ?_
    exact ⟨by rw [HR.out], hZ.keep1⟩
  · have HS : Hid (showD k p v g = showL k p v g) := Lib.hid (by unfold showD; rw [if_pos hd])
    by_cases hsh : showL k p v g = l
    · have HR : Hid (readV (fitI l) k p v g = .tuple #[deedV k p v g, .bool true]) := Lib.hid (by rw [HF.out]; simp [fits, hd, readV, hsh])
      have hshb : (showL k p v g == l) = true := by simpa using hsh
      clear hsh
      go_enter Tryz.func48, Tryz.ntmps48
      go_wp2_with fail
      refine (HG.out _ (hw.keep ((Keep.refl _).alloc _))).mono ?_
      rintro e w1 ⟨rfl, k1⟩
      go_wp2_with fail
      refine (implDeedOk_any _ _ _ _ _).mono ?_
      rintro e w2 ⟨rfl, k2⟩
      obtain ⟨_, t0, t1, t2, t3⟩ := box_deed k2
      go_wp2_with fail
      refine (implShowDeed_any _ _ _ _ _).mono ?_
      rw [HS.out]
      rintro e w3 ⟨rfl, k3⟩
      obtain ⟨_, x0, x1, x2, x3⟩ := box_deed (k2.trans k3)
      have hR : St w w3 w.heap.size 0 0 0 0 := St.keep (St.start 0 0 0 0) (((k1.alloc _).trans k2).trans k3)
      obtain ⟨r0, r1, r2, r3⟩ := hR.cells
      have g0 := hR.free 0
      have g1 := hR.free 1
      have g2 := hR.free 2
      have g3 := hR.free 3
      go_wp2
      have hZ := (((hR.set0 k).set1 p).set2 v).set3 g
      refine bodyPost_ret (results_row_tmp (by rfl) _ _ w.heap.size _ _ (0, 0) _ (.bool true) rfl hZ.1 rfl Tryz.underlying53 rfl (by kernel_rfl)) rfl ?_
      exact ⟨by rw [HR.out], hZ.keep1⟩
    · have HR : Hid (readV (fitI l) k p v g = .tuple #[deedV 0 0 0 0, .bool false]) := Lib.hid (by rw [HF.out]; simp [fits, hsh, readV])
      have hshb : (showL k p v g == l) = false := by simpa using hsh
      clear hsh
      go_enter Tryz.func48, Tryz.ntmps48
      go_wp2_with fail
      refine (HG.out _ (hw.keep ((Keep.refl _).alloc _))).mono ?_
      rintro e w1 ⟨rfl, k1⟩
      go_wp2_with fail
      refine (implDeedOk_any _ _ _ _ _).mono ?_
      rintro e w2 ⟨rfl, k2⟩
      obtain ⟨_, t0, t1, t2, t3⟩ := box_deed k2
      go_wp2_with fail
      refine (implShowDeed_any _ _ _ _ _).mono ?_
      rw [HS.out]
      rintro e w3 ⟨rfl, k3⟩
      have hR : St w w3 w.heap.size 0 0 0 0 := St.keep (St.start 0 0 0 0) (((k1.alloc _).trans k2).trans k3)
      obtain ⟨r0, r1, r2, r3⟩ := hR.cells
      have g0 := hR.free 0
      have g1 := hR.free 1
      have g2 := hR.free 2
      have g3 := hR.free 3
      go_wp2
      have hZ := (((hR.set0 0).set1 0).set2 0).set3 0
      refine bodyPost_ret (results_row_tmp (by rfl) _ _ w.heap.size _ _ (0, 0) _ (.bool false) rfl hZ.1 rfl Tryz.underlying53 rfl (by kernel_rfl)) rfl ?_
      exact ⟨by rw [HR.out], hZ.keep1⟩
end Go.Proofs.YtljamlgnobpjeaaGreatDoor
