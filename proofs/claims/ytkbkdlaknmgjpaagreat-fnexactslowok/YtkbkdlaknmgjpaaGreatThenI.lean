/- Contract of the program's Then. -/
import Derived.Test.YtkbkdlaknmgjpaaGreatMB
import Derived.Test.YtkbkdlaknmgjpaaGreatMC
import Derived.Test.YtkbkdlaknmgjpaaGreatME
import Derived.RegionTactic
import Derived.BigRegion
namespace Go.Proofs.YtkbkdlaknmgjpaaGreat
open Go.ChangeShapes Go.WideShapes Go.ChangeAt Go.RowKit

set_option maxRecDepth 100000 in
set_option maxHeartbeats 3200000 in
theorem implThen_web (w : World) (v1 v2 : Value) (xs ys : List Int) (h1 : Rd w v1 xs) (h2 : Rd w v2 ys) (ht : twoB xs ys = true) :
    Calls Tryz.prog 80 #[v1, v2] w fun e w' => ∃ v', e = .returned v' ∧ Row w' w.heap.size v' (xs.map (fun x => thenS x ys 12)) ∧ Keep w w' := by
  have r1 := h1
  have r2 := h2
  obtain ⟨a1, c1, rfl, h1⟩ := h1
  obtain ⟨a2, c2, rfl, h2⟩ := h2
  obtain ⟨hl, wx, wy⟩ := twoB_iff.1 ht
  have hx12 := webB_len wx
  have hl1 : xs.length ≤ ys.length := by omega
  have hl2 : ys.length ≤ xs.length := by omega
  have HX : Hid (webB xs = true) := wx
  clear wx wy hl
  go_enter Tryz.func80, Tryz.ntmps80
  go_wp2_with fail
  refine (areAlike_any _ _ _ _ _ r1 r2 (by omega) (by omega)).mono ?_
  rintro e w' ⟨rfl, rfl⟩
  go_wp2_with fail
  refine (blank_any _ _ hx12).mono ?_
  rintro e w1 ⟨rfl, rb, k1⟩
  rw [← thenK_zero xs ys] at rb
  go_wp2_with fail
  go_loopw [20] (fun i wr => ∃ k : Nat, k ≤ xs.length ∧ i = .int .i64 k ∧ RowAt wr w'.heap.size (thenK xs ys k) ∧ Keep w' wr) (fun i _ => xs.length - (intOf i).toNat)
  case atStart => exact ⟨0, Nat.zero_le _, rfl, rb, k1⟩
  case round =>
    obtain ⟨k, hk, rfl, hr, hK⟩ := hrel
    clear rb k1
    by_cases hlt : k < xs.length
    · rcases h1 with h | ⟨b1, o1, rfl, hb1, hc1⟩
      · exfalso; rw [h] at hlt; simp at hlt
      rcases h2 with h | ⟨b2, o2, rfl, hb2, hc2⟩
      · exfalso; rw [h] at hl1; simp only [List.length_nil] at hl1; omega
      have d0 := (hK.cell hb1).trans (hc1 k hlt)
      have hp : okB xs.length (xs.getD k 0) = true := webB_get HX.out hlt
      have HE : Hid ((thenK xs ys k).set k (thenS (xs.getD k 0) ys 12) = thenK xs ys (k + 1)) := thenK_set xs ys hlt
      have HP : Hid (okB xs.length (xs.getD k 0) = true) := hp
      clear hc1 hp
      generalize xs.getD k 0 = p at *
      have hml := mem_len p 12
      obtain ⟨wo, rfl⟩ : ∃ wo : World, wo = wr := ⟨_, rfl⟩
      go_wp2_with fail
      refine (implMembers_any _ _).mono ?_
      rintro e w3 ⟨vm, rfl, om, k3⟩
      have K3 := hK.trans k3
      have hr3 := hr.keep k3
      have hgo := hr.lt
      rw [← thenK_same xs ys hlt] at hr3
      obtain ⟨am, cm, rfl, hm⟩ := om.rd
      clear hr hK k3 hm
      have hkl : k < (thenK xs ys k).length := by rw [thenK_len xs ys hk]; exact hlt
      generalize thenK xs ys k = T at *
      go_wp2_with fail
      go_loopw [28] (fun i wr => ∃ j : Nat, j ≤ (mem p 12).length ∧ i = .int .i64 j ∧ RowAt wr w'.heap.size (T.set k (((mem p 12).take j).foldl (thenF ys) 0)) ∧ Own wr wo.heap.size (.slice am (mem p 12).length cm) (mem p 12) ∧ Keep w' wr) (fun i _ => (mem p 12).length - (intOf i).toNat)
      case atStart => exact ⟨0, Nat.zero_le _, rfl, hr3, om, K3⟩
      case round =>
        obtain ⟨j, hj, rfl, hr, ho, hK⟩ := hrel
        clear hr3 om K3
        by_cases hjl : j < (mem p 12).length
        · obtain ⟨m, hm, hmn⟩ := mem_at HP.out hjl
          obtain ⟨am', cm', hv, hcm⟩ := ho.rd
          cases hv
          rcases hcm with h | ⟨b3, o3, rfl, hb3, hc3⟩
          · exfalso; rw [h] at hjl; simp at hjl
          have d1 := hc3 j hjl
          rw [hm] at d1
          have d2 := (hK.cell hb2).trans (hc2 m (by omega))
          have d3 := hr.cell (j := k) (by simpa using hkl)
          rw [getD_set_same T hkl] at d3
          have d4 := hr.free k
          have HF : Hid (((mem p 12).take (j + 1)).foldl (thenF ys) 0 = orI (((mem p 12).take j).foldl (thenF ys) 0) (ys.getD m 0)) := by
            show _ = _
            rw [foldl_snoc _ _ _ hjl, hm]; rfl
          have hs := hr.set k (orI (((mem p 12).take j).foldl (thenF ys) 0) (ys.getD m 0))
          rw [set_set_same] at hs
          have ho2 := ho.kept (grown_set wr w'.heap.size k (.int .i64 (orI (((mem p 12).take j).foldl (thenF ys) 0) (ys.getD m 0)))) (by
            right; intro e; have := ho.ge _ e; omega)
          have hK2 := hK.grown (grown_set wr w'.heap.size k (.int .i64 (orI (((mem p 12).take j).foldl (thenF ys) 0) (ys.getD m 0)))) (by simp)
          have i1 : (0 : Int) ≤ (m : Int) := Int.natCast_nonneg _
          have i2 : (m : Int) < (ys.length : Int) := by omega
          have i3 : (0 : Int) ≤ (k : Int) := Int.natCast_nonneg _
          have i4 : (k : Int) < (xs.length : Int) := by omega
          clear hc3 hm hr
          generalize ((mem p 12).take j).foldl (thenF ys) 0 = G at *
          generalize ys.getD m 0 = q at *
          go_wp2
          go_region
          go_wp2
          go_roundw
          case rel => exact ⟨j + 1, by omega, by go_num, by rw [HF.out]; exact hs.drew, ho2.keep (Keep.refl _).drew, hK2.drew⟩
          case measure => simp [intOf]; omega
        · obtain rfl : j = (mem p 12).length := by omega
          rw [List.take_length, thenS_fold, HE.out] at hr
          go_wp2
          go_roundw
          case rel => exact ⟨k + 1, by omega, by go_num, hr, hK⟩
          case measure => simp [intOf]; omega
    · obtain rfl : k = xs.length := by omega
      rw [thenK_end] at hr
      go_wp2
      go_ret
      exact ⟨_, rfl, row_new hr (Nat.le_refl _) (by simp), hK⟩
theorem implThen_any (w : World) (v1 v2 : Value) (xs ys : List Int) (h1 : Rd w v1 xs) (h2 : Rd w v2 ys) (n1 : xs.length ≤ 1048576) (n2 : ys.length ≤ 1048576) :
    Calls Tryz.prog 80 #[v1, v2] w fun e w' => ∃ v', e = .returned v' ∧ Row w' w.heap.size v' (thenL xs ys) ∧ Keep w w' := by
  cases ht : twoB xs ys
  · go_enter Tryz.func80, Tryz.ntmps80
    go_wp2_with fail
    refine (areAlike_any _ _ _ _ _ h1 h2 n1 n2).mono ?_
    rintro e w' ⟨rfl, rfl⟩
    go_wp2
    go_ret
    exact ⟨_, rfl, by unfold thenL; rw [ht]; exact row_empty _ _, (Keep.refl _).alloc _⟩
  · refine (implThen_web _ _ _ _ _ h1 h2 ht).mono ?_
    rintro e w2 ⟨v', rfl, o, k⟩
    exact ⟨_, rfl, by unfold thenL; rw [ht]; exact o, k⟩
end Go.Proofs.YtkbkdlaknmgjpaaGreat
