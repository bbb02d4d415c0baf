/- Contracts of the specification's TalesCount and TaleAt. -/
import Derived.Test.YtkbkdlaknmgjpaaGreatSrcA
import Derived.Test.YtkbkdlaknmgjpaaGreatRowsA
import Derived.Test.YtkbkdlaknmgjpaaGreatTaleCnt
import Derived.Test.YtkbkdlaknmgjpaaGreatMA
import Derived.Test.YtkbkdlaknmgjpaaGreatMD
import Derived.RegionTactic
namespace Go.Proofs.YtkbkdlaknmgjpaaGreat
open Go.ChangeShapes Go.WideShapes Go.ChangeAt Go.RowKit

theorem specTalesCount_any (w : World) (v : Value) (dss : List (List Dd)) (h : RdW w v dss) (hx : dss.length ≤ 1048576) (hm : ∀ i, i < dss.length → (dss.getD i []).length ≤ 1048576) :
    Calls Tryz.prog 160 #[v] w fun e w' => e = .returned (.int .i64 (tcB dss)) ∧ Keep w w' := by
  have C := specWorkOk_any w v dss h hx hm
  cases hb : workB dss
  · have HE : Hid (tcB dss = -1) := Lib.hid (by rw [tcB, hb]; rfl)
    rw [hb] at C
    go_enter Tryz.func160, Tryz.ntmps160
    go_wp2_with fail
    refine C.mono ?_
    rintro e w1 ⟨rfl, k1⟩
    go_wp2
    go_ret
    exact ⟨by rw [HE.out]; rfl, k1⟩
  · have HE : Hid (tcB dss = cntB dss * rcntB dss) := Lib.hid (by rw [tcB, if_pos hb])
    have c1 := cnt_six hb
    have c2 := rcnt_six hb
    have c3 := tcB_in dss
    rw [HE.out] at c3
    have HW : Hid (IntKind.i64.wrap (cntB dss * rcntB dss) = cntB dss * rcntB dss) := Lib.hid (by rw [IntKind.wrap_i64]; omega)
    rw [hb] at C
    have CS := fun (W : World) (kW : Keep w W) => specSourcesCount_any W v dss (h.keep kW) hx hm
    have CR := fun (W : World) (kW : Keep w W) => specRowsCount_any W v dss (h.keep kW) hx hm
    generalize cntB dss = m1 at *
    generalize rcntB dss = m2 at *
    have hw := HW.out
    clear c3
    go_enter Tryz.func160, Tryz.ntmps160
    go_wp2_with fail
    refine C.mono ?_
    rintro e w1 ⟨rfl, k1⟩
    go_wp2_with fail
    refine (CS _ k1).mono ?_
    rintro e w2 ⟨rfl, k2⟩
    go_wp2_with fail
    refine (CR _ (k1.trans k2)).mono ?_
    rintro e w3 ⟨rfl, k3⟩
    go_wp2
    go_ret
    exact ⟨by rw [HE.out]; rfl, (k1.trans k2).trans k3⟩
theorem own_nilT (w : World) (base : Nat) : Own w base nilV [] := World.ownsRow_nil _ _ _ _
set_option maxRecDepth 100000 in
set_option maxHeartbeats 2000000 in
theorem specTaleAt_own (w : World) (v : Value) (dss : List (List Dd)) (n : Int) (h : RdW w v dss) (hx : dss.length ≤ 1048576) (hm : ∀ i, i < dss.length → (dss.getD i []).length ≤ 1048576) :
    Calls Tryz.prog 159 #[v, .int .i64 n] w fun e w' => ∃ vF vR, e = .returned (.tuple #[.agg #[vF, vR], .bool (taB dss n)]) ∧ Own w' w.heap.size vF (tfB dss n) ∧ Own w' w.heap.size vR (trB dss n) ∧ (vF.ownBlock = none ∨ vF.ownBlock ≠ vR.ownBlock) ∧ Keep w w' := by
  have CT := fun (W : World) (kW : Keep w W) => specTalesCount_any W v dss (h.keep kW) hx hm
  by_cases h0 : n < 0
  · have HA : Hid (taB dss n = false) := Lib.hid (by unfold taB; simp; omega)
    have HF : Hid (tfB dss n = []) := Lib.hid (by rw [tfB, HA.out]; rfl)
    have HR : Hid (trB dss n = []) := Lib.hid (by rw [trB, HA.out]; rfl)
    go_enter Tryz.func159, Tryz.ntmps159
    have hS : StT w (w.alloc (taleC nilV nilV)) w.heap.size nilV nilV := StT.start _ _
    obtain ⟨r0, r1⟩ := hS.cells
    have g0 := hS.free 0
    have g1 := hS.free 1
    go_wp2
    have hZ := hS
    refine bodyPost_ret (results_row_tmp (by rfl) _ _ w.heap.size _ _ (0, 0) _ (.bool false) rfl hZ.1 rfl Tryz.underlying27 rfl (by kernel_rfl)) rfl ?_
    exact ⟨nilV, nilV, by rw [HA.out], by rw [HF.out]; exact own_nilT _ _, by rw [HR.out]; exact own_nilT _ _, .inl rfl, hZ.keep1⟩
  have h0' : 0 ≤ n := by omega
  have hcb := tcB_in dss
  by_cases h1 : tcB dss ≤ n
  · have HA : Hid (taB dss n = false) := Lib.hid (by unfold taB; simp; omega)
    have HF : Hid (tfB dss n = []) := Lib.hid (by rw [tfB, HA.out]; rfl)
    have HR : Hid (trB dss n = []) := Lib.hid (by rw [trB, HA.out]; rfl)
    generalize tcB dss = m at CT h1 hcb
    go_enter Tryz.func159, Tryz.ntmps159
    go_wp2_with fail
    refine (CT _ ((Keep.refl w).alloc _)).mono ?_
    rintro e w1 ⟨rfl, k1⟩
    have hS : StT w w1 w.heap.size nilV nilV := (StT.start _ _).keep k1
    obtain ⟨r0, r1⟩ := hS.cells
    have g0 := hS.free 0
    have g1 := hS.free 1
    go_wp2
    have hZ := (hS.set0 nilV).set1 nilV
    refine bodyPost_ret (results_row_tmp (by rfl) _ _ w.heap.size _ _ (0, 0) _ (.bool false) rfl hZ.1 rfl Tryz.underlying27 rfl (by kernel_rfl)) rfl ?_
    exact ⟨nilV, nilV, by rw [HA.out], by rw [HF.out]; exact own_nilT _ _, by rw [HR.out]; exact own_nilT _ _, .inl rfl, hZ.keep1⟩
  · have ht : taB dss n = true := by unfold taB; simp; omega
    obtain ⟨hb, hpos, -⟩ := tale_at ht
    have hrb := (rcnt_six hb).2
    have HA := Lib.hid ht
    have HF : Hid (tfB dss n = atB dss (n / rcntB dss)) := Lib.hid (by rw [tfB, ht]; rfl)
    have HR : Hid (trB dss n = ratB dss (n % rcntB dss)) := Lib.hid (by rw [trB, ht]; rfl)
    have CR := fun (W : World) (kW : Keep w W) => specRowsCount_any W v dss (h.keep kW) hx hm
    have CA := fun (W : World) (kW : Keep w W) (q : Int) => specSourceAt_own W v dss q (h.keep kW) hx hm
    have CB := fun (W : World) (kW : Keep w W) (q : Int) => specRowsAt_own W v dss q (h.keep kW) hx hm
    generalize tcB dss = m at CT h1 hcb
    generalize rcntB dss = k at CR HF HR hpos hrb
    have q1 : n.tdiv k = n / k := by rw [Int.tdiv_eq_ediv]; simp [h0']
    have q2 : n.tmod k = n % k := by rw [Int.tmod_eq_emod]; simp [h0']
    have h1' : n < m := by omega
    have ne : k ≠ 0 := by omega
    have qb := Int.ediv_nonneg h0' (by omega : 0 ≤ k)
    have qc : n / k ≤ n := Int.ediv_le_self _ h0'
    have qd := Int.emod_nonneg n ne
    have qe := Int.emod_lt_of_pos n hpos
    have qw : IntKind.i64.wrap (n / k) = n / k := by rw [IntKind.wrap_i64]; omega
    have qx : IntKind.i64.wrap (n % k) = n % k := by rw [IntKind.wrap_i64]; omega
    clear ht hb
    go_enter Tryz.func159, Tryz.ntmps159
    go_wp2_with fail
    refine (CT _ ((Keep.refl w).alloc _)).mono ?_
    rintro e w1 ⟨rfl, k1⟩
    have K1 := ((Keep.refl w).alloc _).trans k1
    go_wp2_with fail
    refine (CR _ K1).mono ?_
    rintro e w2 ⟨rfl, k2⟩
    have hS : StT w w2 w.heap.size nilV nilV := (StT.start _ _).keep (k1.trans k2)
    have K2 := K1.trans k2
    clear k1 k2 K1 CT CR
    have z2 := hS.size
    go_wp2_with fail
    go_region_law ((first
      | (go_simp
         refine (CA _ K2.drew (n / k)).mono ?_
         rintro e w3 ⟨vF, rfl, oF, k3⟩)
      | (go_simp
         refine (CB _ (K2.drew.trans k3) (n % k)).mono ?_
         rintro e w4 ⟨vR, rfl, oR, k4⟩
         obtain ⟨aF, cF, hvF⟩ := oF.shp
         subst hvF
         obtain ⟨aR, cR, hvR⟩ := oR.shp
         subst hvR
         have hS4 : StT w w4 w.heap.size nilV nilV := hS.keep (((Keep.refl w2).drew.trans k3).trans k4)
         obtain ⟨r0, r1⟩ := hS4.cells
         have g0 := hS4.free 0
         have g1 := hS4.free 1)))
    all_goals
      go_wp2
      have hZ := (hS4.set0 (.slice aF (atB dss (n / k)).length cF)).set1 (.slice aR (ratB dss (n % k)).length cR)
      refine bodyPost_ret (results_row_tmp (by rfl) _ _ w.heap.size _ _ (0, 0) _ (.bool true) rfl hZ.1 rfl Tryz.underlying27 rfl (by kernel_rfl)) rfl ?_
      have s3 := k3.size
      have oF4 := oF.keep k4
      have gg : ∀ x y : Value, w4.grownBy ((w4.setCell ⟨w.heap.size, 0, none⟩ x).setCell ⟨w.heap.size, 1, none⟩ y) (some w.heap.size) := fun x y => grown_trans (grown_setT _ _ _ _) (grown_setT _ _ _ _)
      exact ⟨_, _, by rw [HA.out], by rw [HF.out]; exact (oF4.other z2 (gg _ _)).base_le (Nat.le_of_lt z2), by rw [HR.out]; exact (oR.other (Nat.lt_of_lt_of_le z2 s3) (gg _ _)).base_le (by have := Nat.lt_of_lt_of_le z2 s3; omega), oF.apart oR, hZ.keep1⟩
end Go.Proofs.YtkbkdlaknmgjpaaGreat
