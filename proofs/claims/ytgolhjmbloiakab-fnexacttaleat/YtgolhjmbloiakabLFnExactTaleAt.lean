/- At every list of lists of deeds and every number the program's TaleAt answers as the specification's does, in memory of its own, and writes into no argument: the law FnExactTaleAt answers true and its argument stays. -/
import Derived.Test.YtgolhjmbloiakabRows
import Derived.WalkKit
import Derived.ProofKit
import Derived.OpenShut
import Derived.ShutString
import Derived.ChangeOld
import Derived.Below
import Derived.Test.YtgolhjmbloiakabMA
import Derived.Test.YtgolhjmbloiakabMD
import Derived.Test.YtgolhjmbloiakabTaleAtS
import Derived.Test.YtgolhjmbloiakabTaleLen
import Derived.Test.YtgolhjmbloiakabRowsLen
import Derived.Test.YtgolhjmbloiakabMB
import Derived.Test.YtgolhjmbloiakabTaleEq
import Derived.Test.YtgolhjmbloiakabTaleMark
import Derived.Test.YtgolhjmbloiakabTaleHeld
import Derived.Test.YtgolhjmbloiakabWorkTo
import Derived.Test.YtgolhjmbloiakabWorkEq
import Derived.Test.YtgolhjmbloiakabWorkMark
import Derived.Test.YtgolhjmbloiakabRowOnly
import Derived.Test.YtgolhjmbloiakabCellOnly
import Derived.Test.YtgolhjmbloiakabEvLen
import Derived.Test.YtgolhjmbloiakabSlicesA
import Derived.Test.YtgolhjmbloiakabMarkRow
import Derived.Deep.Cut
namespace Go.Proofs.Ytgolhjmbloiakab.fnExactTaleAt
open Go.ChangeShapes Go.WideShapes Go.ChangeAt Go.RowKit
open Go.ChangeMaps (open_string shut_string)
set_option linter.unusedVariables false

theorem own : ownKnob Try.prog.godebug = none := by kernel_rfl
theorem laidOut : laidOutB Try.prog = true := by kernel_rfl

set_option maxRecDepth 100000 in
set_option maxHeartbeats 8000000 in
theorem walk (v : Value) (dss : List (List Dd)) (p : Int) (w : World) (hr : RdW w v dss) (hl : dss.length ≤ maxLen) (hls : ∀ i, i < dss.length → (dss.getD i []).length ≤ maxLen) :
    Calls Try.prog 3 #[v, .int .i64 p] w fun e w' => e = .returned (.bool true) ∧ Below w.heap.size w w' := by
  go_enter Try.func3, Try.ntmps3
  go_wp2_with fail
  refine (szW_any _ _ _ hr _ (by omega) (by omega) hl hls).mono ?_
  rintro e w0 ⟨r, rfl, rfl, hd⟩
  by_cases hneg : r < 0
  · go_wp2
    go_ret
    exact ⟨rfl, Below.refl _ _⟩
  · have hsum : (dss.length + lenW dss : Int) ≤ 1048576 := hd.resolve_left hneg
    have hge : (0 : Int) ≤ r := by omega
    have l1 : dss.length ≤ 1048576 := by omega
    have l2 : ∀ i, i < dss.length → (dss.getD i []).length ≤ 1048576 := fun i hi => by have := lenW_get dss i hi; omega
    have s1 : lenW dss ≤ 1048576 := by omega
    have HL : Hid (likeW dss dss = true) := Lib.hid (by unfold likeW; simp)
    clear hd hneg hsum hl hls
    have HR0 := Lib.hid hr
    have g1 : (tfB dss p).length ≤ 12 := by unfold tfB; split; exact atB_len _ _; simp
    have g2 : (trB dss p).length ≤ 36 := by unfold trB; split; exact ratB_len _ _; simp
    obtain ⟨TF, hTF⟩ : ∃ L, L = tfB dss p := ⟨_, rfl⟩
    obtain ⟨TR, hTR⟩ : ∃ L, L = trB dss p := ⟨_, rfl⟩
    obtain ⟨bt, hbt⟩ : ∃ L, L = taB dss p := ⟨_, rfl⟩
    have HTF := Lib.hid hTF
    have HTR := Lib.hid hTR
    have HBT := Lib.hid hbt
    rw [← hTF] at g1
    rw [← hTR] at g2
    clear hTF hTR hbt
    have eb : (bt != bt) = false := by simp
    go_wp2_with fail
    refine (toW_any _ _ _ hr l1 l2).mono ?_
    rintro e w1 ⟨v1, rfl, o1, k1⟩
    replace hr := hr.keep k1
    have K1 := k1
    go_wp2_with fail
    refine (specTaleAt_own _ _ _ p o1.rd l1 l2).mono ?_
    rw [← HTF.out, ← HTR.out, ← HBT.out]
    rintro e w2 ⟨sF, sR, rfl, oF, oR, -, k2⟩
    replace hr := hr.keep k2
    have K2 := K1.trans k2
    have hS := oF.rd
    have hU := oR.rd
    obtain ⟨aS, cS, rfl, -⟩ := id hS
    obtain ⟨aU, cU, rfl, -⟩ := id hU
    clear oF oR
    go_upto_region 6 with fail
    obtain ⟨w3, hw⟩ : ∃ W : World, W = w2.alloc (taleC (.slice aS TF.length cS) (.slice aU TR.length cU)) := ⟨_, rfl⟩
    have x0 : w3.cell? ⟨w2.heap.size, 0, none⟩ = some (.slice aS TF.length cS) := by rw [hw]; exact box_cell (Keep.refl _) 0
    have x1 : w3.cell? ⟨w2.heap.size, 1, none⟩ = some (.slice aU TR.length cU) := by rw [hw]; exact box_cell (Keep.refl _) 1
    have k3 : Keep w2 w3 := by rw [hw]; exact (Keep.refl _).alloc _
    have xl : w2.heap.size < w3.heap.size := by rw [hw, heap_size]; omega
    rw [← hw]
    clear hw
    replace hr := hr.keep k3
    replace hS := hS.keep k3
    replace hU := hU.keep k3
    have K3 := K2.trans k3
    obtain ⟨X, hX⟩ : ∃ X, X = w2.heap.size := ⟨_, rfl⟩
    rw [← hX] at x0 x1 xl ⊢
    have HX := Lib.hid hX
    clear hX
    have HS0 := Lib.hid hS
    have HU0 := Lib.hid hU
    have HXC := Lib.hid (show w3.cell? ⟨X, 0, none⟩ = some (.slice aS TF.length cS) ∧ w3.cell? ⟨X, 1, none⟩ = some (.slice aU TR.length cU) ∧ X < w3.heap.size from ⟨x0, x1, xl⟩)
    go_wp2_with fail
    refine (toW_any _ _ _ hr l1 l2).mono ?_
    rintro e w4 ⟨v4, rfl, ox, k4⟩
    replace hr := hr.keep k4
    replace hS := hS.keep k4
    replace hU := hU.keep k4
    replace x0 := (k4.cell xl).trans x0
    replace x1 := (k4.cell xl).trans x1
    replace xl := Nat.lt_of_lt_of_le xl k4.size
    have K4 := K3.trans k4
    have rx := ox.rd
    have kx := Keep.refl w4
    go_wp2_with fail
    refine (implTaleAt_any _ _ _ p rx l1 l2).mono ?_
    rw [← HTF.out, ← HTR.out, ← HBT.out]
    rintro e w5 ⟨vF, vR, rfl, hF, hG, -, ap, k5⟩
    replace hr := hr.keep k5
    replace hS := hS.keep k5
    replace hU := hU.keep k5
    replace rx := rx.keep k5
    replace x0 := (k5.cell xl).trans x0
    replace x1 := (k5.cell xl).trans x1
    replace xl := Nat.lt_of_lt_of_le xl k5.size
    have K5 := K4.trans k5
    replace kx := kx.trans k5
    obtain ⟨aF, cF, rfl, -⟩ := id hF.rd
    obtain ⟨aR, cR, rfl, -⟩ := id hG.rd
    have FL : ∀ k, (Value.slice aF TF.length cF).ownBlock = some k → k < w5.heap.size := fun k hk => (hF.lt k hk).2
    have GL : ∀ k, (Value.slice aR TR.length cR).ownBlock = some k → k < w5.heap.size := fun k hk => (hG.lt k hk).2
    go_upto_region 8 with fail
    obtain ⟨w6, hw⟩ : ∃ W : World, W = w5.alloc (taleC (.slice aF TF.length cF) (.slice aR TR.length cR)) := ⟨_, rfl⟩
    have y0 : w6.cell? ⟨w5.heap.size, 0, none⟩ = some (.slice aF TF.length cF) := by rw [hw]; exact box_cell (Keep.refl _) 0
    have y1 : w6.cell? ⟨w5.heap.size, 1, none⟩ = some (.slice aR TR.length cR) := by rw [hw]; exact box_cell (Keep.refl _) 1
    have k6 : Keep w5 w6 := by rw [hw]; exact (Keep.refl _).alloc _
    have yl : w5.heap.size < w6.heap.size := by rw [hw, heap_size]; omega
    rw [← hw]
    clear hw
    replace hr := hr.keep k6
    replace hS := hS.keep k6
    replace hU := hU.keep k6
    replace rx := rx.keep k6
    replace hF := hF.keep k6
    replace hG := hG.keep k6
    replace x0 := (k6.cell xl).trans x0
    replace x1 := (k6.cell xl).trans x1
    replace xl := Nat.lt_of_lt_of_le xl k6.size
    have K6 := K5.trans k6
    obtain ⟨Y, hY⟩ : ∃ X, X = w5.heap.size := ⟨_, rfl⟩
    rw [← hY] at y0 y1 yl ⊢
    have HY := Lib.hid hY
    clear hY
    replace kx := kx.trans k6
    have zy : w4.heap.size ≤ Y := by rw [HY.out]; exact k5.size
    rw [← HY.out] at FL GL
    go_wp2_with fail
    refine (eqTale_same _ _ _ _ _ TF TR hF.rd hG.rd hS hU (by omega) (by omega)).mono ?_
    rintro e w7 ⟨rfl, k7⟩
    replace hr := hr.keep k7
    replace hS := hS.keep k7
    replace hU := hU.keep k7
    replace rx := rx.keep k7
    replace hF := hF.keep k7
    replace hG := hG.keep k7
    replace x0 := (k7.cell xl).trans x0
    replace x1 := (k7.cell xl).trans x1
    replace xl := Nat.lt_of_lt_of_le xl k7.size
    replace y0 := (k7.cell yl).trans y0
    replace y1 := (k7.cell yl).trans y1
    replace yl := Nat.lt_of_lt_of_le yl k7.size
    have K7 := K6.trans k7
    replace kx := kx.trans k7
    go_wp2_with fail
    refine (toW_any _ _ _ hr l1 l2).mono ?_
    rintro e w8 ⟨v8, rfl, oz, k8⟩
    replace hr := hr.keep k8
    replace hS := hS.keep k8
    replace hU := hU.keep k8
    replace rx := rx.keep k8
    replace hF := hF.keep k8
    replace hG := hG.keep k8
    replace x0 := (k8.cell xl).trans x0
    replace x1 := (k8.cell xl).trans x1
    replace xl := Nat.lt_of_lt_of_le xl k8.size
    replace y0 := (k8.cell yl).trans y0
    replace y1 := (k8.cell yl).trans y1
    replace yl := Nat.lt_of_lt_of_le yl k8.size
    have K8 := K7.trans k8
    replace kx := kx.trans k8
    go_wp2_with fail
    refine (eqW_any _ _ _ _ _ rx oz.rd l1 l2).mono ?_
    rw [HL.out]
    rintro e w9 ⟨rfl, k9⟩
    replace hr := hr.keep k9
    replace hS := hS.keep k9
    replace hU := hU.keep k9
    replace rx := rx.keep k9
    replace hF := hF.keep k9
    replace hG := hG.keep k9
    replace x0 := (k9.cell xl).trans x0
    replace x1 := (k9.cell xl).trans x1
    replace xl := Nat.lt_of_lt_of_le xl k9.size
    replace y0 := (k9.cell yl).trans y0
    replace y1 := (k9.cell yl).trans y1
    replace yl := Nat.lt_of_lt_of_le yl k9.size
    have K9 := K8.trans k9
    replace kx := kx.trans k9
    have z0 := K3.size
    have zx := k4.size
    go_wp2_with fail
    refine (markW_any w9 w4 w3.heap.size _ _ dss ox (fun b _ hb => Below.block kx b hb) l1 s1 (by omega) (by omega)).mono ?_
    rintro e w10 ⟨rfl, -, om⟩
    have Kb : Keep w3 w9 := (((((k4.trans k5).trans k6).trans k7).trans k8).trans k9)
    have Kq := Kb.only om (Nat.le_refl _)
    have K10 := K9.only om z0
    replace hF := row_only hF om (Nat.le_refl _)
    replace hG := row_only hG om (Nat.le_refl _)
    replace y0 := (cell_only om yl zy).trans y0
    replace y1 := (cell_only om yl zy).trans y1
    replace yl := Nat.lt_of_lt_of_le yl om.size
    have dk : ¬ ((1 : Int) + 4 * lenW dss < 0) := by omega
    clear hr rx hS hU x0 x1 xl om
    have hS := HS0.out.keep Kq
    have hU := HU0.out.keep Kq
    have x0 := (Kq.cell HXC.out.2.2).trans HXC.out.1
    have x1 := (Kq.cell HXC.out.2.2).trans HXC.out.2.1
    have xl := Nat.lt_of_lt_of_le HXC.out.2.2 Kq.size
    go_wp2_with fail
    refine (eqTale_same _ _ _ _ _ TF TR hF.rd hG.rd hS hU (by omega) (by omega)).mono ?_
    rintro e w11 ⟨rfl, k11⟩
    replace hS := hS.keep k11
    replace hU := hU.keep k11
    replace hF := hF.keep k11
    replace hG := hG.keep k11
    replace x0 := (k11.cell xl).trans x0
    replace x1 := (k11.cell xl).trans x1
    replace xl := Nat.lt_of_lt_of_le xl k11.size
    replace y0 := (k11.cell yl).trans y0
    replace y1 := (k11.cell yl).trans y1
    replace yl := Nat.lt_of_lt_of_le yl k11.size
    have K11 := K10.trans k11
    replace Kq := Kq.trans k11
    go_wp2_with fail
    refine (markTale_any _ w4.heap.size _ _ TF TR 1 hF hG ap (by omega) (by omega) (by omega) (by omega)).mono ?_
    rintro e w12 ⟨rfl, mF, mR, wa, wb, ka, ga, gb⟩
    have Kr := ((Kq.trans ka).grown ga (fun k hk => Nat.le_trans zx (hF.ge k hk))).grown gb (fun k hk => Nat.le_trans zx (hG.ge k hk))
    have K12 := ((K11.trans ka).grown ga (fun k hk => Nat.le_trans z0 (Nat.le_trans zx (hF.ge k hk)))).grown gb (fun k hk => Nat.le_trans z0 (Nat.le_trans zx (hG.ge k hk)))

    have yla := Nat.lt_of_lt_of_le yl ka.size
    have nF : some Y ≠ (Value.slice aF TF.length cF).ownBlock := fun e => Nat.lt_irrefl _ (FL Y e.symm)
    have nG : some Y ≠ (Value.slice aR TR.length cR).ownBlock := fun e => Nat.lt_irrefl _ (GL Y e.symm)
    replace y0 := gb.cell (ga.cell ((ka.cell yl).trans y0) nF) nG
    replace y1 := gb.cell (ga.cell ((ka.cell yl).trans y1) nF) nG
    replace yl := Nat.lt_of_lt_of_le (Nat.lt_of_lt_of_le yla ga.size) gb.size
    clear hS hU x0 x1 xl hF hG ka ga gb Kq nF nG yla
    have Kq := Kr
    have hS := HS0.out.keep Kq
    have hU := HU0.out.keep Kq
    have x0 := (Kq.cell HXC.out.2.2).trans HXC.out.1
    have x1 := (Kq.cell HXC.out.2.2).trans HXC.out.2.1
    have xl := Nat.lt_of_lt_of_le HXC.out.2.2 Kq.size
    have qF := mF.rd
    have qR := mR.rd
    clear mF mR Kr
    go_wp2_with fail
    refine (heldTale_any _ _ _ _ _ 1 qF qR (by omega) (by omega) (by omega) (by omega)).mono ?_
    rintro e w13 ⟨rfl, k13⟩
    replace hS := hS.keep k13
    replace hU := hU.keep k13
    replace qF := qF.keep k13
    replace qR := qR.keep k13
    replace x0 := (k13.cell xl).trans x0
    replace x1 := (k13.cell xl).trans x1
    replace xl := Nat.lt_of_lt_of_le xl k13.size
    replace y0 := (k13.cell yl).trans y0
    replace y1 := (k13.cell yl).trans y1
    replace yl := Nat.lt_of_lt_of_le yl k13.size
    have K13 := K12.trans k13
    replace Kq := Kq.trans k13
    have nq : ((1 : Int) + TF.length + TR.length != 1 + TF.length + TR.length) = false := by simp
    have dq : ¬ ((1 : Int) + TF.length + TR.length < 0) := by omega
    have hr := HR0.out.keep K13
    go_wp2_with fail
    refine (toW_any _ _ _ hr l1 l2).mono ?_
    rintro e w14 ⟨v14, rfl, ot, k14⟩
    replace hS := hS.keep k14
    replace hU := hU.keep k14
    replace qF := qF.keep k14
    replace qR := qR.keep k14
    replace hr := hr.keep k14
    replace x0 := (k14.cell xl).trans x0
    replace x1 := (k14.cell xl).trans x1
    replace xl := Nat.lt_of_lt_of_le xl k14.size
    replace y0 := (k14.cell yl).trans y0
    replace y1 := (k14.cell yl).trans y1
    replace yl := Nat.lt_of_lt_of_le yl k14.size
    have K14 := K13.trans k14
    replace Kq := Kq.trans k14
    go_wp2_with fail
    refine (implTaleAt_any _ _ _ p ot.rd l1 l2).mono ?_
    rw [← HTF.out, ← HTR.out, ← HBT.out]
    rintro e w15 ⟨tF, tR, rfl, hM, hN, -, -, k15⟩
    replace hS := hS.keep k15
    replace hU := hU.keep k15
    replace qF := qF.keep k15
    replace qR := qR.keep k15
    replace hr := hr.keep k15
    replace x0 := (k15.cell xl).trans x0
    replace x1 := (k15.cell xl).trans x1
    replace xl := Nat.lt_of_lt_of_le xl k15.size
    replace y0 := (k15.cell yl).trans y0
    replace y1 := (k15.cell yl).trans y1
    replace yl := Nat.lt_of_lt_of_le yl k15.size
    have K15 := K14.trans k15
    replace Kq := Kq.trans k15
    have hH := hM.rd
    have hI := hN.rd
    obtain ⟨aM, cM, rfl, -⟩ := id hH
    obtain ⟨aN, cN, rfl, -⟩ := id hI
    go_upto_region 25 with fail
    obtain ⟨w16, hw⟩ : ∃ W : World, W = w15.alloc (taleC (.slice aM TF.length cM) (.slice aN TR.length cN)) := ⟨_, rfl⟩
    have z0 : w16.cell? ⟨w15.heap.size, 0, none⟩ = some (.slice aM TF.length cM) := by rw [hw]; exact box_cell (Keep.refl _) 0
    have z1 : w16.cell? ⟨w15.heap.size, 1, none⟩ = some (.slice aN TR.length cN) := by rw [hw]; exact box_cell (Keep.refl _) 1
    have k16 : Keep w15 w16 := by rw [hw]; exact (Keep.refl _).alloc _
    have zl : w15.heap.size < w16.heap.size := by rw [hw, heap_size]; omega
    rw [← hw]
    clear hw
    replace hS := hS.keep k16
    replace hU := hU.keep k16
    replace qF := qF.keep k16
    replace qR := qR.keep k16
    replace hr := hr.keep k16
    replace hH := hH.keep k16
    replace hI := hI.keep k16
    replace x0 := (k16.cell xl).trans x0
    replace x1 := (k16.cell xl).trans x1
    replace xl := Nat.lt_of_lt_of_le xl k16.size
    replace y0 := (k16.cell yl).trans y0
    replace y1 := (k16.cell yl).trans y1
    replace yl := Nat.lt_of_lt_of_le yl k16.size
    have K16 := K15.trans k16
    obtain ⟨Z, hZ⟩ : ∃ X, X = w15.heap.size := ⟨_, rfl⟩
    rw [← hZ] at z0 z1 zl ⊢
    have HZ := Lib.hid hZ
    clear hZ
    go_wp2_with fail
    refine (eqTale_same _ _ _ _ _ TF TR hH hI hS hU (by omega) (by omega)).mono ?_
    rintro e w17 ⟨rfl, k17⟩
    replace hS := hS.keep k17
    replace hU := hU.keep k17
    replace qF := qF.keep k17
    replace qR := qR.keep k17
    replace hr := hr.keep k17
    replace hH := hH.keep k17
    replace hI := hI.keep k17
    replace x0 := (k17.cell xl).trans x0
    replace x1 := (k17.cell xl).trans x1
    replace xl := Nat.lt_of_lt_of_le xl k17.size
    replace y0 := (k17.cell yl).trans y0
    replace y1 := (k17.cell yl).trans y1
    replace yl := Nat.lt_of_lt_of_le yl k17.size
    replace z0 := (k17.cell zl).trans z0
    replace z1 := (k17.cell zl).trans z1
    replace zl := Nat.lt_of_lt_of_le zl k17.size
    have K17 := K16.trans k17
    go_wp2_with fail
    refine (heldTale_any _ _ _ _ _ 1 qF qR (by omega) (by omega) (by omega) (by omega)).mono ?_
    rintro e w18 ⟨rfl, k18⟩
    replace hS := hS.keep k18
    replace hU := hU.keep k18
    replace qF := qF.keep k18
    replace qR := qR.keep k18
    replace hr := hr.keep k18
    replace hH := hH.keep k18
    replace hI := hI.keep k18
    replace x0 := (k18.cell xl).trans x0
    replace x1 := (k18.cell xl).trans x1
    replace xl := Nat.lt_of_lt_of_le xl k18.size
    replace y0 := (k18.cell yl).trans y0
    replace y1 := (k18.cell yl).trans y1
    replace yl := Nat.lt_of_lt_of_le yl k18.size
    replace z0 := (k18.cell zl).trans z0
    replace z1 := (k18.cell zl).trans z1
    replace zl := Nat.lt_of_lt_of_le zl k18.size
    have K18 := K17.trans k18
    go_wp2
    go_ret
    exact ⟨rfl, K18⟩

set_option maxRecDepth 100000 in
theorem lifted (os : Os) (started : os.Started) (H : Type) (enc : TypeId × Value → H) :
    ReturnsInHanded {} Try.checked os 3 .any (Rows.fnExactTaleAtSpec.pre6 enc Try.prog Try.f3 Rows.fnExactTaleAtRow.domain false) (Rows.fnExactTaleAtSpec.post enc Try.prog Try.f3 false true false false) := by
  refine returnsInHanded_of_change (C := Try.checked) own started (by kernel_rfl) Try.func3
    (ChangeSpec.witness6 (enc := enc) (C := Try.checked) false ⟨#[], #[.slice none 0 0, .int .i64 0], []⟩ 8 (by kernel_rfl) (by kernel_rfl) (by kernel_rfl) (by kernel_rfl)) ?_
  intro W base args ds gs before hval0 hW hcnd _

  have hval : ∀ (j : Nat) t v, Try.f3.params[j]? = some t → args[j]? = some v → Value.okWide Try.prog W .any base t v := hval0
  have hW' := hW
  obtain ⟨p, q, hA0, hV, rfl, hfz, hnd⟩ := hW
  have hA : DataW.TrodAll enc Try.prog W 0 (fun _ => true) true Try.f3.params.toList args.toList ds p := hA0
  rw [Try.params3] at hA hval
  obtain ⟨v0, vs0, d0, ds0, p0, q0, hargs, rfl, rfl, h0, r0⟩ := trodAll_cons hA
  obtain ⟨v1, vs1, d1, ds1, p1, q1, rfl, rfl, rfl, h1, r1⟩ := trodAll_cons r0
  obtain ⟨rfl, rfl, rfl⟩ := trodAll_nil r1
  obtain rfl : args = #[v0, v1] := by cases args; simp_all
  obtain ⟨rfl, rfl⟩ := trodVars_none hV
  have k0 := h0
  have lt0 : ∀ x ∈ p0, x.block < W.heap.size := by obtain ⟨m, hm⟩ := k0; exact DataW.trod_lt m _ _ _ hm
  obtain ⟨dss, hr, hl, hls⟩ := open_work (hval 0 22 v0 rfl rfl) h0
  obtain ⟨p, rfl⟩ := okWide_int Try.underlying2 (hval 1 2 v1 rfl rfl)
  have k1 := h1
  have lt1 : ∀ x ∈ p1, x.block < W.heap.size := by obtain ⟨m, hm⟩ := k1; exact DataW.trod_lt m _ _ _ hm
  clear hA0 hval0
  refine (walk v0 dss p W hr hl hls).mono fun e W' ⟨he, bel⟩ => ?_
  subst he
  exact ⟨_, rfl, _, _, _, [], _, [], hW', trodAll_mk1 (shut_bool Try.underlying4 _), (trodAll_cons_mk (Below.trod laidOut (by kernel_rfl) (of_decide_eq_true (by kernel_rfl)) k0 bel lt0) (trodAll_cons_mk (Below.trod laidOut (by kernel_rfl) (of_decide_eq_true (by kernel_rfl)) k1 bel lt1) trodAll_mk0)), rfl, bel.frame _, fun h => by cases h⟩

theorem over : Rows.fnExactTaleAtRow.holds Try.pinned (OpenSpec.ofChange Rows.fnExactTaleAtSpec) :=
  OpenClaim.holds_of_wide 3 Try.f3 rfl rfl rfl rfl rfl rfl rfl ⟨rfl, rfl, rfl, rfl, rfl⟩ rfl rfl rfl rfl rfl (by kernel_rfl) Try.func3 (by kernel_rfl)
    (of_decide_eq_true (by kernel_rfl)) (by unfold Func.isWrapper; first | (rw [if_pos (by decide +kernel)]; kernel_rfl) | (rw [if_neg (by decide +kernel)]; exact ⟨rfl, rfl⟩))
    (fun os started H enc _ => lifted os started H enc)

#print axioms over
end Go.Proofs.Ytgolhjmbloiakab.fnExactTaleAt
namespace Go.Proofs.Ytgolhjmbloiakab
theorem fnExactTaleAt_holds : Rows.FnExactTaleAtSaid := fnExactTaleAt.over
end Go.Proofs.Ytgolhjmbloiakab
