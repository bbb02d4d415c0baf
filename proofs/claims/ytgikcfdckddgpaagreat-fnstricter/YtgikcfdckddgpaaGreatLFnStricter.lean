/- At every string of bytes the law FnStricter answers true and its argument stays: at what is drawn the program's StrictOk, SlowOk, StrictWeb, SlowWeb and FromOthers answer as the specification's do, and what may be told with quick ink may be told with slow ink, too. -/
import Derived.Test.YtgikcfdckddgpaaGreatRows
import Derived.WalkKit
import Derived.ProofKit
import Derived.OpenShut
import Derived.ShutString
import Derived.ChangeOld
import Derived.Below
import Derived.Test.YtgikcfdckddgpaaGreatMS
import Derived.Test.YtgikcfdckddgpaaGreatNQ
import Derived.Test.YtgikcfdckddgpaaGreatNG
import Derived.Test.YtgikcfdckddgpaaGreatNH
import Derived.Test.YtgikcfdckddgpaaGreatND
import Derived.Test.YtgikcfdckddgpaaGreatNC
import Derived.Test.YtgikcfdckddgpaaGreatNF
import Derived.Test.YtgikcfdckddgpaaGreatNP
import Derived.Deep.Cut
import Derived.Deep.RegionHeld3
import Derived.Deep.QuietTactic
import Derived.BigQuiet
namespace Go.Proofs.YtgikcfdckddgpaaGreat.fnStricter
open Go.ChangeShapes Go.WideShapes Go.ChangeAt Go.RowKit
open Go.ChangeMaps (open_string shut_string)
set_option linter.unusedVariables false

theorem own : ownKnob Tryz.prog.godebug = none := by kernel_rfl
theorem laidOut : laidOutB Tryz.prog = true := by kernel_rfl

/-- What the walk is told of a slice of bytes that came in: it is nil, or it leads to a row of cells, each fitting its kind. -/
def IsRow (k : IntKind) (w : World) (a : Option Addr) (len cap : Nat) (zs : List Int) : Prop :=
  (a = none ∧ len = 0 ∧ cap = 0 ∧ zs = []) ∨
  ∃ x, a = some x ∧ len ≤ cap ∧ cap ≤ maxLen ∧ zs.length = cap ∧ (∀ i, i < zs.length → w.cell? (x.add i) = some (.int k (zs.getD i 0))) ∧ ∀ n ∈ zs, (Lit.int k n).wf = true

set_option maxRecDepth 100000 in
set_option maxHeartbeats 8000000 in
theorem walk (a0 : Option Addr) (len0 cap0 : Nat) (z0 : List Int) (w : World) (w0 : IsRow .u8 w a0 len0 cap0 z0) :
    Calls Tryz.prog 4 #[.slice a0 len0 cap0] w fun e w' => e = .returned (.bool true) ∧ Below w.heap.size w w' := by
  by_cases hbig : 4096 < len0
  · have hbb : decide (4096 < len0) = true := by simpa using hbig
    go_enter Tryz.func4, Tryz.ntmps4
    go_wp2_with (go_at_call 9; refine (big_any _ _ _ _).mono ?_; rintro e w' ⟨rfl, rfl⟩)
    go_ret
    exact ⟨rfl, Below.refl _ _⟩
  have hbb : decide (4096 < len0) = false := by simpa using hbig
  obtain ⟨zs, hzl, hrd⟩ : ∃ zs : List Int, zs.length = len0 ∧ RdB w w.heap.size a0 zs := rdb_of_row (by omega) w0
  have hz12 : zs.length ≤ 4096 := by omega
  subst hzl
  clear w0 hbig
  have HRD := Lib.hid hrd
  go_enter Tryz.func4, Tryz.ntmps4
  go_wp2_with fail
  refine (big_any _ _ _ _).mono ?_
  rintro e w' ⟨rfl, rfl⟩
  go_wp2_with fail
  refine (drawStrictOk_any _ a0 cap0 zs hrd).mono ?_
  rintro e w1 ⟨v, vF, vR, dss, f, r, bs, N, rfl, hQ0, hD, oF, oR, ⟨lf, lr⟩, -, k1⟩
  have l1 : dss.length ≤ 1048576 := by have := hD.1; omega
  have l2 : ∀ i, i < dss.length → (dss.getD i []).length ≤ 1048576 := fun i hi => by have := hD.2 i hi; omega
  have L2 := Lib.hid l2
  have hR := hQ0.rd
  have hF := oF.rd
  have hT := oR.rd
  have HCZ := Lib.hid oR.capz
  obtain ⟨aF, cF, rfl, -⟩ := id hF
  obtain ⟨aR, cR, rfl, -⟩ := id hT
  clear hD hbb l2 hQ0 oF oR
  go_upto_region 4 with fail
  obtain ⟨w2, hw⟩ : ∃ W : World, W = w1.alloc (taleC (.slice aF f.length cF) (.slice aR r.length cR)) := ⟨_, rfl⟩
  have x0 : w2.cell? ⟨w1.heap.size, 0, none⟩ = some (.slice aF f.length cF) := by rw [hw]; exact box_cell (Keep.refl _) 0
  have x1 : w2.cell? ⟨w1.heap.size, 1, none⟩ = some (.slice aR r.length cR) := by rw [hw]; exact box_cell (Keep.refl _) 1
  have k2 : Keep w1 w2 := by rw [hw]; exact (Keep.refl _).alloc _
  have xl : w1.heap.size < w2.heap.size := by rw [hw, heap_size]; omega
  rw [← hw]
  clear hw
  have K2 := k1.trans k2
  replace hR := hR.keep k2
  replace hF := hF.keep k2
  replace hT := hT.keep k2
  generalize w1.heap.size = X at x0 x1 xl ⊢
  have H2 := Lib.hid (show RdW w2 v dss ∧ Rd w2 (.slice aF f.length cF) f ∧ Rd w2 (.slice aR r.length cR) r from ⟨hR, hF, hT⟩)
  have HX := Lib.hid (show w2.cell? ⟨X, 0, none⟩ = some (.slice aF f.length cF) ∧ w2.cell? ⟨X, 1, none⟩ = some (.slice aR r.length cR) ∧ X < w2.heap.size from ⟨x0, x1, xl⟩)
  have gy := swB_len dss f r
  have gx := xwB_len dss f r
  have HNO : Hid (taleB dss f r = false → swB dss f r = [] ∧ xwB dss f r = [] ∧ slowB dss f r = false) := Lib.hid (fun h => ⟨by unfold swB; rw [h]; rfl, by unfold xwB; rw [h]; rfl, by unfold slowB; rw [h]; rfl⟩)
  have HIN := Lib.hid (sw_in dss f r)
  have HTS := Lib.hid (fun (h : strictB dss f r = true) => strict_slow h)
  have HSE := Lib.hid (fun (h : slowB dss f r = true) => slow_each h)
  obtain ⟨Y, hY⟩ : ∃ L, L = swB dss f r := ⟨_, rfl⟩
  have HY := Lib.hid hY
  obtain ⟨Z, hZ⟩ : ∃ L, L = xwB dss f r := ⟨_, rfl⟩
  have HZ := Lib.hid hZ
  obtain ⟨E, hE⟩ : ∃ L, L = slowB dss f r := ⟨_, rfl⟩
  have HE := Lib.hid hE
  obtain ⟨T, hT'⟩ : ∃ L, L = strictB dss f r := ⟨_, rfl⟩
  have HTT := Lib.hid hT'
  rw [← hY] at gy HNO HIN
  rw [← hZ] at gx HNO HIN
  rw [← hE] at HNO HTS HSE
  rw [← hT'] at HTS
  clear hY hZ hE hT' k1 k2 hR hF hT
  go_wp2_with fail
  refine (implStrictOk_any _ _ _ _ dss f r H2.out.1 H2.out.2.1 H2.out.2.2 HCZ.out l1 L2.out (by omega) (by omega)).mono ?_
  rw [← HTT.out]
  rintro e w3 ⟨rfl, k3⟩
  have K3 := k3
  replace x0 := (K3.cell HX.out.2.2).trans HX.out.1
  replace x1 := (K3.cell HX.out.2.2).trans HX.out.2.1
  go_wp2_with fail
  refine (implSlowOk_any _ _ _ _ dss f r (H2.out.1.keep K3) (H2.out.2.1.keep K3) (H2.out.2.2.keep K3) HCZ.out l1 L2.out (by omega) (by omega)).mono ?_
  rw [← HE.out]
  rintro e w4 ⟨rfl, k4⟩
  have K4 := K3.trans k4
  replace x0 := (K4.cell HX.out.2.2).trans HX.out.1
  replace x1 := (K4.cell HX.out.2.2).trans HX.out.2.1
  go_wp2_with fail
  refine (implStrictWeb_any _ _ _ _ dss f r (H2.out.1.keep K4) (H2.out.2.1.keep K4) (H2.out.2.2.keep K4) HCZ.out l1 L2.out (by omega) (by omega)).mono ?_
  rw [← HZ.out]
  rintro e w5 ⟨vZ, rfl, rZ, k5⟩
  have K5 := K4.trans k5
  replace x0 := (K5.cell HX.out.2.2).trans HX.out.1
  replace x1 := (K5.cell HX.out.2.2).trans HX.out.2.1
  have qZ := rZ.rd
  obtain ⟨aZ, cZ, rfl, -⟩ := id qZ
  clear rZ
  go_wp2_with fail
  refine (implSlowWeb_any _ _ _ _ dss f r (H2.out.1.keep K5) (H2.out.2.1.keep K5) (H2.out.2.2.keep K5) HCZ.out l1 L2.out (by omega) (by omega)).mono ?_
  rw [← HY.out]
  rintro e w6 ⟨vY, rfl, rY, k6⟩
  have K6 := K5.trans k6
  replace qZ := qZ.keep k6
  replace x0 := (K6.cell HX.out.2.2).trans HX.out.1
  replace x1 := (K6.cell HX.out.2.2).trans HX.out.2.1
  have qY := rY.rd
  obtain ⟨aY, cY, rfl, -⟩ := id qY
  clear rY
  go_wp2_with fail
  refine (drawFromOthers_any _ a0 cap0 zs (hrd.up (K2.trans K6))).mono ?_
  rintro e w7 ⟨vq, vf, qss, fq, rfl, hRq, hDq, hFq, lq, k7⟩
  have K7 := K6.trans k7
  replace qZ := qZ.keep k7
  replace qY := qY.keep k7
  replace x0 := (K7.cell HX.out.2.2).trans HX.out.1
  replace x1 := (K7.cell HX.out.2.2).trans HX.out.2.1
  have m1 : qss.length ≤ 1048576 := by have := hDq.1; omega
  have M2 := Lib.hid (fun i (hi : i < qss.length) => (show (qss.getD i []).length ≤ 1048576 from by have := hDq.2 i hi; omega))
  have go := owB_len qss fq
  have ga := fwB_len qss fq
  have HOI := Lib.hid (ow_in qss fq)
  obtain ⟨O, hO⟩ : ∃ L, L = owB qss fq := ⟨_, rfl⟩
  have HO := Lib.hid hO
  obtain ⟨A, hA⟩ : ∃ L, L = fwB qss fq := ⟨_, rfl⟩
  have HA := Lib.hid hA
  rw [← hO] at go HOI
  rw [← hA] at ga HOI
  clear hO hA hDq
  have H5 := Lib.hid (show RdW w7 vq qss ∧ Rd w7 vf fq from ⟨hRq, hFq⟩)
  clear hRq hFq
  go_wp2_with fail
  refine (implFromOthers_any _ _ _ qss fq H5.out.1 H5.out.2 m1 M2.out (by omega)).mono ?_
  rw [← HO.out]
  rintro e w8 ⟨vO, rfl, rO, k8⟩
  have K8 := K7.trans k8
  have J8 := k8
  replace qZ := qZ.keep k8
  replace qY := qY.keep k8
  replace x0 := (K8.cell HX.out.2.2).trans HX.out.1
  replace x1 := (K8.cell HX.out.2.2).trans HX.out.2.1
  have qO := rO.rd
  obtain ⟨aO, cO, rfl, -⟩ := id qO
  clear rO
  have nT : (T != T) = false := by simp
  have nE : (E != E) = false := by simp
  go_wp2_with fail
  refine (specStrictOk_any _ _ _ _ dss f r (H2.out.1.keep K8) (H2.out.2.1.keep K8) (H2.out.2.2.keep K8) HCZ.out l1 L2.out (by omega) (by omega)).mono ?_
  rw [← HTT.out]
  rintro e w9 ⟨rfl, k9⟩
  have K9 := K8.trans k9
  have J9 := J8.trans k9
  replace qZ := qZ.keep k9
  replace qY := qY.keep k9
  replace qO := qO.keep k9
  replace x0 := (K9.cell HX.out.2.2).trans HX.out.1
  replace x1 := (K9.cell HX.out.2.2).trans HX.out.2.1
  go_wp2_with fail
  refine (specSlowOk_any _ _ _ _ dss f r (H2.out.1.keep K9) (H2.out.2.1.keep K9) (H2.out.2.2.keep K9) HCZ.out l1 L2.out (by omega) (by omega)).mono ?_
  rw [← HE.out]
  rintro e w10 ⟨rfl, k10⟩
  have K10 := K9.trans k10
  have J10 := J9.trans k10
  replace qZ := qZ.keep k10
  replace qY := qY.keep k10
  replace qO := qO.keep k10
  replace x0 := (K10.cell HX.out.2.2).trans HX.out.1
  replace x1 := (K10.cell HX.out.2.2).trans HX.out.2.1
  go_wp2_with fail
  refine (specStrictWeb_any _ _ _ _ dss f r (H2.out.1.keep K10) (H2.out.2.1.keep K10) (H2.out.2.2.keep K10) HCZ.out l1 L2.out (by omega) (by omega)).mono ?_
  rw [← HZ.out]
  rintro e w11 ⟨vs, rfl, rs, k11⟩
  have K11 := K10.trans k11
  have J11 := J10.trans k11
  replace qZ := qZ.keep k11
  replace qY := qY.keep k11
  replace qO := qO.keep k11
  replace x0 := (K11.cell HX.out.2.2).trans HX.out.1
  replace x1 := (K11.cell HX.out.2.2).trans HX.out.2.1
  have C1 := like_any w11 _ _ Z Z qZ rs.rd (by omega)
  rw [decide_eq_true (rfl : Z = Z)] at C1
  go_wp2_with fail
  refine C1.mono ?_
  rintro e w12 ⟨rfl, k12⟩
  have K12 := K11.trans k12
  have J12 := J11.trans k12
  replace qZ := qZ.keep k12
  replace qY := qY.keep k12
  replace qO := qO.keep k12
  replace x0 := (K12.cell HX.out.2.2).trans HX.out.1
  replace x1 := (K12.cell HX.out.2.2).trans HX.out.2.1
  clear C1 rs
  go_wp2_with fail
  refine (specSlowWeb_any _ _ _ _ dss f r (H2.out.1.keep K12) (H2.out.2.1.keep K12) (H2.out.2.2.keep K12) HCZ.out l1 L2.out (by omega) (by omega)).mono ?_
  rw [← HY.out]
  rintro e w13 ⟨vt, rfl, rt, k13⟩
  have K13 := K12.trans k13
  have J13 := J12.trans k13
  replace qZ := qZ.keep k13
  replace qY := qY.keep k13
  replace qO := qO.keep k13
  replace x0 := (K13.cell HX.out.2.2).trans HX.out.1
  replace x1 := (K13.cell HX.out.2.2).trans HX.out.2.1
  have C1 := like_any w13 _ _ Y Y qY rt.rd (by omega)
  rw [decide_eq_true (rfl : Y = Y)] at C1
  go_wp2_with fail
  refine C1.mono ?_
  rintro e w14 ⟨rfl, k14⟩
  have K14 := K13.trans k14
  have J14 := J13.trans k14
  replace qZ := qZ.keep k14
  replace qY := qY.keep k14
  replace qO := qO.keep k14
  replace x0 := (K14.cell HX.out.2.2).trans HX.out.1
  replace x1 := (K14.cell HX.out.2.2).trans HX.out.2.1
  clear C1 rt
  go_wp2_with fail
  refine (specFromOthers_any _ _ _ qss fq (H5.out.1.keep J14) (H5.out.2.keep J14) m1 M2.out (by omega)).mono ?_
  rw [← HO.out]
  rintro e w15 ⟨vu, rfl, ru, k15⟩
  have K15 := K14.trans k15
  have J15 := J14.trans k15
  replace qZ := qZ.keep k15
  replace qY := qY.keep k15
  replace qO := qO.keep k15
  replace x0 := (K15.cell HX.out.2.2).trans HX.out.1
  replace x1 := (K15.cell HX.out.2.2).trans HX.out.2.1
  have C1 := like_any w15 _ _ O O qO ru.rd (by omega)
  rw [decide_eq_true (rfl : O = O)] at C1
  go_wp2_with fail
  refine C1.mono ?_
  rintro e w16 ⟨rfl, k16⟩
  have K16 := K15.trans k16
  have J16 := J15.trans k16
  replace qZ := qZ.keep k16
  replace qY := qY.keep k16
  replace qO := qO.keep k16
  replace x0 := (K16.cell HX.out.2.2).trans HX.out.1
  replace x1 := (K16.cell HX.out.2.2).trans HX.out.2.1
  clear C1 ru
  go_wp2_with fail
  refine (specFromWeb_any _ _ _ qss fq (H5.out.1.keep J16) (H5.out.2.keep J16) m1 M2.out (by omega)).mono ?_
  rw [← HA.out]
  rintro e w17 ⟨va, rfl, ra, k17⟩
  have K17 := K16.trans k17
  have J17 := J16.trans k17
  replace qZ := qZ.keep k17
  replace qY := qY.keep k17
  replace qO := qO.keep k17
  replace x0 := (K17.cell HX.out.2.2).trans HX.out.1
  replace x1 := (K17.cell HX.out.2.2).trans HX.out.2.1
  have qa := ra.rd
  obtain ⟨aa, ca, rfl, -⟩ := id qa
  clear ra
  go_wp2_with fail
  refine (within_yes w17 _ _ O A qO qa (by omega) HOI.out).mono ?_
  rintro e w18 ⟨rfl, k18⟩
  have K18 := K17.trans k18
  have J18 := J17.trans k18
  replace qZ := qZ.keep k18
  replace qY := qY.keep k18
  replace qO := qO.keep k18
  replace x0 := (K18.cell HX.out.2.2).trans HX.out.1
  replace x1 := (K18.cell HX.out.2.2).trans HX.out.2.1
  go_wp2_with fail
  refine (within_yes w18 _ _ Y Z qY qZ (by omega) HIN.out).mono ?_
  rintro e w19 ⟨rfl, k19⟩
  have K19 := K18.trans k19
  have J19 := J18.trans k19
  replace qZ := qZ.keep k19
  replace qY := qY.keep k19
  replace qO := qO.keep k19
  replace x0 := (K19.cell HX.out.2.2).trans HX.out.1
  replace x1 := (K19.cell HX.out.2.2).trans HX.out.2.1
  have CE := fun (W : World) (kW : Keep w2 W) => specEachOk_any W _ _ _ dss f r (H2.out.1.keep kW) (H2.out.2.1.keep kW) (H2.out.2.2.keep kW) HCZ.out l1 L2.out (by omega) (by omega)
  have CT := fun (W : World) (kW : Keep w2 W) => specTaleOk_any W _ _ _ dss f r (H2.out.1.keep kW) (H2.out.2.1.keep kW) (H2.out.2.2.keep kW) HCZ.out l1 L2.out (by omega) (by omega)
  clear nT nE qO qY qZ qa HOI HIN
  cases hE : E
  · have hTf : T = false := by
      cases h : T with
      | false => rfl
      | true => have := HTS.out h; rw [hE] at this; cases this
    subst hE hTf
    go_wp2_with fail
    refine (CT _ K19).mono ?_
    rintro e wz ⟨rfl, kz⟩
    cases ht : taleB dss f r
    · obtain ⟨y0, y1, -⟩ := HNO.out ht
      have yl : ((Y.length : Int) == 0) = true := by rw [y0]; rfl
      have zl : ((Z.length : Int) == 0) = true := by rw [y1]; rfl
      clear y0 y1
      go_wp2
      go_ret
      exact ⟨rfl, K2.trans (K19.trans kz)⟩
    · go_wp2
      go_ret
      exact ⟨rfl, K2.trans (K19.trans kz)⟩
  · have hG := HSE.out hE
    have ht : taleB dss f r = true := (each_parts hG).1
    have CE' := CE w19 K19
    rw [hG] at CE'
    clear HNO HTS HSE hG
    subst hE
    cases T
    · go_wp2_with fail
      refine CE'.mono ?_
      rintro e wy ⟨rfl, ky⟩
      have Ky := K19.trans ky
      have x0 := (Ky.cell HX.out.2.2).trans HX.out.1
      have x1 := (Ky.cell HX.out.2.2).trans HX.out.2.1
      go_wp2_with fail
      refine (CT _ Ky).mono ?_
      rintro e wz ⟨rfl, kz⟩
      rw [ht]
      go_wp2
      go_ret
      exact ⟨rfl, K2.trans (Ky.trans kz)⟩
    · go_wp2_with fail
      refine CE'.mono ?_
      rintro e wy ⟨rfl, ky⟩
      have Ky := K19.trans ky
      have x0 := (Ky.cell HX.out.2.2).trans HX.out.1
      have x1 := (Ky.cell HX.out.2.2).trans HX.out.2.1
      go_wp2_with fail
      refine (CT _ Ky).mono ?_
      rintro e wz ⟨rfl, kz⟩
      rw [ht]
      go_wp2
      go_ret
      exact ⟨rfl, K2.trans (Ky.trans kz)⟩

set_option maxRecDepth 100000 in
theorem lifted (os : Os) (started : os.Started) (H : Type) (enc : TypeId × Value → H) :
    ReturnsInHanded {} Tryz.checked os 4 .any (Rows.fnStricterSpec.pre6 enc Tryz.prog Tryz.f4 Rows.fnStricterRow.domain false) (Rows.fnStricterSpec.post enc Tryz.prog Tryz.f4 false true false false) := by
  refine returnsInHanded_of_change (C := Tryz.checked) own started (by kernel_rfl) Tryz.func4
    (ChangeSpec.witness6 (enc := enc) (C := Tryz.checked) false ⟨#[], #[.slice none 0 0], []⟩ 8 (by kernel_rfl) (by kernel_rfl) (by kernel_rfl) (by kernel_rfl)) ?_
  intro W base args ds gs before hval0 hW hcnd _

  have hval : ∀ (j : Nat) t v, Tryz.f4.params[j]? = some t → args[j]? = some v → Value.okWide Tryz.prog W .any base t v := hval0
  have hW' := hW
  obtain ⟨p, q, hA0, hV, rfl, hfz, hnd⟩ := hW
  have hA : DataW.TrodAll enc Tryz.prog W 0 (fun _ => true) true Tryz.f4.params.toList args.toList ds p := hA0
  rw [Tryz.params4] at hA hval
  obtain ⟨v0, vs0, d0, ds0, p0, q0, hargs, rfl, rfl, h0, r0⟩ := trodAll_cons hA
  obtain ⟨rfl, rfl, rfl⟩ := trodAll_nil r0
  obtain rfl : args = #[v0] := by cases args; simp_all
  obtain ⟨rfl, rfl⟩ := trodVars_none hV
  have k0 := h0
  have lt0 : ∀ x ∈ p0, x.block < W.heap.size := by obtain ⟨m, hm⟩ := k0; exact DataW.trod_lt m _ _ _ hm
  obtain ⟨a0, len0, cap0, rfl⟩ := okWide_slice Tryz.underlying22 (hval 0 22 v0 rfl rfl)
  obtain ⟨z0, w0⟩ : ∃ zs, IsRow .u8 W a0 len0 cap0 zs := by
    obtain ⟨fuel, hf⟩ := h0
    rcases open_ints Tryz.underlying22 Tryz.underlying5 (by kernel_rfl) hf with ⟨hcs, _⟩ | ⟨x, l, c, zs, hcs, _, hl, hm, hz, _, hcell, hwz⟩
    · simp [Value.cells] at hcs
      obtain ⟨rfl, rfl, rfl⟩ := hcs
      exact ⟨[], .inl ⟨rfl, rfl, rfl, rfl⟩⟩
    · simp [Value.cells] at hcs
      obtain ⟨rfl, rfl, rfl⟩ := hcs
      exact ⟨zs, .inr ⟨_, rfl, hl, hm, by simpa using hz, hcell, hwz⟩⟩
  clear hA0 hval0
  refine (walk a0 len0 cap0 z0 W w0).mono fun e W' ⟨he, bel⟩ => ?_
  subst he
  exact ⟨_, rfl, _, _, _, [], _, [], hW', trodAll_mk1 (shut_bool Tryz.underlying4 _), (trodAll_cons_mk (Below.trod laidOut (by kernel_rfl) (of_decide_eq_true (by kernel_rfl)) k0 bel lt0) trodAll_mk0), rfl, bel.frame _, fun h => by cases h⟩

theorem over : Rows.fnStricterRow.holds Tryz.pinned (OpenSpec.ofChange Rows.fnStricterSpec) :=
  OpenClaim.holds_of_wide 4 Tryz.f4 rfl rfl rfl rfl rfl rfl rfl ⟨rfl, rfl, rfl, rfl, rfl⟩ rfl rfl rfl rfl rfl (by kernel_rfl) Tryz.func4 (by kernel_rfl)
    (of_decide_eq_true (by kernel_rfl)) (by unfold Func.isWrapper; first | (rw [if_pos (by decide +kernel)]; kernel_rfl) | (rw [if_neg (by decide +kernel)]; exact ⟨rfl, rfl⟩))
    (fun os started H enc _ => lifted os started H enc)

#print axioms over
end Go.Proofs.YtgikcfdckddgpaaGreat.fnStricter
namespace Go.Proofs.YtgikcfdckddgpaaGreat
theorem fnStricter_holds : Rows.FnStricterSaid := fnStricter.over
end Go.Proofs.YtgikcfdckddgpaaGreat
