/- At every string of bytes the law FnSlow answers true and its argument stays: at what is drawn the program's SlowOk, SlowWeb and FromOthers answer as the specification's do; what may be told with slow ink is right at each place and does not go round as lines of classes, and lines from others are between two clerks. -/
import Derived.Test.YtgikcfdckddgpaaGreatRows
import Derived.WalkKit
import Derived.ProofKit
import Derived.OpenShut
import Derived.ShutString
import Derived.ChangeOld
import Derived.Below
import Derived.Test.YtgikcfdckddgpaaGreatMP
import Derived.Test.YtgikcfdckddgpaaGreatND
import Derived.Test.YtgikcfdckddgpaaGreatNC
import Derived.Test.YtgikcfdckddgpaaGreatNF
import Derived.Test.YtgikcfdckddgpaaGreatNO
import Derived.Test.YtgikcfdckddgpaaGreatML
import Derived.Deep.Cut
import Derived.Deep.RegionHeld3
import Derived.Deep.QuietTactic
import Derived.BigQuiet
namespace Go.Proofs.YtgikcfdckddgpaaGreat.fnSlow
open Go.ChangeShapes Go.WideShapes Go.ChangeAt Go.RowKit
open Go.ChangeMaps (open_string shut_string)
set_option linter.unusedVariables false

theorem own : ownKnob Tryz.prog.godebug = none := by kernel_rfl
theorem laidOut : laidOutB Tryz.prog = true := by kernel_rfl

/-- What the walk is told of a slice of bytes that came in: it is nil, or it leads to a row of cells, each fitting its kind. -/
def IsRow (k : IntKind) (w : World) (a : Option Addr) (len cap : Nat) (zs : List Int) : Prop :=
  (a = none ∧ len = 0 ∧ cap = 0 ∧ zs = []) ∨
  ∃ x, a = some x ∧ len ≤ cap ∧ cap ≤ maxLen ∧ zs.length = cap ∧ (∀ i, i < zs.length → w.cell? (x.add i) = some (.int k (zs.getD i 0))) ∧ ∀ n ∈ zs, (Lit.int k n).wf = true

set_option maxRecDepth 100000 in
set_option maxHeartbeats 8000000 in
theorem walk (a0 : Option Addr) (len0 cap0 : Nat) (z0 : List Int) (w : World) (w0 : IsRow .u8 w a0 len0 cap0 z0) :
    Calls Tryz.prog 3 #[.slice a0 len0 cap0] w fun e w' => e = .returned (.bool true) ∧ Below w.heap.size w w' := by
  by_cases hbig : 4096 < len0
  · have hbb : decide (4096 < len0) = true := by simpa using hbig
    go_enter Tryz.func3, Tryz.ntmps3
    go_wp2_with (go_at_call 9; refine (big_any _ _ _ _).mono ?_; rintro e w' ⟨rfl, rfl⟩)
    go_ret
    exact ⟨rfl, Below.refl _ _⟩
  have hbb : decide (4096 < len0) = false := by simpa using hbig
  obtain ⟨zs, hzl, hrd⟩ : ∃ zs : List Int, zs.length = len0 ∧ RdB w w.heap.size a0 zs := rdb_of_row (by omega) w0
  have hz12 : zs.length ≤ 4096 := by omega
  subst hzl
  clear w0 hbig
  have HRD := Lib.hid hrd
  go_enter Tryz.func3, Tryz.ntmps3
  go_wp2_with fail
  refine (big_any _ _ _ _).mono ?_
  rintro e w' ⟨rfl, rfl⟩
  go_wp2_with fail
  refine (drawSlowWeb_any _ a0 cap0 zs hrd).mono ?_
  rintro e w1 ⟨v, vF, vR, dss, f, r, bs, N, rfl, hQ0, hD, oF, oR, ⟨lf, lr⟩, -, k1⟩
  have l1 : dss.length ≤ 1048576 := by have := hD.1; omega
  have l2 : ∀ i, i < dss.length → (dss.getD i []).length ≤ 1048576 := fun i hi => by have := hD.2 i hi; omega
  have L2 := Lib.hid l2
  have hR := hQ0.rd
  have hF := oF.rd
  have hT := oR.rd
  have HCZ := Lib.hid oR.capz
  obtain ⟨aF, cF, rfl, -⟩ := id hF
  obtain ⟨aR, cR, rfl, -⟩ := id hT
  clear hD hbb l2 hQ0 oF oR
  go_upto_region 4 with fail
  obtain ⟨w2, hw⟩ : ∃ W : World, W = w1.alloc (taleC (.slice aF f.length cF) (.slice aR r.length cR)) := ⟨_, rfl⟩
  have x0 : w2.cell? ⟨w1.heap.size, 0, none⟩ = some (.slice aF f.length cF) := by rw [hw]; exact box_cell (Keep.refl _) 0
  have x1 : w2.cell? ⟨w1.heap.size, 1, none⟩ = some (.slice aR r.length cR) := by rw [hw]; exact box_cell (Keep.refl _) 1
  have k2 : Keep w1 w2 := by rw [hw]; exact (Keep.refl _).alloc _
  have xl : w1.heap.size < w2.heap.size := by rw [hw, heap_size]; omega
  rw [← hw]
  clear hw
  have K2 := k1.trans k2
  replace hR := hR.keep k2
  replace hF := hF.keep k2
  replace hT := hT.keep k2
  generalize w1.heap.size = X at x0 x1 xl ⊢
  have H2 := Lib.hid (show RdW w2 v dss ∧ Rd w2 (.slice aF f.length cF) f ∧ Rd w2 (.slice aR r.length cR) r from ⟨hR, hF, hT⟩)
  have HX := Lib.hid (show w2.cell? ⟨X, 0, none⟩ = some (.slice aF f.length cF) ∧ w2.cell? ⟨X, 1, none⟩ = some (.slice aR r.length cR) ∧ X < w2.heap.size from ⟨x0, x1, xl⟩)
  have gy := swB_len dss f r
  have HNO : Hid (taleB dss f r = false → swB dss f r = [] ∧ slowB dss f r = false) := Lib.hid (fun h => ⟨by unfold swB; rw [h]; rfl, by unfold slowB; rw [h]; rfl⟩)
  have HSF := Lib.hid (fun (h : taleB dss f r = true) => slow_form h)
  obtain ⟨Y, hY⟩ : ∃ L, L = swB dss f r := ⟨_, rfl⟩
  have HY := Lib.hid hY
  obtain ⟨E, hE⟩ : ∃ L, L = slowB dss f r := ⟨_, rfl⟩
  have HE := Lib.hid hE
  rw [← hY] at gy HNO HSF
  rw [← hE] at HNO HSF
  clear hY hE k1 k2 hR hF hT
  go_wp2_with fail
  refine (implSlowOk_any _ _ _ _ dss f r H2.out.1 H2.out.2.1 H2.out.2.2 HCZ.out l1 L2.out (by omega) (by omega)).mono ?_
  rw [← HE.out]
  rintro e w3 ⟨rfl, k3⟩
  replace x0 := (k3.cell HX.out.2.2).trans HX.out.1
  replace x1 := (k3.cell HX.out.2.2).trans HX.out.2.1
  go_wp2_with fail
  refine (implSlowWeb_any _ _ _ _ dss f r (H2.out.1.keep k3) (H2.out.2.1.keep k3) (H2.out.2.2.keep k3) HCZ.out l1 L2.out (by omega) (by omega)).mono ?_
  rw [← HY.out]
  rintro e w4 ⟨vY, rfl, rY, k4⟩
  have K4 := k3.trans k4
  have qY := rY.rd
  obtain ⟨aY, cY, rfl, -⟩ := id qY
  clear rY k3 k4 x0 x1
  go_wp2_with fail
  refine (drawFromOthers_any _ a0 cap0 zs (hrd.up (K2.trans K4))).mono ?_
  rintro e w5 ⟨vq, vf, qss, fq, rfl, hRq, hDq, hFq, lq, k5⟩
  have K5 := K4.trans k5
  replace qY := qY.keep k5
  have m1 : qss.length ≤ 1048576 := by have := hDq.1; omega
  have M2 := Lib.hid (fun i (hi : i < qss.length) => (show (qss.getD i []).length ≤ 1048576 from by have := hDq.2 i hi; omega))
  have go := owB_len qss fq
  have ga := fwB_len qss fq
  have HOC := Lib.hid (fun (h : sourceB qss fq = true) => ow_cell h)
  have HON : Hid (sourceB qss fq = false → owB qss fq = []) := Lib.hid (fun h => by unfold owB; rw [h]; rfl)
  obtain ⟨O, hO⟩ : ∃ L, L = owB qss fq := ⟨_, rfl⟩
  have HO := Lib.hid hO
  rw [← hO] at go HOC HON
  clear hO hDq k5 K4
  have H5 := Lib.hid (show RdW w5 vq qss ∧ Rd w5 vf fq from ⟨hRq, hFq⟩)
  clear hRq hFq
  go_wp2_with fail
  refine (implFromOthers_any _ _ _ qss fq H5.out.1 H5.out.2 m1 M2.out (by omega)).mono ?_
  rw [← HO.out]
  rintro e w6 ⟨vO, rfl, rO, k6⟩
  have K6 := K5.trans k6
  have J6 := k6
  replace qY := qY.keep k6
  have qO := rO.rd
  obtain ⟨aO, cO, rfl, -⟩ := id qO
  have x0 := (K6.cell HX.out.2.2).trans HX.out.1
  have x1 := (K6.cell HX.out.2.2).trans HX.out.2.1
  clear rO k6
  go_wp2_with fail
  refine (specSlowOk_any _ _ _ _ dss f r (H2.out.1.keep K6) (H2.out.2.1.keep K6) (H2.out.2.2.keep K6) HCZ.out l1 L2.out (by omega) (by omega)).mono ?_
  rw [← HE.out]
  rintro e w7 ⟨rfl, k7⟩
  have K7 := K6.trans k7
  have J7 := J6.trans k7
  replace qY := qY.keep k7
  replace qO := qO.keep k7
  replace x0 := (K7.cell HX.out.2.2).trans HX.out.1
  replace x1 := (K7.cell HX.out.2.2).trans HX.out.2.1
  have nE : (E != E) = false := by simp
  go_wp2_with fail
  refine (specSlowWeb_any _ _ _ _ dss f r (H2.out.1.keep K7) (H2.out.2.1.keep K7) (H2.out.2.2.keep K7) HCZ.out l1 L2.out (by omega) (by omega)).mono ?_
  rw [← HY.out]
  rintro e w8 ⟨vt, rfl, rt, k8⟩
  have K8 := K7.trans k8
  have J8 := J7.trans k8
  replace qY := qY.keep k8
  replace qO := qO.keep k8
  have C1 := like_any w8 _ _ Y Y qY rt.rd (by omega)
  rw [decide_eq_true (rfl : Y = Y)] at C1
  go_wp2_with fail
  refine C1.mono ?_
  rintro e w9 ⟨rfl, k9⟩
  have K9 := K8.trans k9
  have J9 := J8.trans k9
  replace qY := qY.keep k9
  replace qO := qO.keep k9
  clear C1 rt k7 k8 k9 K6 K7 K8 J6 J7 J8 x0 x1
  go_wp2_with fail
  refine (specFromOthers_any _ _ _ qss fq (H5.out.1.keep J9) (H5.out.2.keep J9) m1 M2.out (by omega)).mono ?_
  rw [← HO.out]
  rintro e w10 ⟨vu, rfl, ru, k10⟩
  have K10 := K9.trans k10
  have J10 := J9.trans k10
  replace qY := qY.keep k10
  replace qO := qO.keep k10
  have C1 := like_any w10 _ _ O O qO ru.rd (by omega)
  rw [decide_eq_true (rfl : O = O)] at C1
  go_wp2_with fail
  refine C1.mono ?_
  rintro e w11 ⟨rfl, k11⟩
  have K11 := K10.trans k11
  have J11 := J10.trans k11
  replace qY := qY.keep k11
  replace qO := qO.keep k11
  clear C1 ru k10 k11 K9 K10 J9 J10
  go_wp2_with fail
  refine (specFromWeb_any _ _ _ qss fq (H5.out.1.keep J11) (H5.out.2.keep J11) m1 M2.out (by omega)).mono ?_
  rintro e w12 ⟨vA, rfl, rA, k12⟩
  have K12 := K11.trans k12
  have J12 := J11.trans k12
  replace qY := qY.keep k12
  replace qO := qO.keep k12
  have qA := rA.rd
  obtain ⟨aA, cA, rfl, -⟩ := id qA
  clear rA k12 K11 J11
  have L9 := eventsB_len9 qss
  go_wp2_with fail
  refine (specEventsOf_any _ _ qss (H5.out.1.keep J12) m1 M2.out).mono ?_
  rintro e w13 ⟨ve, rfl, ae, k13⟩
  have K13 := K12.trans k13
  replace qY := qY.keep k13
  replace qO := qO.keep k13
  replace qA := qA.keep k13
  have re := ae.rd
  clear ae k13 K12 J12 H5 M2
  generalize eventsB qss = es at *
  generalize fwB qss fq = A at *
  obtain ⟨aE, cE', rfl, -⟩ := id re
  have HLO : Hid (O.length = 0 ∨ (O.length = es.length ∧ A.length = es.length ∧ ∀ i k : Nat, i < es.length → k < es.length → inSetB (O.getD i 0) (k : Int) = (inSetB (A.getD i 0) (k : Int) && (decide (i < 3) || ((es.getD i zE).1 != (es.getD k zE).1))))) := Lib.hid (by
    cases h : sourceB qss fq with
    | true => exact .inr (HOC.out h)
    | false => left; rw [HON.out h]; rfl)
  have HQO := Lib.hid qO
  have HQA := Lib.hid qA
  have HEv := Lib.hid re
  have HQY := Lib.hid qY
  clear qO qA re qY HOC HON
  go_wp2
  go_loopw [12] (fun i wr => ∃ k : Nat, k ≤ O.length ∧ i = .int .i64 k ∧ Keep w13 wr) (fun i _ => O.length - (intOf i).toNat)
  case atStart => exact ⟨0, Nat.zero_le _, rfl, Keep.refl _⟩
  case round =>
    obtain ⟨i, hi, rfl, hK⟩ := hrel
    by_cases hlt : i < O.length
    · have i1 : (0 : Int) ≤ (i : Int) := Int.natCast_nonneg _
      have i2 : (i : Int) < (O.length : Int) := by omega
      go_wp2
      obtain ⟨wo, rfl⟩ : ∃ wo : World, wo = wr := ⟨_, rfl⟩
      go_loopw [13] (fun x wr => ∃ k : Nat, k ≤ O.length ∧ x = .int .i64 k ∧ Keep w13 wr) (fun x _ => O.length - (intOf x).toNat)
      case atStart => exact ⟨0, Nat.zero_le _, rfl, hK⟩
      case round =>
        obtain ⟨k, hk, rfl, hK2⟩ := hrel
        by_cases hlk : k < O.length
        · rcases HLO.out with h0 | ⟨e1, e2, hcell⟩
          · omega
          have hie : i < es.length := by omega
          have hke : k < es.length := by omega
          have hc := hcell i k hie hke
          have lA : i < A.length := by omega
          obtain ⟨a', c', he', hq⟩ := HQO.out.keep hK2
          simp only [Value.slice.injEq, true_and] at he'
          obtain ⟨rfl, rfl⟩ := he'
          rcases hq with h0 | ⟨bo, oo, rfl, hbo, hco⟩
          · exfalso; rw [h0] at hlt; simp at hlt
          obtain ⟨a', c', he', hq⟩ := HQA.out.keep hK2
          simp only [Value.slice.injEq, true_and] at he'
          obtain ⟨rfl, rfl⟩ := he'
          rcases hq with h0 | ⟨ba, oa, rfl, hba, hca⟩
          · exfalso; rw [h0] at lA; simp at lA
          obtain ⟨a', c', he', hq⟩ := HEv.out.keep hK2
          simp only [Value.slice.injEq, Nat.add_left_cancel_iff, true_and] at he'
          obtain ⟨rfl, rfl⟩ := he'
          rcases hq with h0 | ⟨be, oe, rfl, hbe, hce⟩
          · exfalso; rw [h0] at hie; simp at hie
          have d1 := hco i hlt
          have d2 := hca i lA
          have A1 := hce i _ (evs_get hie)
          have A2 := hce k _ (evs_get hke)
          have CO := fun (W : World) => implInSet_any (O.getD i 0) (k : Int) W
          have CA := fun (W : World) => implInSet_any (A.getD i 0) (k : Int) W
          rw [hc] at CO
          generalize O.getD i 0 = zo at d1 CO
          generalize A.getD i 0 = za at d2 CO CA
          generalize inSetB za (k : Int) = B at CO CA
          generalize es.getD i zE = y at A1 CO
          generalize es.getD k zE = u at A2 CO
          obtain ⟨y0, y1, y2, y3, y4, y5⟩ := y
          obtain ⟨u0, u1, u2, u3, u4, u5⟩ := u
          obtain ⟨p0, -, -, -, -, -⟩ := atE A1
          obtain ⟨s0, -, -, -, -, -⟩ := atE A2
          simp only at CO p0 s0
          have j1 : (0 : Int) ≤ (k : Int) := Int.natCast_nonneg _
          have j2 : (k : Int) < (O.length : Int) := by omega
          have j3 : (i : Int) < (A.length : Int) := by omega
          have j4 : (i : Int) < (es.length : Int) := by omega
          have j5 : (k : Int) < (es.length : Int) := by omega
          clear hco hca hce A1 A2 hcell hc e1 e2 HLO HQO HQA HEv HQY H2 HX HY HE HO HCZ L2 HNO HSF K13 K2 K5 HRD hrd hbo hba hbe hK
          cases B
          · have CO : ∀ W : World, Calls Tryz.prog 21 #[.int .i64 zo, .int .i64 (k : Int)] W fun e w' => e = .returned (.bool false) ∧ w' = W := CO
            go_wp2
            go_quiet ((go_at_call 21; first | exact Calls.quiet_of_same (CO _) | exact Calls.quiet_of_same (CA _)))
            go_wp2
            go_roundw
            case rel => exact ⟨k + 1, by omega, by go_num, hK2.drewN _⟩
            case measure => simp [intOf]; omega
          · by_cases h3 : i < 3
            · have g3 : (i : Int) < 3 := by omega
              have b3 : (true && (decide (i < 3) || (y0 != u0))) = true := by rw [decide_eq_true h3]; rfl
              rw [b3] at CO
              clear b3
              go_wp2
              go_quiet ((go_at_call 21; first | exact Calls.quiet_of_same (CO _) | exact Calls.quiet_of_same (CA _)))
              go_wp2
              go_roundw
              case rel => exact ⟨k + 1, by omega, by go_num, hK2.drewN _⟩
              case measure => simp [intOf]; omega
            · have g3 : ¬ ((i : Int) < 3) := by omega
              by_cases hyu : y0 = u0
              · have n0 : (y0 != u0) = false := by simp [hyu]
                have b3 : (true && (decide (i < 3) || (y0 != u0))) = false := by rw [decide_eq_false h3, n0]; rfl
                rw [b3] at CO
                clear b3 hyu
                go_wp2
                go_quiet ((go_at_call 21; first | exact Calls.quiet_of_same (CO _) | exact Calls.quiet_of_same (CA _)))
                go_wp2
                go_roundw
                case rel => exact ⟨k + 1, by omega, by go_num, hK2.drewN _⟩
                case measure => simp [intOf]; omega
              · have n0 : (y0 != u0) = true := by simpa using hyu
                have b3 : (true && (decide (i < 3) || (y0 != u0))) = true := by rw [decide_eq_false h3, n0]; rfl
                rw [b3] at CO
                clear b3 hyu
                go_wp2
                go_quiet ((go_at_call 21; first | exact Calls.quiet_of_same (CO _) | exact Calls.quiet_of_same (CA _)))
                go_wp2
                go_roundw
                case rel => exact ⟨k + 1, by omega, by go_num, hK2.drewN _⟩
                case measure => simp [intOf]; omega
        · obtain rfl : k = O.length := by omega
          go_wp2
          go_roundw
          case rel => exact ⟨i + 1, by omega, by go_num, hK2⟩
          case measure => simp [intOf]; omega
    · obtain rfl : i = O.length := by omega
      have K14 := K13.trans hK
      have x0 := (K14.cell HX.out.2.2).trans HX.out.1
      have x1 := (K14.cell HX.out.2.2).trans HX.out.2.1
      have qY := HQY.out.keep hK
      clear HLO HQO HQA HEv HQY hlt hi
      go_wp2_with fail
      refine (specTaleOk_any _ _ _ _ dss f r (H2.out.1.keep K14) (H2.out.2.1.keep K14) (H2.out.2.2.keep K14) HCZ.out l1 L2.out (by omega) (by omega)).mono ?_
      rintro e w15 ⟨rfl, k15⟩
      have K15 := K14.trans k15
      replace qY := qY.keep k15
      replace x0 := (K15.cell HX.out.2.2).trans HX.out.1
      replace x1 := (K15.cell HX.out.2.2).trans HX.out.2.1
      cases ht : taleB dss f r
      · obtain ⟨y0, y1⟩ := HNO.out ht
        have yl : ((Y.length : Int) == 0) = true := by rw [y0]; rfl
        subst y1
        clear y0
        go_wp2
        go_ret
        exact ⟨rfl, K2.trans K15⟩
      · have SF := HSF.out ht
        have L9 := eventsB_len9 dss
        go_wp2_with fail
        refine (specEachOk_any _ _ _ _ dss f r (H2.out.1.keep K15) (H2.out.2.1.keep K15) (H2.out.2.2.keep K15) HCZ.out l1 L2.out (by omega) (by omega)).mono ?_
        rintro e w16 ⟨rfl, k16⟩
        have K16 := K15.trans k16
        replace qY := qY.keep k16
        generalize eachB dss f r = G at SF ⊢
        cases G
        · replace SF : E = false := SF
          subst SF
          go_wp2
          go_ret
          exact ⟨rfl, K2.trans K16⟩
        · rw [Bool.true_and] at SF
          have HSE := Lib.hid SF
          clear SF
          go_wp2_with fail
          refine (specEventsOf_any _ _ dss (H2.out.1.keep K16) l1 L2.out).mono ?_
          rintro e w17 ⟨vd, rfl, ad, k17⟩
          have K17 := K16.trans k17
          replace qY := qY.keep k17
          have rd := ad.rd
          clear ad k17 K16
          go_wp2_with fail
          refine (specClassesOf_any _ _ _ rd (by omega)).mono ?_
          rintro e w18 ⟨vc, rfl, oc, k18⟩
          have K18 := K17.trans k18
          replace qY := qY.keep k18
          have hcl : (clsB (eventsB dss)).length ≤ 1048576 := by unfold clsB; split <;> simp; omega
          go_wp2_with fail
          refine (specLifted_any _ _ _ _ _ qY oc.rd (by omega) hcl).mono ?_
          rintro e w19 ⟨vl, rfl, rl, k19⟩
          have K19 := K18.trans k19
          have hll : (liftL Y (clsB (eventsB dss))).length ≤ 1048576 := by have := liftL_len Y (clsB (eventsB dss)); omega
          go_wp2_with fail
          refine (specRound_any _ _ _ _ rl hll).mono ?_
          rintro e w20 ⟨rfl, k20⟩
          have K20 := K19.trans k20
          have e1 := HSE.out
          generalize roundB (liftL Y (clsB (eventsB dss))) = RB at e1 ⊢
          subst e1
          cases RB
          · go_wp2
            go_ret
            exact ⟨rfl, K2.trans K20⟩
          · go_wp2
            go_ret
            exact ⟨rfl, K2.trans K20⟩

set_option maxRecDepth 100000 in
theorem lifted (os : Os) (started : os.Started) (H : Type) (enc : TypeId × Value → H) :
    ReturnsInHanded {} Tryz.checked os 3 .any (Rows.fnSlowSpec.pre6 enc Tryz.prog Tryz.f3 Rows.fnSlowRow.domain false) (Rows.fnSlowSpec.post enc Tryz.prog Tryz.f3 false true false false) := by
  refine returnsInHanded_of_change (C := Tryz.checked) own started (by kernel_rfl) Tryz.func3
    (ChangeSpec.witness6 (enc := enc) (C := Tryz.checked) false ⟨#[], #[.slice none 0 0], []⟩ 8 (by kernel_rfl) (by kernel_rfl) (by kernel_rfl) (by kernel_rfl)) ?_
  intro W base args ds gs before hval0 hW hcnd _

  have hval : ∀ (j : Nat) t v, Tryz.f3.params[j]? = some t → args[j]? = some v → Value.okWide Tryz.prog W .any base t v := hval0
  have hW' := hW
  obtain ⟨p, q, hA0, hV, rfl, hfz, hnd⟩ := hW
  have hA : DataW.TrodAll enc Tryz.prog W 0 (fun _ => true) true Tryz.f3.params.toList args.toList ds p := hA0
  rw [Tryz.params3] at hA hval
  obtain ⟨v0, vs0, d0, ds0, p0, q0, hargs, rfl, rfl, h0, r0⟩ := trodAll_cons hA
  obtain ⟨rfl, rfl, rfl⟩ := trodAll_nil r0
  obtain rfl : args = #[v0] := by cases args; simp_all
  obtain ⟨rfl, rfl⟩ := trodVars_none hV
  have k0 := h0
  have lt0 : ∀ x ∈ p0, x.block < W.heap.size := by obtain ⟨m, hm⟩ := k0; exact DataW.trod_lt m _ _ _ hm
  obtain ⟨a0, len0, cap0, rfl⟩ := okWide_slice Tryz.underlying22 (hval 0 22 v0 rfl rfl)
  obtain ⟨z0, w0⟩ : ∃ zs, IsRow .u8 W a0 len0 cap0 zs := by
    obtain ⟨fuel, hf⟩ := h0
    rcases open_ints Tryz.underlying22 Tryz.underlying5 (by kernel_rfl) hf with ⟨hcs, _⟩ | ⟨x, l, c, zs, hcs, _, hl, hm, hz, _, hcell, hwz⟩
    · simp [Value.cells] at hcs
      obtain ⟨rfl, rfl, rfl⟩ := hcs
      exact ⟨[], .inl ⟨rfl, rfl, rfl, rfl⟩⟩
    · simp [Value.cells] at hcs
      obtain ⟨rfl, rfl, rfl⟩ := hcs
      exact ⟨zs, .inr ⟨_, rfl, hl, hm, by simpa using hz, hcell, hwz⟩⟩
  clear hA0 hval0
  refine (walk a0 len0 cap0 z0 W w0).mono fun e W' ⟨he, bel⟩ => ?_
  subst he
  exact ⟨_, rfl, _, _, _, [], _, [], hW', trodAll_mk1 (shut_bool Tryz.underlying4 _), (trodAll_cons_mk (Below.trod laidOut (by kernel_rfl) (of_decide_eq_true (by kernel_rfl)) k0 bel lt0) trodAll_mk0), rfl, bel.frame _, fun h => by cases h⟩

theorem over : Rows.fnSlowRow.holds Tryz.pinned (OpenSpec.ofChange Rows.fnSlowSpec) :=
  OpenClaim.holds_of_wide 3 Tryz.f3 rfl rfl rfl rfl rfl rfl rfl ⟨rfl, rfl, rfl, rfl, rfl⟩ rfl rfl rfl rfl rfl (by kernel_rfl) Tryz.func3 (by kernel_rfl)
    (of_decide_eq_true (by kernel_rfl)) (by unfold Func.isWrapper; first | (rw [if_pos (by decide +kernel)]; kernel_rfl) | (rw [if_neg (by decide +kernel)]; exact ⟨rfl, rfl⟩))
    (fun os started H enc _ => lifted os started H enc)

#print axioms over
end Go.Proofs.YtgikcfdckddgpaaGreat.fnSlow
namespace Go.Proofs.YtgikcfdckddgpaaGreat
theorem fnSlow_holds : Rows.FnSlowSaid := fnSlow.over
end Go.Proofs.YtgikcfdckddgpaaGreat
