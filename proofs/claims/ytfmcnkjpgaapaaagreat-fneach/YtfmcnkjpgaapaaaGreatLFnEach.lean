/- At every string of bytes the law FnEach answers true and its argument stays: at what is drawn the program's EachOk and PlaceWeb answer as the specification's do; where no place runs back a read is from no later write of its clerk, and from its last one there or from one that came later. -/
import Derived.Test.YtfmcnkjpgaapaaaGreatRows
import Derived.WalkKit
import Derived.ProofKit
import Derived.OpenShut
import Derived.ShutString
import Derived.ChangeOld
import Derived.Below
import Derived.Test.YtfmcnkjpgaapaaaGreatEokI
import Derived.Test.YtfmcnkjpgaapaaaGreatMD
import Derived.Test.YtfmcnkjpgaapaaaGreatRoundI
import Derived.Test.YtfmcnkjpgaapaaaGreatEachOkS
import Derived.Test.YtfmcnkjpgaapaaaGreatEachS
import Derived.Test.YtfmcnkjpgaapaaaGreatDEachOk
import Derived.Test.YtfmcnkjpgaapaaaGreatRowsS
import Derived.Test.YtfmcnkjpgaapaaaGreatInSetS
import Derived.Test.YtfmcnkjpgaapaaaGreatEvOfS
import Derived.Test.YtfmcnkjpgaapaaaGreatLawA
import Derived.Test.YtfmcnkjpgaapaaaGreatMC
import Derived.Deep.Cut
import Derived.Deep.RegionHeld3
import Derived.Deep.QuietTactic
import Derived.BigQuiet
namespace Go.Proofs.YtfmcnkjpgaapaaaGreat.fnEach
open Go.ChangeShapes Go.WideShapes Go.ChangeAt Go.RowKit
open Go.ChangeMaps (open_string shut_string)
set_option linter.unusedVariables false

theorem own : ownKnob Tryz.prog.godebug = none := by kernel_rfl
theorem laidOut : laidOutB Tryz.prog = true := by kernel_rfl

/-- What the walk is told of a slice of bytes that came in: it is nil, or it leads to a row of cells, each fitting its kind. -/
def IsRow (k : IntKind) (w : World) (a : Option Addr) (len cap : Nat) (zs : List Int) : Prop :=
  (a = none ∧ len = 0 ∧ cap = 0 ∧ zs = []) ∨
  ∃ x, a = some x ∧ len ≤ cap ∧ cap ≤ maxLen ∧ zs.length = cap ∧ (∀ i, i < zs.length → w.cell? (x.add i) = some (.int k (zs.getD i 0))) ∧ ∀ n ∈ zs, (Lit.int k n).wf = true

set_option maxRecDepth 100000 in
set_option maxHeartbeats 8000000 in
theorem walk (a0 : Option Addr) (len0 cap0 : Nat) (z0 : List Int) (w : World) (w0 : IsRow .u8 w a0 len0 cap0 z0) :
    Calls Tryz.prog 3 #[.slice a0 len0 cap0] w fun e w' => e = .returned (.bool true) ∧ Below w.heap.size w w' := by
  by_cases hbig : 4096 < len0
  · have hbb : decide (4096 < len0) = true := by simpa using hbig
    go_enter Tryz.func3, Tryz.ntmps3
    go_wp2_with (go_at_call 6; refine (big_any _ _ _ _).mono ?_; rintro e w' ⟨rfl, rfl⟩)
    go_ret
    exact ⟨rfl, Below.refl _ _⟩
  have hbb : decide (4096 < len0) = false := by simpa using hbig
  obtain ⟨zs, hzl, hrd⟩ : ∃ zs : List Int, zs.length = len0 ∧ RdB w w.heap.size a0 zs := rdb_of_row (by omega) w0
  have hz12 : zs.length ≤ 4096 := by omega
  subst hzl
  clear w0 hbig
  go_enter Tryz.func3, Tryz.ntmps3
  go_wp2_with fail
  refine (big_any _ _ _ _).mono ?_
  rintro e w' ⟨rfl, rfl⟩
  go_wp2_with fail
  refine (drawEachOk_any _ a0 cap0 zs hrd).mono ?_
  rintro e w1 ⟨v, vF, vR, dss, f, r, bs, N, rfl, hQ0, hD, oF, oR, ⟨lf, lr⟩, -, k1⟩
  have l1 : dss.length ≤ 1048576 := by have := hD.1; omega
  have l2 : ∀ i, i < dss.length → (dss.getD i []).length ≤ 1048576 := fun i hi => by have := hD.2 i hi; omega
  have L2 := Lib.hid l2
  have hR := hQ0.rd
  have hF := oF.rd
  have hT := oR.rd
  have HCZ := Lib.hid oR.capz
  obtain ⟨aF, cF, rfl, -⟩ := id hF
  obtain ⟨aR, cR, rfl, -⟩ := id hT
  clear hD hbb l2 hQ0 oF oR
  go_upto_region 4 with fail
  obtain ⟨w2, hw⟩ : ∃ W : World, W = w1.alloc (taleC (.slice aF f.length cF) (.slice aR r.length cR)) := ⟨_, rfl⟩
  have x0 : w2.cell? ⟨w1.heap.size, 0, none⟩ = some (.slice aF f.length cF) := by rw [hw]; exact box_cell (Keep.refl _) 0
  have x1 : w2.cell? ⟨w1.heap.size, 1, none⟩ = some (.slice aR r.length cR) := by rw [hw]; exact box_cell (Keep.refl _) 1
  have k2 : Keep w1 w2 := by rw [hw]; exact (Keep.refl _).alloc _
  have xl : w1.heap.size < w2.heap.size := by rw [hw, heap_size]; omega
  rw [← hw]
  clear hw
  have K2 := k1.trans k2
  replace hR := hR.keep k2
  replace hF := hF.keep k2
  replace hT := hT.keep k2
  generalize w1.heap.size = X at x0 x1 xl ⊢
  have H2 := Lib.hid (show RdW w2 v dss ∧ Rd w2 (.slice aF f.length cF) f ∧ Rd w2 (.slice aR r.length cR) r from ⟨hR, hF, hT⟩)
  have HX := Lib.hid (show w2.cell? ⟨X, 0, none⟩ = some (.slice aF f.length cF) ∧ w2.cell? ⟨X, 1, none⟩ = some (.slice aR r.length cR) ∧ X < w2.heap.size from ⟨x0, x1, xl⟩)
  have gp := pwB_len dss f r
  have HNO : Hid (taleB dss f r = false → pwB dss f r = []) := Lib.hid (fun h => by unfold pwB; rw [h]; rfl)
  have HEB : Hid (taleB dss f r = true → eachB dss f r = !roundB (pwB dss f r)) := Lib.hid (fun h => by unfold eachB pwB; rw [h, if_pos rfl]; rfl)
  have HTL : Hid (eachB dss f r = true → taleB dss f r = true) := Lib.hid (fun h => (each_parts h).1)
  have HLAW := Lib.hid (fun (h : eachB dss f r = true) (i ra k : Nat) (hi : i < (idxB rdE (eventsB dss)).length) (er : (idxB rdE (eventsB dss)).getD i 0 = (ra : Int)) (hk : k < (eventsB dss).length) hw hc hp => each_use h hi er hk hw hc hp)
  obtain ⟨P, hP⟩ : ∃ L, L = pwB dss f r := ⟨_, rfl⟩
  have HP := Lib.hid hP
  rw [← hP] at gp HNO HEB
  clear hP k1 k2 hR hF hT
  have CE := fun (W : World) (kW : Keep w2 W) => implEachOk_any W _ _ _ dss f r (H2.out.1.keep kW) (H2.out.2.1.keep kW) (H2.out.2.2.keep kW) HCZ.out l1 L2.out (by omega) (by omega)
  have CF := fun (W : World) (kW : Keep w2 W) => specEachOk_any W _ _ _ dss f r (H2.out.1.keep kW) (H2.out.2.1.keep kW) (H2.out.2.2.keep kW) HCZ.out l1 L2.out (by omega) (by omega)
  cases hE : eachB dss f r
  · clear HTL HLAW
    rw [hE] at CE CF
    go_wp2_with fail
    refine (CE _ (Keep.refl _)).mono ?_
    rintro e w3 ⟨rfl, k3⟩
    have K3 := k3
    replace x0 := (k3.cell HX.out.2.2).trans HX.out.1
    replace x1 := (k3.cell HX.out.2.2).trans HX.out.2.1
    go_wp2_with fail
    refine (implPlaceWeb_any _ _ _ _ dss f r (H2.out.1.keep K3) (H2.out.2.1.keep K3) (H2.out.2.2.keep K3) HCZ.out l1 L2.out (by omega) (by omega)).mono ?_
    rw [← HP.out]
    rintro e w4 ⟨vP, rfl, rP, k4⟩
    have K4 := K3.trans k4
    have qP := rP.rd
    obtain ⟨aP, cP, rfl, -⟩ := id qP
    replace x0 := (K4.cell HX.out.2.2).trans HX.out.1
    replace x1 := (K4.cell HX.out.2.2).trans HX.out.2.1
    clear rP k3 k4 K3
    go_wp2_with fail
    refine (CF _ K4).mono ?_
    rintro e w5 ⟨rfl, k5⟩
    have K5 := K4.trans k5
    replace qP := qP.keep k5
    replace x0 := (K5.cell HX.out.2.2).trans HX.out.1
    replace x1 := (K5.cell HX.out.2.2).trans HX.out.2.1
    go_wp2_with fail
    refine (specPlaceWeb_any _ _ _ _ dss f r (H2.out.1.keep K5) (H2.out.2.1.keep K5) (H2.out.2.2.keep K5) HCZ.out l1 L2.out (by omega) (by omega)).mono ?_
    rw [← HP.out]
    rintro e w6 ⟨vt, rfl, rt, k6⟩
    have K6 := K5.trans k6
    replace qP := qP.keep k6
    have C1 := like_any w6 _ _ P P qP rt.rd (by omega)
    rw [decide_eq_true (rfl : P = P)] at C1
    go_wp2_with fail
    refine C1.mono ?_
    rintro e w7 ⟨rfl, k7⟩
    have K7 := K6.trans k7
    replace qP := qP.keep k7
    replace x0 := (K7.cell HX.out.2.2).trans HX.out.1
    replace x1 := (K7.cell HX.out.2.2).trans HX.out.2.1
    clear C1 rt k5 k6 k7 K4 K5 K6
    go_wp2_with fail
    refine (specTaleOk_any _ _ _ _ dss f r (H2.out.1.keep K7) (H2.out.2.1.keep K7) (H2.out.2.2.keep K7) HCZ.out l1 L2.out (by omega) (by omega)).mono ?_
    rintro e w8 ⟨rfl, k8⟩
    have K8 := K7.trans k8
    replace qP := qP.keep k8
    replace x0 := (K8.cell HX.out.2.2).trans HX.out.1
    replace x1 := (K8.cell HX.out.2.2).trans HX.out.2.1
    clear k8 K7
    cases ht : taleB dss f r
    · have e1 := HNO.out ht
      have a0' : ((P.length : Int) == 0) = true := by rw [e1]; rfl
      clear e1
      go_wp2
      go_ret
      exact ⟨rfl, K2.trans K8⟩
    · have hRB : roundB P = true := by have := HEB.out ht; rw [hE] at this; cases h : roundB P; rw [h] at this; cases this; rfl
      have CR := implRound_any w8 _ P qP (by omega)
      rw [hRB] at CR
      go_wp2_with fail
      refine CR.mono ?_
      rintro e w9 ⟨rfl, k9⟩
      go_wp2
      go_ret
      exact ⟨rfl, K2.trans (K8.trans k9)⟩
  · have ht := HTL.out hE
    have hRB : roundB P = false := by have := HEB.out ht; rw [hE] at this; cases h : roundB P; rfl; rw [h] at this; cases this
    have HL := Lib.hid (HLAW.out hE)
    obtain ⟨hb0, hs0, hr0⟩ := tale_use ht
    have SRC := Lib.hid (src_use (eventsB_12 dss) hs0)
    have HRW : Hid (rwB dss r = rwL (eventsB dss) r) := Lib.hid (by rw [rwB, rowsB, hb0, hr0]; rfl)
    have HWL : Hid ((rwL (eventsB dss) r).length = (eventsB dss).length) := Lib.hid ((web_rwAll (eventsB_12 dss) (rows_use (eventsB_12 dss) hr0).2.2 r.length (Nat.le_refl _)).1.2.1)
    have HRD := Lib.hid (fun (i : Nat) (hi : i < (idxB rdE (eventsB dss)).length) => rd_at (eventsB_12 dss) hi)
    have HBG := Lib.hid (fun (j : Nat) (hj : j < 3) => beg_wr hb0 hj)
    clear HNO HEB HTL HLAW hb0 hs0 hr0
    rw [hE] at CE CF
    go_wp2_with fail
    refine (CE _ (Keep.refl _)).mono ?_
    rintro e w3 ⟨rfl, k3⟩
    have K3 := k3
    replace x0 := (k3.cell HX.out.2.2).trans HX.out.1
    replace x1 := (k3.cell HX.out.2.2).trans HX.out.2.1
    go_wp2_with fail
    refine (implPlaceWeb_any _ _ _ _ dss f r (H2.out.1.keep K3) (H2.out.2.1.keep K3) (H2.out.2.2.keep K3) HCZ.out l1 L2.out (by omega) (by omega)).mono ?_
    rw [← HP.out]
    rintro e w4 ⟨vP, rfl, rP, k4⟩
    have K4 := K3.trans k4
    have qP := rP.rd
    obtain ⟨aP, cP, rfl, -⟩ := id qP
    replace x0 := (K4.cell HX.out.2.2).trans HX.out.1
    replace x1 := (K4.cell HX.out.2.2).trans HX.out.2.1
    clear rP k3 k4 K3
    go_wp2_with fail
    refine (CF _ K4).mono ?_
    rintro e w5 ⟨rfl, k5⟩
    have K5 := K4.trans k5
    replace qP := qP.keep k5
    replace x0 := (K5.cell HX.out.2.2).trans HX.out.1
    replace x1 := (K5.cell HX.out.2.2).trans HX.out.2.1
    go_wp2_with fail
    refine (specPlaceWeb_any _ _ _ _ dss f r (H2.out.1.keep K5) (H2.out.2.1.keep K5) (H2.out.2.2.keep K5) HCZ.out l1 L2.out (by omega) (by omega)).mono ?_
    rw [← HP.out]
    rintro e w6 ⟨vt, rfl, rt, k6⟩
    have K6 := K5.trans k6
    replace qP := qP.keep k6
    have C1 := like_any w6 _ _ P P qP rt.rd (by omega)
    rw [decide_eq_true (rfl : P = P)] at C1
    go_wp2_with fail
    refine C1.mono ?_
    rintro e w7 ⟨rfl, k7⟩
    have K7 := K6.trans k7
    replace qP := qP.keep k7
    replace x0 := (K7.cell HX.out.2.2).trans HX.out.1
    replace x1 := (K7.cell HX.out.2.2).trans HX.out.2.1
    clear C1 rt k5 k6 k7 K4 K5 K6
    go_wp2_with fail
    refine (specTaleOk_any _ _ _ _ dss f r (H2.out.1.keep K7) (H2.out.2.1.keep K7) (H2.out.2.2.keep K7) HCZ.out l1 L2.out (by omega) (by omega)).mono ?_
    rintro e w8 ⟨rfl, k8⟩
    have K8 := K7.trans k8
    replace qP := qP.keep k8
    replace x0 := (K8.cell HX.out.2.2).trans HX.out.1
    replace x1 := (K8.cell HX.out.2.2).trans HX.out.2.1
    clear k8 K7
    rw [ht]
    have CR := implRound_any w8 _ P qP (by omega)
    rw [hRB] at CR
    go_wp2_with fail
    refine CR.mono ?_
    rintro e w9 ⟨rfl, k9⟩
    have K9 := K8.trans k9
    replace x0 := (K9.cell HX.out.2.2).trans HX.out.1
    replace x1 := (K9.cell HX.out.2.2).trans HX.out.2.1
    have L9 := eventsB_len9 dss
    clear CR qP k9 K8 hRB ht hE CE CF
    go_wp2_with fail
    refine (specEventsOf_any _ _ dss (H2.out.1.keep K9) l1 L2.out).mono ?_
    rintro e w11 ⟨ve, rfl, ae, k11⟩
    have K11 := K9.trans k11
    have re := ae.rd
    have CW := fun (W : World) (kW : Keep w2 W) => specRowWeb_any W _ _ dss r (H2.out.1.keep kW) (H2.out.2.2.keep kW) HCZ.out l1 L2.out (by omega)
    rw [HRW.out] at CW
    clear ae k11 K9 HRW
    generalize eventsB dss = es at *
    generalize rwL es r = RW at *
    obtain ⟨aE, cE', rfl, -⟩ := id re
    go_wp2_with fail
    refine (specReadsOf_any _ _ _ re (by omega)).mono ?_
    rintro e w12 ⟨vr, rfl, or', k12⟩
    have K12 := K11.trans k12
    replace re := re.keep k12
    have hrn : (idxB rdE es).length ≤ 12 := by
      unfold idxB
      rw [if_pos (by omega)]
      have := idxK_len rdE es es.length
      omega
    generalize idxB rdE es = rs at *
    replace x1 := (K12.cell HX.out.2.2).trans HX.out.2.1
    have qr := or'.rd
    obtain ⟨ar, cr, rfl, -⟩ := id qr
    clear or' k12 K11
    go_wp2_with fail
    refine (CW _ K12).mono ?_
    rintro e w13 ⟨vw, rfl, rw', k13⟩
    have K13 := K12.trans k13
    replace re := re.keep k13
    replace qr := qr.keep k13
    have qw := rw'.rd
    obtain ⟨aw, cw, rfl, -⟩ := id qw
    have HEv := Lib.hid re
    have HQr := Lib.hid qr
    have HQw := Lib.hid qw
    clear re qr qw rw' k13 K12 CW x0 x1
    go_wp2
    go_loopw [10] (fun i wr => ∃ k : Nat, k ≤ rs.length ∧ i = .int .i64 k ∧ Keep w13 wr) (fun i _ => rs.length - (intOf i).toNat)
    case atStart => exact ⟨0, Nat.zero_le _, rfl, Keep.refl _⟩
    case round =>
      obtain ⟨k, hk, rfl, hK⟩ := hrel
      by_cases hlt : k < rs.length
      · have i1 : (0 : Int) ≤ (k : Int) := Int.natCast_nonneg _
        have i2 : (k : Int) < (rs.length : Int) := by omega
        have lF : k < f.length := by have := SRC.out.1; omega
        have i3 : (k : Int) < (f.length : Int) := by omega
        obtain ⟨⟨f0, f1⟩, -⟩ := SRC.out.2 k hlt
        obtain ⟨fa, hfa⟩ := Int.eq_ofNat_of_zero_le f0
        obtain ⟨⟨r0, r1⟩, hrr⟩ := HRD.out k hlt
        obtain ⟨ra, hra⟩ := Int.eq_ofNat_of_zero_le r0
        rw [hra, Int.toNat_natCast] at hrr
        have hral : ra < es.length := by omega
        have i4 : (0 : Int) ≤ (ra : Int) := Int.natCast_nonneg _
        have i5 : (ra : Int) < (es.length : Int) := by omega
        have ra3 : 3 ≤ ra := by
          by_cases h3 : ra < 3
          · have := HBG.out ra h3; rw [hrr] at this; cases this
          · omega
        have HU := Lib.hid (fun (q : Nat) (hq : q < es.length) hw hc hp => HL.out k ra q hlt hra hq hw hc hp)
        rw [hfa, Int.toNat_natCast] at HU
        clear f0 f1 r0 r1
        go_wp2
        obtain ⟨wo, rfl⟩ : ∃ wo : World, wo = wr := ⟨_, rfl⟩
        go_loopw [11] (fun i wr => ∃ q : Nat, 3 ≤ q ∧ (q ≤ es.length ∨ q = 3) ∧ i = .int .i64 q ∧ Keep w13 wr) (fun i _ => es.length - (intOf i).toNat)
        case atStart => exact ⟨3, Nat.le_refl _, .inr rfl, rfl, hK⟩
        case round =>
          obtain ⟨q, h3, hq, rfl, hK2⟩ := hrel
          by_cases hlq : q < es.length
          · have K14 := K13.trans hK2
            have x0 := (K14.cell HX.out.2.2).trans HX.out.1
            obtain ⟨a', c', he', hc⟩ := (H2.out.2.1).keep K14
            simp only [Value.slice.injEq, true_and] at he'
            obtain ⟨rfl, rfl⟩ := he'
            rcases hc with h0 | ⟨bf, off, rfl, hbf, hcf⟩
            · exfalso; rw [h0] at lF; simp at lF
            obtain ⟨a', c', he', hc⟩ := HQr.out.keep hK2
            simp only [Value.slice.injEq, true_and] at he'
            obtain ⟨rfl, rfl⟩ := he'
            rcases hc with h0 | ⟨br, orr, rfl, hbr, hcr⟩
            · exfalso; rw [h0] at hlt; simp at hlt
            have lW : q < RW.length := by rw [HWL.out]; exact hlq
            obtain ⟨a', c', he', hc⟩ := HQw.out.keep hK2
            simp only [Value.slice.injEq, true_and] at he'
            obtain ⟨rfl, rfl⟩ := he'
            rcases hc with h0 | ⟨bw, ow, rfl, hbw, hcw⟩
            · exfalso; rw [h0] at lW; simp at lW
            obtain ⟨a', c', he', hc⟩ := HEv.out.keep hK2
            simp only [Value.slice.injEq, Nat.add_left_cancel_iff, true_and] at he'
            obtain ⟨rfl, rfl⟩ := he'
            rcases hc with h0 | ⟨be, oe, rfl, hbe, hce⟩
            · exfalso; rw [h0] at hlq; simp at hlq
            have d1 := hcf k lF
            have d2 := hcr k hlt
            have d3 := hcw q lW
            have A1 := hce q _ (evs_get hlq)
            have A2 := hce ra _ (evs_get hral)
            rw [hfa] at d1
            rw [hra] at d2
            have HV := HU.out q hlq
            unfold line at HV
            generalize RW.getD q 0 = z at d3 HV
            generalize es.getD q zE = y at A1 HV
            generalize es.getD ra zE = u at A2 HV
            obtain ⟨y0, y1, y2, y3, y4, y5⟩ := y
            obtain ⟨u0, u1, u2, u3, u4, u5⟩ := u
            obtain ⟨p0, -, p2, p3, -, -⟩ := atE A1
            obtain ⟨s0, -, -, s3, -, -⟩ := atE A2
            simp only at HV p0 p2 p3 s0 s3
            have j1 : (0 : Int) ≤ (q : Int) := Int.natCast_nonneg _
            have j2 : (q : Int) < (es.length : Int) := by omega
            have j3 : (q : Int) < (RW.length : Int) := by omega
            have CI := fun (W : World) => specInSet_any z (fa : Int) W
            clear hcf hcr hcw hce A1 A2 HL SRC HWL HRD HBG HU HEv HQr HQw H2 HX HP HCZ L2 K13 K14 K2 hK hbf hbr hbw hbe
            cases y2
            · by_cases e0 : y0 = u0
              · by_cases e3 : y3 = u3
                · have HW := HV rfl (.inr ⟨h3, ra3, e0⟩) e3
                  clear HV
                  have n0 : (y0 != u0) = false := by simp [e0]
                  have n3 : (y3 != u3) = false := by simp [e3]
                  clear e0 e3
                  by_cases hgt : ra < q
                  · have g1 : (ra : Int) < (q : Int) := by omega
                    have g2 : ¬ ((q : Int) < (ra : Int)) := by omega
                    have g3 : ((fa : Int) == (q : Int)) = false := by have := HW.1 hgt; simpa using this
                    have g1n : ra < q := hgt
                    have g2n : ¬ (q < ra) := by omega
                    clear HW CI
                    go_wp2
                    go_quiet (fail)
                    go_wp2
                    go_quiet (fail)
                    go_wp2
                    go_roundw
                    case rel => exact ⟨q + 1, by omega, .inl (by omega), by go_num, hK2.drewN _⟩
                    case measure => simp [intOf]; omega
                  · by_cases hlo : q < ra
                    · have g1 : ¬ ((ra : Int) < (q : Int)) := by omega
                      have g2 : (q : Int) < (ra : Int) := by omega
                      have g1n : ¬ (ra < q) := hgt
                      have g2n : q < ra := hlo
                      by_cases hfq : (fa : Int) = (q : Int)
                      · have g3 : ((fa : Int) != (q : Int)) = false := by simp [hfq]
                        have g4 : ((fa : Int) == (q : Int)) = true := by simp [hfq]
                        clear HW CI hfq
                        go_wp2
                        go_quiet (fail)
                        go_wp2
                        go_quiet (fail)
                        go_wp2
                        go_roundw
                        case rel => exact ⟨q + 1, by omega, .inl (by omega), by go_num, hK2.drewN _⟩
                        case measure => simp [intOf]; omega
                      · have g3 : ((fa : Int) != (q : Int)) = true := by simpa using hfq
                        have g4 : ((fa : Int) == (q : Int)) = false := by simpa using hfq
                        have g5 : inSetB z (fa : Int) = true := HW.2 hlo hfq
                        rw [g5] at CI
                        clear HW hfq g5
                        go_wp2
                        go_quiet (fail)
                        go_wp2
                        go_quiet ((go_at_call 18; exact (CI _).mono (fun _ _ hh => ⟨hh.1, _, hh.2⟩)))
                        go_wp2
                        go_roundw
                        case rel => exact ⟨q + 1, by omega, .inl (by omega), by go_num, hK2.drewN _⟩
                        case measure => simp [intOf]; omega
                    · have g1n : ¬ (ra < q) := hgt
                      have g2n : ¬ (q < ra) := hlo
                      have g1 : ¬ ((ra : Int) < (q : Int)) := by omega
                      have g2 : ¬ ((q : Int) < (ra : Int)) := by omega
                      clear HW CI
                      go_wp2
                      go_quiet (fail)
                      go_wp2
                      go_quiet (fail)
                      go_wp2
                      go_roundw
                      case rel => exact ⟨q + 1, by omega, .inl (by omega), by go_num, hK2.drewN _⟩
                      case measure => simp [intOf]; omega
                · have n0 : (y0 != u0) = false := by simp [e0]
                  have n3 : (y3 != u3) = true := by simpa using e3
                  clear HV CI e0
                  go_wp2
                  go_quiet (fail)
                  go_wp2
                  go_roundw
                  case rel => exact ⟨q + 1, by omega, .inl (by omega), by go_num, hK2.drewN _⟩
                  case measure => simp [intOf]; omega
              · have n0 : (y0 != u0) = true := by simpa using e0
                clear HV CI
                go_wp2
                go_quiet (fail)
                go_wp2
                go_roundw
                case rel => exact ⟨q + 1, by omega, .inl (by omega), by go_num, hK2.drewN _⟩
                case measure => simp [intOf]; omega
            · clear HV CI
              go_wp2
              go_quiet (fail)
              go_wp2
              go_roundw
              case rel => exact ⟨q + 1, by omega, .inl (by omega), by go_num, hK2.drewN _⟩
              case measure => simp [intOf]; omega
          · have j2 : ¬ ((q : Int) < (es.length : Int)) := by omega
            go_wp2
            go_roundw
            case rel => exact ⟨k + 1, by omega, by go_num, hK2⟩
            case measure => simp [intOf]; omega
      · obtain rfl : k = rs.length := by omega
        go_wp2
        go_ret
        exact ⟨rfl, K2.trans (K13.trans hK)⟩

set_option maxRecDepth 100000 in
theorem lifted (os : Os) (started : os.Started) (H : Type) (enc : TypeId × Value → H) :
    ReturnsInHanded {} Tryz.checked os 3 .any (Rows.fnEachSpec.pre6 enc Tryz.prog Tryz.f3 Rows.fnEachRow.domain false) (Rows.fnEachSpec.post enc Tryz.prog Tryz.f3 false true false false) := by
  refine returnsInHanded_of_change (C := Tryz.checked) own started (by kernel_rfl) Tryz.func3
    (ChangeSpec.witness6 (enc := enc) (C := Tryz.checked) false ⟨#[], #[.slice none 0 0], []⟩ 8 (by kernel_rfl) (by kernel_rfl) (by kernel_rfl) (by kernel_rfl)) ?_
  intro W base args ds gs before hval0 hW hcnd _

  have hval : ∀ (j : Nat) t v, Tryz.f3.params[j]? = some t → args[j]? = some v → Value.okWide Tryz.prog W .any base t v := hval0
  have hW' := hW
  obtain ⟨p, q, hA0, hV, rfl, hfz, hnd⟩ := hW
  have hA : DataW.TrodAll enc Tryz.prog W 0 (fun _ => true) true Tryz.f3.params.toList args.toList ds p := hA0
  rw [Tryz.params3] at hA hval
  obtain ⟨v0, vs0, d0, ds0, p0, q0, hargs, rfl, rfl, h0, r0⟩ := trodAll_cons hA
  obtain ⟨rfl, rfl, rfl⟩ := trodAll_nil r0
  obtain rfl : args = #[v0] := by cases args; simp_all
  obtain ⟨rfl, rfl⟩ := trodVars_none hV
  have k0 := h0
  have lt0 : ∀ x ∈ p0, x.block < W.heap.size := by obtain ⟨m, hm⟩ := k0; exact DataW.trod_lt m _ _ _ hm
  obtain ⟨a0, len0, cap0, rfl⟩ := okWide_slice Tryz.underlying22 (hval 0 22 v0 rfl rfl)
  obtain ⟨z0, w0⟩ : ∃ zs, IsRow .u8 W a0 len0 cap0 zs := by
    obtain ⟨fuel, hf⟩ := h0
    rcases open_ints Tryz.underlying22 Tryz.underlying5 (by kernel_rfl) hf with ⟨hcs, _⟩ | ⟨x, l, c, zs, hcs, _, hl, hm, hz, _, hcell, hwz⟩
    · simp [Value.cells] at hcs
      obtain ⟨rfl, rfl, rfl⟩ := hcs
      exact ⟨[], .inl ⟨rfl, rfl, rfl, rfl⟩⟩
    · simp [Value.cells] at hcs
      obtain ⟨rfl, rfl, rfl⟩ := hcs
      exact ⟨zs, .inr ⟨_, rfl, hl, hm, by simpa using hz, hcell, hwz⟩⟩
  clear hA0 hval0
  refine (walk a0 len0 cap0 z0 W w0).mono fun e W' ⟨he, bel⟩ => ?_
  subst he
  exact ⟨_, rfl, _, _, _, [], _, [], hW', trodAll_mk1 (shut_bool Tryz.underlying4 _), (trodAll_cons_mk (Below.trod laidOut (by kernel_rfl) (of_decide_eq_true (by kernel_rfl)) k0 bel lt0) trodAll_mk0), rfl, bel.frame _, fun h => by cases h⟩

theorem over : Rows.fnEachRow.holds Tryz.pinned (OpenSpec.ofChange Rows.fnEachSpec) :=
  OpenClaim.holds_of_wide 3 Tryz.f3 rfl rfl rfl rfl rfl rfl rfl ⟨rfl, rfl, rfl, rfl, rfl⟩ rfl rfl rfl rfl rfl (by kernel_rfl) Tryz.func3 (by kernel_rfl)
    (of_decide_eq_true (by kernel_rfl)) (by unfold Func.isWrapper; first | (rw [if_pos (by decide +kernel)]; kernel_rfl) | (rw [if_neg (by decide +kernel)]; exact ⟨rfl, rfl⟩))
    (fun os started H enc _ => lifted os started H enc)

#print axioms over
end Go.Proofs.YtfmcnkjpgaapaaaGreat.fnEach
namespace Go.Proofs.YtfmcnkjpgaapaaaGreat
theorem fnEach_holds : Rows.FnEachSaid := fnEach.over
end Go.Proofs.YtfmcnkjpgaapaaaGreat
