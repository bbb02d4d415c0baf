/- At every string of bytes the law FnAgainst answers true and its argument stays: at what is drawn the program's AgainstWeb and OutcomeOf answer as the specification's do; a read is against all that came behind what it is from, and an outcome has what each is from, and the last of each row. -/
import Derived.Test.YtgolhjmbloiakaaGreatRows
import Derived.WalkKit
import Derived.ProofKit
import Derived.OpenShut
import Derived.ShutString
import Derived.ChangeOld
import Derived.Below
import Derived.Test.YtgolhjmbloiakaaGreatMC
import Derived.Test.YtgolhjmbloiakaaGreatTaleT
import Derived.Test.YtgolhjmbloiakaaGreatTaleLen
import Derived.Test.YtgolhjmbloiakaaGreatMA
import Derived.Test.YtgolhjmbloiakaaGreatTaleDrawB
import Derived.Test.YtgolhjmbloiakaaGreatSrcS
import Derived.Test.YtgolhjmbloiakaaGreatRowsS
import Derived.Test.YtgolhjmbloiakaaGreatBackS
import Derived.Test.YtgolhjmbloiakaaGreatThenS
import Derived.Test.YtgolhjmbloiakaaGreatExactAid
import Derived.Test.YtgolhjmbloiakaaGreatEvOfS
import Derived.Test.YtgolhjmbloiakaaGreatLawA
import Derived.Deep.Cut
import Derived.Deep.RegionHeld3
import Derived.Deep.QuietTactic
import Derived.BigQuiet
namespace Go.Proofs.YtgolhjmbloiakaaGreat.fnAgainst
open Go.ChangeShapes Go.WideShapes Go.ChangeAt Go.RowKit
open Go.ChangeMaps (open_string shut_string)
set_option linter.unusedVariables false

theorem own : ownKnob Tryz.prog.godebug = none := by kernel_rfl
theorem laidOut : laidOutB Tryz.prog = true := by kernel_rfl

/-- What the walk is told of a slice of bytes that came in: it is nil, or it leads to a row of cells, each fitting its kind. -/
def IsRow (k : IntKind) (w : World) (a : Option Addr) (len cap : Nat) (zs : List Int) : Prop :=
  (a = none ∧ len = 0 ∧ cap = 0 ∧ zs = []) ∨
  ∃ x, a = some x ∧ len ≤ cap ∧ cap ≤ maxLen ∧ zs.length = cap ∧ (∀ i, i < zs.length → w.cell? (x.add i) = some (.int k (zs.getD i 0))) ∧ ∀ n ∈ zs, (Lit.int k n).wf = true

set_option maxRecDepth 100000 in
set_option maxHeartbeats 8000000 in
theorem walk (a0 : Option Addr) (len0 cap0 : Nat) (z0 : List Int) (w : World) (w0 : IsRow .u8 w a0 len0 cap0 z0) :
    Calls Tryz.prog 3 #[.slice a0 len0 cap0] w fun e w' => e = .returned (.bool true) ∧ Below w.heap.size w w' := by
  by_cases hbig : 4096 < len0
  · have hbb : decide (4096 < len0) = true := by simpa using hbig
    go_enter Tryz.func3, Tryz.ntmps3
    go_wp2_with (go_at_call 4; refine (big_any _ _ _ _).mono ?_; rintro e w' ⟨rfl, rfl⟩)
    go_ret
    exact ⟨rfl, Below.refl _ _⟩
  have hbb : decide (4096 < len0) = false := by simpa using hbig
  obtain ⟨zs, hzl, hrd⟩ : ∃ zs : List Int, zs.length = len0 ∧ RdB w w.heap.size a0 zs := rdb_of_row (by omega) w0
  have hz12 : zs.length ≤ 4096 := by omega
  subst hzl
  clear w0 hbig
  go_enter Tryz.func3, Tryz.ntmps3
  go_wp2_with fail
  refine (big_any _ _ _ _).mono ?_
  rintro e w' ⟨rfl, rfl⟩
  go_wp2_with fail
  refine (drawAgainstWeb_any _ a0 cap0 zs hrd).mono ?_
  rintro e w1 ⟨v, vF, vR, dss, f, r, bs, N, rfl, hQ0, hD, oF, oR, ⟨lf, lr⟩, -, k1⟩
  have l1 : dss.length ≤ 1048576 := by have := hD.1; omega
  have l2 : ∀ i, i < dss.length → (dss.getD i []).length ≤ 1048576 := fun i hi => by have := hD.2 i hi; omega
  have L2 := Lib.hid l2
  have hR := hQ0.rd
  have hF := oF.rd
  have hT := oR.rd
  have HCZ := Lib.hid oR.capz
  obtain ⟨aF, cF, rfl, -⟩ := id hF
  obtain ⟨aR, cR, rfl, -⟩ := id hT
  clear hD hbb l2 hQ0 oF oR
  go_upto_region 4 with fail
  obtain ⟨w2, hw⟩ : ∃ W : World, W = w1.alloc (taleC (.slice aF f.length cF) (.slice aR r.length cR)) := ⟨_, rfl⟩
  have x0 : w2.cell? ⟨w1.heap.size, 0, none⟩ = some (.slice aF f.length cF) := by rw [hw]; exact box_cell (Keep.refl _) 0
  have x1 : w2.cell? ⟨w1.heap.size, 1, none⟩ = some (.slice aR r.length cR) := by rw [hw]; exact box_cell (Keep.refl _) 1
  have k2 : Keep w1 w2 := by rw [hw]; exact (Keep.refl _).alloc _
  have xl : w1.heap.size < w2.heap.size := by rw [hw, heap_size]; omega
  rw [← hw]
  clear hw
  have K2 := k1.trans k2
  replace hR := hR.keep k2
  replace hF := hF.keep k2
  replace hT := hT.keep k2
  generalize w1.heap.size = X at x0 x1 xl ⊢
  have H2 := Lib.hid (show RdW w2 v dss ∧ Rd w2 (.slice aF f.length cF) f ∧ Rd w2 (.slice aR r.length cR) r from ⟨hR, hF, hT⟩)
  have HX := Lib.hid (show w2.cell? ⟨X, 0, none⟩ = some (.slice aF f.length cF) ∧ w2.cell? ⟨X, 1, none⟩ = some (.slice aR r.length cR) ∧ X < w2.heap.size from ⟨x0, x1, xl⟩)
  have ga := agB_len dss f r
  have go' := ocB_len dss f r
  have HLAW := Lib.hid (fun h => ag_law (dss := dss) (f := f) (rows := r) h)
  have HNO : Hid (taleB dss f r = false → agB dss f r = [] ∧ ocB dss f r = []) := Lib.hid (fun h => ⟨by unfold agB; rw [h]; rfl, by unfold ocB; rw [h]; rfl⟩)
  obtain ⟨A, hA⟩ : ∃ L, L = agB dss f r := ⟨_, rfl⟩
  have HA := Lib.hid hA
  obtain ⟨O, hO⟩ : ∃ L, L = ocB dss f r := ⟨_, rfl⟩
  have HO := Lib.hid hO
  rw [← hA] at ga
  rw [← hO] at go'
  clear hA hO k1 k2 hR hF hT
  go_wp2_with fail
  refine (implAgainstWeb_any _ _ _ _ dss f r H2.out.1 H2.out.2.1 H2.out.2.2 HCZ.out l1 L2.out (by omega) (by omega)).mono ?_
  rw [← HA.out]
  rintro e w3 ⟨vA, rfl, rA, k3⟩
  have K3 := k3
  have qA := rA.rd
  obtain ⟨aA, cA, rfl, -⟩ := id qA
  replace x0 := (k3.cell HX.out.2.2).trans HX.out.1
  replace x1 := (k3.cell HX.out.2.2).trans HX.out.2.1
  go_wp2_with fail
  refine (implOutcomeOf_any _ _ _ _ dss f r (H2.out.1.keep K3) (H2.out.2.1.keep K3) (H2.out.2.2.keep K3) HCZ.out l1 L2.out (by omega) (by omega)).mono ?_
  rw [← HO.out]
  rintro e w4 ⟨vO, rfl, rO, k4⟩
  have K4 := K3.trans k4
  replace qA := qA.keep k4
  have qO := rO.rd
  obtain ⟨aO, cO, rfl, -⟩ := id qO
  replace x0 := (K4.cell HX.out.2.2).trans HX.out.1
  replace x1 := (K4.cell HX.out.2.2).trans HX.out.2.1
  clear rA rO k3 k4 K3
  go_wp2_with fail
  refine (specAgainstWeb_any _ _ _ _ dss f r (H2.out.1.keep K4) (H2.out.2.1.keep K4) (H2.out.2.2.keep K4) HCZ.out l1 L2.out (by omega) (by omega)).mono ?_
  rw [← HA.out]
  rintro e w5 ⟨vs, rfl, rs, k5⟩
  have K5 := K4.trans k5
  replace qA := qA.keep k5
  replace qO := qO.keep k5
  have C1 := like_any w5 _ _ A A qA rs.rd (by omega)
  rw [decide_eq_true (rfl : A = A)] at C1
  go_wp2_with fail
  refine C1.mono ?_
  rintro e w6 ⟨rfl, k6⟩
  have K6 := K5.trans k6
  replace qA := qA.keep k6
  replace qO := qO.keep k6
  replace x0 := (K6.cell HX.out.2.2).trans HX.out.1
  replace x1 := (K6.cell HX.out.2.2).trans HX.out.2.1
  clear C1 rs k5 k6 K4 K5
  go_wp2_with fail
  refine (specOutcomeOf_any _ _ _ _ dss f r (H2.out.1.keep K6) (H2.out.2.1.keep K6) (H2.out.2.2.keep K6) HCZ.out l1 L2.out (by omega) (by omega)).mono ?_
  rw [← HO.out]
  rintro e w7 ⟨vt, rfl, rt, k7⟩
  have K7 := K6.trans k7
  replace qA := qA.keep k7
  replace qO := qO.keep k7
  have C1 := like_any w7 _ _ O O qO rt.rd (by omega)
  rw [decide_eq_true (rfl : O = O)] at C1
  go_wp2_with fail
  refine C1.mono ?_
  rintro e w8 ⟨rfl, k8⟩
  have K8 := K7.trans k8
  replace qA := qA.keep k8
  replace qO := qO.keep k8
  replace x0 := (K8.cell HX.out.2.2).trans HX.out.1
  replace x1 := (K8.cell HX.out.2.2).trans HX.out.2.1
  clear C1 rt k7 k8 K6 K7
  go_wp2_with fail
  refine (specTaleOk_any _ _ _ _ dss f r (H2.out.1.keep K8) (H2.out.2.1.keep K8) (H2.out.2.2.keep K8) HCZ.out l1 L2.out (by omega) (by omega)).mono ?_
  rintro e w9 ⟨rfl, k9⟩
  have K9 := K8.trans k9
  replace qA := qA.keep k9
  replace qO := qO.keep k9
  replace x0 := (K9.cell HX.out.2.2).trans HX.out.1
  replace x1 := (K9.cell HX.out.2.2).trans HX.out.2.1
  clear k9 K8
  cases ht : taleB dss f r
  · obtain ⟨e1, e2⟩ := HNO.out ht
    have a0' : ((A.length : Int) == 0) = true := by rw [HA.out, e1]; rfl
    have o0' : ((O.length : Int) == 0) = true := by rw [HO.out, e2]; rfl
    clear e1 e2
    go_wp2
    go_ret
    exact ⟨rfl, K2.trans K9⟩
  have LAW := HLAW.out ht
  rw [← HA.out, ← HO.out] at LAW
  obtain ⟨g1, g2, g3, g4, g5, g6, g7, g8⟩ := LAW
  have G1 := Lib.hid g1
  have G4 := Lib.hid g4
  have G5 := Lib.hid g5
  have G6 := Lib.hid g6
  have G7 := Lib.hid g7
  have G8 := Lib.hid g8
  have G2 := Lib.hid g2
  clear g1 g2 g3 g4 g5 g6 g7 g8 HLAW HNO ht
  have z9 : X < w9.drew.heap.size := Nat.lt_of_lt_of_le HX.out.2.2 K9.size
  have KD : Keep w2 w9.drew := K9.drew
  have bf : (fwB dss f).length ≤ 12 := fwB_len dss f
  have br : (rwB dss r).length ≤ 12 := rwB_len dss r
  have bb : (backL (fwB dss f)).length ≤ 12 := backL_len _
  have qD := qA.keep (Keep.refl w9).drew
  have oD := qO.keep (Keep.refl w9).drew
  clear qA qO
  go_wp2
  go_region_held3 (fun w' => w'.cell? ⟨X, 0, none⟩ = some (.slice aF f.length cF) ∧ w'.cell? ⟨X, 1, none⟩ = some (.slice aR r.length cR))
    (first | go_keep | (go_split_ands; refine ⟨?_, ?_⟩ <;> (rw [kk.cell (by assumption)]; assumption)))
    ((first
      | (go_at_call 14; refine (specFromWeb_any _ _ _ dss f (H2.out.1.keep KD) (H2.out.2.1.keep KD) l1 L2.out (by omega)).mono ?_; rintro e wa ⟨va, rfl, ra, kk⟩; have Ka := KD.trans kk; have za : X < wa.heap.size := Nat.lt_of_lt_of_le z9 kk.size; have qa := qD.keep kk; have oa := oD.keep kk)
      | (go_at_call 13; refine (specBack_any _ _ _ ra.rd (by omega)).mono ?_; clear kk; rintro e wb ⟨vb, rfl, rb, kk⟩; have Kb := Ka.trans kk; have zb : X < wb.heap.size := Nat.lt_of_lt_of_le za kk.size; have qb := qa.keep kk; have ob := oa.keep kk)
      | (go_at_call 15; refine (specRowWeb_any _ _ _ dss r (H2.out.1.keep Kb) (H2.out.2.2.keep Kb) HCZ.out l1 L2.out (by omega)).mono ?_; have rbd := rb.rd; clear kk; rintro e wc ⟨vc, rfl, rc, kk⟩; have Kc := Kb.trans kk; have zc : X < wc.heap.size := Nat.lt_of_lt_of_le zb kk.size; have rbc := rbd.keep kk; have qc := qb.keep kk; have oc := ob.keep kk)
      | (go_at_call 12; refine (specThen_any _ _ _ _ _ rbc rc.rd (by omega) (by omega)).mono ?_; rw [← G1.out]; clear kk; rintro e wd ⟨vd, rfl, rd', kk⟩; have Kd := Kc.trans kk; have zd : X < wd.heap.size := Nat.lt_of_lt_of_le zc kk.size; have qd := qc.keep kk; have od := oc.keep kk; have C9 := like_any wd _ _ A A qd rd'.rd (by omega); rw [decide_eq_true (rfl : A = A)] at C9)
      | (go_at_call 8; refine (C9).mono ?_; clear kk; rintro e we ⟨rfl, kk⟩)))
  all_goals
    have K10 := Kd.trans kk
    have qO := od.keep kk
    have L9 := eventsB_len9 dss
    clear qD oD qa oa qb ob qc oc qd od C9 rd' rc rbc rb ra kk Ka Kb Kc Kd za zb zc zd z9 KD K9 x0 x1 bf br bb
    go_wp2_with fail
    refine (specEventsOf_any _ _ dss (H2.out.1.keep K10) l1 L2.out).mono ?_
    rintro e w11 ⟨ve, rfl, ae, k11⟩
    have K11 := K10.trans k11
    replace qO := qO.keep k11
    have re := ae.rd
    have CR := fun (W : World) (kW : Keep w2 W) => specRowWeb_any W _ _ dss r (H2.out.1.keep kW) (H2.out.2.2.keep kW) HCZ.out l1 L2.out (by omega)
    clear ae k11 K10
    generalize eventsB dss = es at *
    generalize rwB dss r = RW at *
    obtain ⟨aE, cE', rfl, -⟩ := id re
    go_wp2_with fail
    refine (specReadsOf_any _ _ _ re (by omega)).mono ?_
    rintro e w12 ⟨vr, rfl, or', k12⟩
    have K12 := K11.trans k12
    replace qO := qO.keep k12
    replace re := re.keep k12
    have qr := or'.rd
    have hrn : (idxB rdE es).length ≤ 12 := by
      unfold idxB
      rw [if_pos (by omega)]
      have := idxK_len rdE es es.length
      omega
    obtain ⟨ar, cr, rfl, -⟩ := id qr
    generalize (idxB rdE es).length = rn at *
    clear or' k12 K11 qr
    have HQ := Lib.hid qO
    have HEv := Lib.hid re
    clear qO re
    have hOl : O.length = rn + 3 := G4.out
    have HOL := Lib.hid hOl
    clear hOl G4
    go_wp2
    go_loopw [9] (fun i wr => ∃ k : Nat, k ≤ rn ∧ i = .int .i64 k ∧ Keep w12 wr) (fun i _ => rn - (intOf i).toNat)
    case atStart => exact ⟨0, Nat.zero_le _, rfl, Keep.refl _⟩
    case round =>
      obtain ⟨k, hk, rfl, hK⟩ := hrel
      have x0 := ((K12.trans hK).cell HX.out.2.2).trans HX.out.1
      by_cases hlt : k < rn
      · obtain ⟨a, h1, h2, h3⟩ := G6.out k hlt
        have lF : k < f.length := by have := G2.out; omega
        have lO : k < O.length := by have := HOL.out; omega
        obtain ⟨a', c', he', hc⟩ := (H2.out.2.1).keep (K12.trans hK)
        simp only [Value.slice.injEq, true_and] at he'
        obtain ⟨rfl, rfl⟩ := he'
        rcases hc with h0 | ⟨bf, off, rfl, hbf, hcf⟩
        · exfalso; rw [h0] at lF; simp at lF
        obtain ⟨a', c', he', hc⟩ := HQ.out.keep hK
        simp only [Value.slice.injEq, true_and] at he'
        obtain ⟨rfl, rfl⟩ := he'
        rcases hc with h0 | ⟨bo, oo, rfl, hbo, hco⟩
        · exfalso; rw [h0] at lO; simp at lO
        obtain ⟨a', c', he', hc⟩ := HEv.out.keep hK
        simp only [Value.slice.injEq, Nat.add_left_cancel_iff, true_and] at he'
        obtain ⟨rfl, rfl⟩ := he'
        rcases hc with h0 | ⟨be, oe, rfl, hbe, hce⟩
        · exfalso; rw [h0] at h2; simp at h2
        have d1 := hcf k lF
        have d2 := hco k lO
        have AT := hce a _ (evs_get h2)
        rw [h1] at d1
        rw [h3] at d2
        generalize es.getD a zE = y at AT d2
        obtain ⟨y0, y1, y2, y3, y4, y5⟩ := y
        obtain ⟨-, -, -, -, q4, -⟩ := atE AT
        simp only at d2
        have i1 : (0 : Int) ≤ (k : Int) := Int.natCast_nonneg _
        have i2 : (k : Int) < (rn : Int) := by omega
        have i3 : (k : Int) < (f.length : Int) := by omega
        have i4 : (k : Int) < (O.length : Int) := by omega
        have i5 : (0 : Int) ≤ (a : Int) := Int.natCast_nonneg _
        have i6 : (a : Int) < (es.length : Int) := by omega
        have i7 : (y4 != y4) = false := by simp
        clear hcf hco hce AT h1 h3
        go_wp2
        go_quiet (fail)
        go_wp2
        go_roundw
        case rel => exact ⟨k + 1, by omega, by go_num, hK.drewN _⟩
        case measure => simp [intOf]; omega
      · obtain rfl : k = rn := by omega
        have x1 := ((K12.trans hK).cell HX.out.2.2).trans HX.out.2.1
        clear hlt hk
        go_wp2_with fail
        refine (CR _ (K12.trans hK)).mono ?_
        rintro e w13 ⟨vw, rfl, rw', k13⟩
        have K13 := (K12.trans hK).trans k13
        have k1213 := hK.trans k13
        have HRW := Lib.hid rw'.rd
        obtain ⟨aw, cw, rfl, -⟩ := id rw'.rd
        clear rw' k13 x0 x1 CR
        go_wp2
        go_loopw [11] (fun i wr => ∃ k : Nat, k ≤ es.length ∧ i = .int .i64 k ∧ Keep w13 wr) (fun i _ => es.length - (intOf i).toNat)
        case atStart => exact ⟨0, Nat.zero_le _, rfl, Keep.refl _⟩
        case round =>
          obtain ⟨j, hj, rfl, hK2⟩ := hrel
          by_cases hlt : j < es.length
          · obtain ⟨p0, p2⟩ := G7.out j hlt
            have g8 := G8.out j hlt
            have lW : j < RW.length := by rw [G5.out]; exact hlt
            obtain ⟨a', c', he', hc⟩ := HRW.out.keep hK2
            simp only [Value.slice.injEq, true_and] at he'
            obtain ⟨rfl, rfl⟩ := he'
            rcases hc with h0 | ⟨bw, ow, rfl, hbw, hcw⟩
            · exfalso; rw [h0] at lW; simp at lW
            obtain ⟨a', c', he', hc⟩ := HEv.out.keep (k1213.trans hK2)
            simp only [Value.slice.injEq, Nat.add_left_cancel_iff, true_and] at he'
            obtain ⟨rfl, rfl⟩ := he'
            rcases hc with h0 | ⟨be, oe, rfl, hbe, hce⟩
            · exfalso; rw [h0] at hlt; simp at hlt
            have d1 := hcw j lW
            have AT := hce j _ (evs_get hlt)
            generalize es.getD j zE = y at AT p0 p2 g8
            obtain ⟨y0, y1, y2, y3, y4, y5⟩ := y
            obtain ⟨-, -, q2, q3, q4, -⟩ := atE AT
            simp only at p0 p2 g8
            obtain ⟨p, rfl⟩ := Int.eq_ofNat_of_zero_le p0
            rw [Int.toNat_natCast] at g8
            have lO : k + p < O.length := by have := HOL.out; omega
            obtain ⟨a', c', he', hc⟩ := HQ.out.keep (k1213.trans hK2)
            simp only [Value.slice.injEq, true_and] at he'
            obtain ⟨rfl, rfl⟩ := he'
            rcases hc with h0 | ⟨bo, oo, rfl, hbo, hco⟩
            · exfalso; rw [h0] at lO; simp at lO
            have d2 := hco (k + p) lO
            generalize RW.getD j 0 = z at d1 g8
            generalize O.getD (k + p) 0 = oz at d2 g8
            have i1 : (0 : Int) ≤ (j : Int) := Int.natCast_nonneg _
            have i2 : (j : Int) < (es.length : Int) := by omega
            have i3 : (j : Int) < (RW.length : Int) := by omega
            have i4 : (0 : Int) ≤ ((k + p : Nat) : Int) := Int.natCast_nonneg _
            have i5 : ((k + p : Nat) : Int) < (O.length : Int) := by omega
            have i6 : IntKind.i64.wrap ((k : Int) + (p : Int)) = ((k + p : Nat) : Int) := by rw [IntKind.wrap_i64]; omega
            have i7 : (y4 != y4) = false := by simp
            clear hcw hce hco AT p0 p2
            cases y2
            · by_cases hz : z = 0
              · have hoz := g8 rfl hz
                subst hoz
                have hzb : (z == 0) = true := by simp [hz]
                clear g8 hz
                go_wp2
                go_quiet (fail)
                go_wp2
                go_roundw
                case rel => exact ⟨j + 1, by omega, by go_num, hK2.drewN _⟩
                case measure => simp [intOf]; omega
              · have hzb : (z == 0) = false := by simp [hz]
                clear g8 hz
                go_wp2
                go_quiet (fail)
                go_wp2
                go_roundw
                case rel => exact ⟨j + 1, by omega, by go_num, hK2.drewN _⟩
                case measure => simp [intOf]; omega
            · clear g8
              go_wp2
              go_quiet (fail)
              go_wp2
              go_roundw
              case rel => exact ⟨j + 1, by omega, by go_num, hK2.drewN _⟩
              case measure => simp [intOf]; omega
          · obtain rfl : j = es.length := by omega
            have hfin : ((O.length : Int) == (k : Int) + 3) = true := by have := HOL.out; simp; omega
            have hfw : IntKind.i64.wrap ((k : Int) + 3) = (k : Int) + 3 := by rw [IntKind.wrap_i64]; omega
            go_wp2
            go_ret
            exact ⟨rfl, K2.trans (K13.trans hK2)⟩

set_option maxRecDepth 100000 in
theorem lifted (os : Os) (started : os.Started) (H : Type) (enc : TypeId × Value → H) :
    ReturnsInHanded {} Tryz.checked os 3 .any (Rows.fnAgainstSpec.pre6 enc Tryz.prog Tryz.f3 Rows.fnAgainstRow.domain false) (Rows.fnAgainstSpec.post enc Tryz.prog Tryz.f3 false true false false) := by
  refine returnsInHanded_of_change (C := Tryz.checked) own started (by kernel_rfl) Tryz.func3
    (ChangeSpec.witness6 (enc := enc) (C := Tryz.checked) false ⟨#[], #[.slice none 0 0], []⟩ 8 (by kernel_rfl) (by kernel_rfl) (by kernel_rfl) (by kernel_rfl)) ?_
  intro W base args ds gs before hval0 hW hcnd _

  have hval : ∀ (j : Nat) t v, Tryz.f3.params[j]? = some t → args[j]? = some v → Value.okWide Tryz.prog W .any base t v := hval0
  have hW' := hW
  obtain ⟨p, q, hA0, hV, rfl, hfz, hnd⟩ := hW
  have hA : DataW.TrodAll enc Tryz.prog W 0 (fun _ => true) true Tryz.f3.params.toList args.toList ds p := hA0
  rw [Tryz.params3] at hA hval
  obtain ⟨v0, vs0, d0, ds0, p0, q0, hargs, rfl, rfl, h0, r0⟩ := trodAll_cons hA
  obtain ⟨rfl, rfl, rfl⟩ := trodAll_nil r0
  obtain rfl : args = #[v0] := by cases args; simp_all
  obtain ⟨rfl, rfl⟩ := trodVars_none hV
  have k0 := h0
  have lt0 : ∀ x ∈ p0, x.block < W.heap.size := by obtain ⟨m, hm⟩ := k0; exact DataW.trod_lt m _ _ _ hm
  obtain ⟨a0, len0, cap0, rfl⟩ := okWide_slice Tryz.underlying22 (hval 0 22 v0 rfl rfl)
  obtain ⟨z0, w0⟩ : ∃ zs, IsRow .u8 W a0 len0 cap0 zs := by
    obtain ⟨fuel, hf⟩ := h0
    rcases open_ints Tryz.underlying22 Tryz.underlying5 (by kernel_rfl) hf with ⟨hcs, _⟩ | ⟨x, l, c, zs, hcs, _, hl, hm, hz, _, hcell, hwz⟩
    · simp [Value.cells] at hcs
      obtain ⟨rfl, rfl, rfl⟩ := hcs
      exact ⟨[], .inl ⟨rfl, rfl, rfl, rfl⟩⟩
    · simp [Value.cells] at hcs
      obtain ⟨rfl, rfl, rfl⟩ := hcs
      exact ⟨zs, .inr ⟨_, rfl, hl, hm, by simpa using hz, hcell, hwz⟩⟩
  clear hA0 hval0
  refine (walk a0 len0 cap0 z0 W w0).mono fun e W' ⟨he, bel⟩ => ?_
  subst he
  exact ⟨_, rfl, _, _, _, [], _, [], hW', trodAll_mk1 (shut_bool Tryz.underlying4 _), (trodAll_cons_mk (Below.trod laidOut (by kernel_rfl) (of_decide_eq_true (by kernel_rfl)) k0 bel lt0) trodAll_mk0), rfl, bel.frame _, fun h => by cases h⟩

theorem over : Rows.fnAgainstRow.holds Tryz.pinned (OpenSpec.ofChange Rows.fnAgainstSpec) :=
  OpenClaim.holds_of_wide 3 Tryz.f3 rfl rfl rfl rfl rfl rfl rfl ⟨rfl, rfl, rfl, rfl, rfl⟩ rfl rfl rfl rfl rfl (by kernel_rfl) Tryz.func3 (by kernel_rfl)
    (of_decide_eq_true (by kernel_rfl)) (by unfold Func.isWrapper; first | (rw [if_pos (by decide +kernel)]; kernel_rfl) | (rw [if_neg (by decide +kernel)]; exact ⟨rfl, rfl⟩))
    (fun os started H enc _ => lifted os started H enc)

#print axioms over
end Go.Proofs.YtgolhjmbloiakaaGreat.fnAgainst
namespace Go.Proofs.YtgolhjmbloiakaaGreat
theorem fnAgainst_holds : Rows.FnAgainstSaid := fnAgainst.over
end Go.Proofs.YtgolhjmbloiakaaGreat
