/- At every string of bytes the law FnKept answers true and its argument stays: the program's Kept, Behind and AtOnePlace answer as the specification's do at what is drawn; of a right work what is kept is of what stands behind, that does not go round and goes on by itself; at one place it is of that place alone; and of a work that is waited all is kept. -/
import Derived.Test.YtefdhogmjijkgaaRows
import Derived.WalkKit
import Derived.ProofKit
import Derived.OpenShut
import Derived.ShutString
import Derived.ChangeOld
import Derived.Below
import Derived.Test.YtefdhogmjijkgaaBehindI
import Derived.Test.YtefdhogmjijkgaaLineS
import Derived.Test.YtefdhogmjijkgaaMB
import Derived.Test.YtefdhogmjijkgaaME
import Derived.Test.YtefdhogmjijkgaaWaitS
import Derived.Test.YtefdhogmjijkgaaMF
import Derived.Test.YtefdhogmjijkgaaMG
import Derived.Test.YtefdhogmjijkgaaMC
namespace Go.Proofs.Ytefdhogmjijkgaa.fnKept
open Go.ChangeShapes Go.WideShapes Go.ChangeAt Go.RowKit
open Go.ChangeMaps (open_string shut_string)
set_option linter.unusedVariables false

theorem own : ownKnob Try.prog.godebug = none := by kernel_rfl
theorem laidOut : laidOutB Try.prog = true := by kernel_rfl

/-- What the walk is told of a slice of bytes that came in: it is nil, or it leads to a row of cells, each fitting its kind. -/
def IsRow (k : IntKind) (w : World) (a : Option Addr) (len cap : Nat) (zs : List Int) : Prop :=
  (a = none ∧ len = 0 ∧ cap = 0 ∧ zs = []) ∨
  ∃ x, a = some x ∧ len ≤ cap ∧ cap ≤ maxLen ∧ zs.length = cap ∧ (∀ i, i < zs.length → w.cell? (x.add i) = some (.int k (zs.getD i 0))) ∧ ∀ n ∈ zs, (Lit.int k n).wf = true

set_option maxRecDepth 100000 in
set_option maxHeartbeats 8000000 in
theorem walk (a0 : Option Addr) (len0 cap0 : Nat) (z0 : List Int) (w : World) (w0 : IsRow .u8 w a0 len0 cap0 z0) :
    Calls Try.prog 3 #[.slice a0 len0 cap0] w fun e w' => e = .returned (.bool true) ∧ Below w.heap.size w w' := by
  by_cases hbig : 4096 < len0
  · have hbb : decide (4096 < len0) = true := by simpa using hbig
    go_enter Try.func3, Try.ntmps3
    go_wp2_with (go_at_call 7; refine (big_any _ _ _ _).mono ?_; rintro e w' ⟨rfl, rfl⟩)
    go_ret
    exact ⟨rfl, Below.refl _ _⟩
  have hbb : decide (4096 < len0) = false := by simpa using hbig
  obtain ⟨zs, hzl, hrd⟩ : ∃ zs : List Int, zs.length = len0 ∧ RdB w w.heap.size a0 zs := rdb_of_row (by omega) w0
  subst hzl
  clear w0 hbig
  go_enter Try.func3, Try.ntmps3
  go_wp2_with fail
  refine (big_any _ _ _ _).mono ?_
  rintro e w' ⟨rfl, rfl⟩
  go_wp2_with fail
  refine (drawKept_any _ a0 cap0 zs hrd).mono ?_
  rintro e w1 ⟨v, dss, rfl, hR, hS, k1⟩
  have K1 := k1
  clear k1
  have l1 : dss.length ≤ 1048576 := by have := hS.1; omega
  have l2 : ∀ i, i < dss.length → (dss.getD i []).length ≤ 1048576 := fun i hi => by have := hS.2 i hi; omega
  have L2 := Lib.hid l2
  have n9 := eventsB_len9 dss
  have nk : (kepL dss (eventsB dss)).length = (eventsB dss).length := (kep_line (dss := dss) (es := eventsB dss) (by omega)).1.2.1
  have nb : (behL (eventsB dss)).length = (eventsB dss).length := (beh_line (es := eventsB dss) (by omega)).1.2.1
  have np : (plcL (eventsB dss)).length = (eventsB dss).length := (plc_line (es := eventsB dss) (by omega)).1.2.1
  have HIN := Lib.hid (And.intro (kep_in (dss := dss) (es := eventsB dss) (by omega)) (And.intro (plc_in (es := eventsB dss) (by omega)) (And.intro (beh_on (es := eventsB dss) (by omega)) (beh_round (es := eventsB dss) (by omega)))))
  have HC := Lib.hid (fun (i j : Nat) (hi : i < (eventsB dss).length) (hj : j < (eventsB dss).length) => kept_cell (dss := dss) (es := eventsB dss) (by omega) hi hj)
  obtain ⟨KL, hKL⟩ : ∃ KL, KL = kepL dss (eventsB dss) := ⟨_, rfl⟩
  obtain ⟨BL, hBL⟩ : ∃ BL, BL = behL (eventsB dss) := ⟨_, rfl⟩
  obtain ⟨PL, hPL⟩ : ∃ PL, PL = plcL (eventsB dss) := ⟨_, rfl⟩
  rw [← hKL] at nk HIN HC
  rw [← hBL] at nb HIN HC
  rw [← hPL] at np HIN HC
  have EK := Lib.hid hKL
  have EB := Lib.hid hBL
  have EP := Lib.hid hPL
  clear hS hbb l2 hrd hKL hBL hPL
  go_wp2_with fail
  refine (implKept_any _ _ _ hR l1 L2.out).mono ?_
  rw [← EK.out]
  rintro e w2 ⟨x2, rfl, r2, k2⟩
  replace hR := hR.keep k2
  have hK := r2.rd
  have K2 := K1.trans k2
  clear k2 K1 r2
  go_wp2_with fail
  refine (implBehind_any _ _ _ hR l1 L2.out).mono ?_
  rw [← EB.out]
  rintro e w3 ⟨x3, rfl, r3, k3⟩
  replace hR := hR.keep k3
  replace hK := hK.keep k3
  have hB := r3.rd
  have K3 := K2.trans k3
  clear k3 K2 r3
  go_wp2_with fail
  refine (implAtOnePlace_any _ _ _ hR l1 L2.out).mono ?_
  rw [← EP.out]
  rintro e w4 ⟨x4, rfl, r4, k4⟩
  replace hR := hR.keep k4
  replace hK := hK.keep k4
  replace hB := hB.keep k4
  have hP := r4.rd
  have K4 := K3.trans k4
  clear k4 K3 r4
  go_wp2_with fail
  refine (specKept_any _ _ _ hR l1 L2.out).mono ?_
  rw [← EK.out]
  rintro e w5 ⟨x5, rfl, r5, k5⟩
  replace hR := hR.keep k5
  replace hK := hK.keep k5
  replace hB := hB.keep k5
  replace hP := hP.keep k5
  have hs := r5.rd
  have K5 := K4.trans k5
  clear k5 K4 r5
  go_wp2_with fail
  refine (like_any _ _ _ _ _ hK hs (by omega)).mono ?_
  rintro e w6 ⟨rfl, k6⟩
  replace hR := hR.keep k6
  replace hK := hK.keep k6
  replace hB := hB.keep k6
  replace hP := hP.keep k6
  have K6 := K5.trans k6
  clear k6 K5 hs
  go_wp2_with fail
  refine (specBehind_any _ _ _ hR l1 L2.out).mono ?_
  rw [← EB.out]
  rintro e w7 ⟨x7, rfl, r7, k7⟩
  replace hR := hR.keep k7
  replace hK := hK.keep k7
  replace hB := hB.keep k7
  replace hP := hP.keep k7
  have hs := r7.rd
  have K7 := K6.trans k7
  clear k7 K6 r7
  go_wp2_with fail
  refine (like_any _ _ _ _ _ hB hs (by omega)).mono ?_
  rintro e w8 ⟨rfl, k8⟩
  replace hR := hR.keep k8
  replace hK := hK.keep k8
  replace hB := hB.keep k8
  replace hP := hP.keep k8
  have K8 := K7.trans k8
  clear k8 K7 hs
  go_wp2_with fail
  refine (specAtOnePlace_any _ _ _ hR l1 L2.out).mono ?_
  rw [← EP.out]
  rintro e w9 ⟨x9, rfl, r9, k9⟩
  replace hR := hR.keep k9
  replace hK := hK.keep k9
  replace hB := hB.keep k9
  replace hP := hP.keep k9
  have hs := r9.rd
  have K9 := K8.trans k9
  clear k9 K8 r9
  go_wp2_with fail
  refine (like_any _ _ _ _ _ hP hs (by omega)).mono ?_
  rintro e w10 ⟨rfl, k10⟩
  replace hR := hR.keep k10
  replace hK := hK.keep k10
  replace hB := hB.keep k10
  replace hP := hP.keep k10
  have K10 := K9.trans k10
  clear k10 K9 hs
  go_wp2_with fail
  refine (specWorkOk_any _ _ _ hR l1 L2.out).mono ?_
  cases hb : workB dss
  · have n0 : (eventsB dss).length = 0 := by rw [eventsB, hb]; rfl
    rintro e w11 ⟨rfl, k11⟩
    have K11 := K10.trans k11
    obtain ⟨ak, ck, rfl, -⟩ := hK
    obtain ⟨ab, cb, rfl, -⟩ := hB
    obtain ⟨ap, cp, rfl, -⟩ := hP
    rw [nk, nb, np, n0]
    go_wp2
    go_ret
    exact ⟨rfl, K11⟩
  rintro e w11 ⟨rfl, k11⟩
  replace hR := hR.keep k11
  replace hK := hK.keep k11
  replace hB := hB.keep k11
  replace hP := hP.keep k11
  have K11 := K10.trans k11
  clear k11 K10
  have b3 : 3 ≤ (eventsB dss).length := by
    rw [eventsB, if_pos hb]
    obtain ⟨⟨t, ht⟩, _⟩ := evs_good (workB_useS hb).2 dss.length (Nat.le_refl _)
    rw [ht, List.length_append]
    exact Nat.le_add_right _ _
  clear hb EK EB EP
  go_wp2_with fail
  refine (within_yes _ _ _ _ _ hK hB (by omega) HIN.out.1).mono ?_
  rintro e w12 ⟨rfl, k12⟩
  replace hR := hR.keep k12
  replace hK := hK.keep k12
  replace hB := hB.keep k12
  replace hP := hP.keep k12
  have K12 := K11.trans k12
  clear k12 K11
  go_wp2_with fail
  refine (within_yes _ _ _ _ _ hP hB (by omega) HIN.out.2.1).mono ?_
  rintro e w13 ⟨rfl, k13⟩
  replace hR := hR.keep k13
  replace hK := hK.keep k13
  replace hB := hB.keep k13
  replace hP := hP.keep k13
  have K13 := K12.trans k13
  clear k13 K12
  go_wp2_with fail
  refine (implRound_any _ _ _ hB (by omega)).mono ?_
  rw [HIN.out.2.2.2]
  rintro e w14 ⟨rfl, k14⟩
  replace hR := hR.keep k14
  replace hK := hK.keep k14
  replace hB := hB.keep k14
  replace hP := hP.keep k14
  have K14 := K13.trans k14
  clear k14 K13
  go_wp2_with fail
  refine (specThen_any _ _ _ _ _ hB hB (by omega) (by omega)).mono ?_
  rintro e w15 ⟨x15, rfl, r15, k15⟩
  replace hR := hR.keep k15
  replace hK := hK.keep k15
  replace hB := hB.keep k15
  replace hP := hP.keep k15
  have ht := r15.rd
  have K15 := K14.trans k15
  clear k15 K14 r15
  have nt : (thenL BL BL).length ≤ 1048576 := by
    have h1 := HIN.out.2.2.1
    have := (inL_iff h1).1
    omega
  go_wp2_with fail
  refine (within_yes _ _ _ _ _ ht hB nt HIN.out.2.2.1).mono ?_
  rintro e w16 ⟨rfl, k16⟩
  replace hR := hR.keep k16
  replace hK := hK.keep k16
  replace hB := hB.keep k16
  replace hP := hP.keep k16
  have K16 := K15.trans k16
  clear k16 K15
  clear ht nt HIN
  go_wp2_with fail
  refine (specEventsOf_any _ _ _ hR l1 L2.out).mono ?_
  rintro e w17 ⟨x17, rfl, a17, k17⟩
  replace hR := hR.keep k17
  replace hK := hK.keep k17
  replace hB := hB.keep k17
  replace hP := hP.keep k17
  have hX := a17.rd
  have K17 := K16.trans k17
  clear k17 K16 a17
  generalize eventsB dss = es at hX n9 nk nb np HC b3
  obtain ⟨ax, cx, rfl, hX⟩ := hX
  obtain ⟨ak, ck, rfl, hK⟩ := hK
  obtain ⟨ab, cb, rfl, hB⟩ := hB
  obtain ⟨ap, cp, rfl, hP⟩ := hP
  rcases hX with h | ⟨bx, ox, rfl, hbx, hcx⟩
  · exfalso; rw [h] at b3; simp at b3
  rcases hK with h | ⟨bk, ok, rfl, hbk, hck⟩
  · exfalso; rw [h] at nk; simp at nk; omega
  rcases hB with h | ⟨bb, ob, rfl, hbb, hcb⟩
  · exfalso; rw [h] at nb; simp at nb; omega
  rcases hP with h | ⟨bp, op, rfl, hbp, hcp⟩
  · exfalso; rw [h] at np; simp at np; omega
  rw [nk] at hck
  rw [nb] at hcb
  rw [np] at hcp
  rw [nk, nb, np]
  have HCX := Lib.hid hcx
  have HCK := Lib.hid hck
  have HCB := Lib.hid hcb
  have HCP := Lib.hid hcp
  clear hcx hck hcb hcp nk nb np
  go_wp2
  go_loopw [8] (fun i wr => ∃ j : Nat, j ≤ es.length ∧ i = .int .i64 j ∧ Keep w17 wr) (fun i _ => es.length - (intOf i).toNat)
  case atStart => exact ⟨0, Nat.zero_le _, rfl, Keep.refl _⟩
  case round =>
    obtain ⟨i, hi, rfl, hKo⟩ := hrel
    by_cases hlt : i < es.length
    · have i0 : (0 : Int) ≤ (i : Int) := Int.natCast_nonneg _
      have i1 : (i : Int) < (es.length : Int) := by omega
      have e9 : (es.length : Int) ≤ 9 := by omega
      obtain ⟨wo, rfl⟩ : ∃ wo : World, wo = wr := ⟨_, rfl⟩
      go_wp2
      go_loopw [9] (fun i wr => ∃ j : Nat, j ≤ es.length ∧ i = .int .i64 j ∧ Keep w17 wr) (fun i _ => es.length - (intOf i).toNat)
      case atStart => exact ⟨0, Nat.zero_le _, rfl, hKo⟩
      case round =>
        clear hKo
        obtain ⟨j, hj, rfl, hKr⟩ := hrel
        by_cases hjl : j < es.length
        · have X1 := (HCX.out i _ (evs_get hlt)).keep hbx hKr
          have X2 := (HCX.out j _ (evs_get hjl)).keep hbx hKr
          have ck := (hKr.cell hbk).trans (HCK.out i hlt)
          have cb := (hKr.cell hbb).trans (HCB.out i hlt)
          have cp := (hKr.cell hbp).trans (HCP.out i hlt)
          have HH := Lib.hid (HC.out i j hlt hjl)
          clear HCX HCK HCB HCP HC
          obtain ⟨x, hx⟩ : ∃ x, x = es.getD i zE := ⟨_, rfl⟩
          rw [← hx] at X1 HH
          clear hx
          obtain ⟨y, hy⟩ : ∃ y, y = es.getD j zE := ⟨_, rfl⟩
          rw [← hy] at X2 HH
          clear hy
          obtain ⟨x0, x1, x2, x3, x4, x5⟩ := x
          obtain ⟨y0, y1, y2, y3, y4, y5⟩ := y
          obtain ⟨-, -, s2, s3, -, -⟩ := atE X1
          obtain ⟨-, -, t2, t3, -, -⟩ := atE X2
          clear X1 X2
          generalize KL.getD i 0 = vk at ck HH
          generalize BL.getD i 0 = vb at cb HH
          generalize PL.getD i 0 = vp at cp HH
          have CK := fun w => implInSet_any vk j w
          have CB := fun w => implInSet_any vb j w
          have CP := fun w => implInSet_any vp j w
          generalize inSetB vk j = qk at CK HH
          generalize inSetB vb j = qb at CB HH
          generalize inSetB vp j = qp at CP HH
          have j0 : (0 : Int) ≤ (j : Int) := Int.natCast_nonneg _
          have j1 : (j : Int) < (es.length : Int) := by omega
          have z1 : bx < wr.heap.size := Nat.lt_of_lt_of_le hbx hKr.size
          have z2 : bk < wr.heap.size := Nat.lt_of_lt_of_le hbk hKr.size
          have z3 : bb < wr.heap.size := Nat.lt_of_lt_of_le hbb hKr.size
          have z4 : bp < wr.heap.size := Nat.lt_of_lt_of_le hbp hKr.size
          cases qb
          · clear HH
            go_wp2
            go_quiet (first | (go_at_call_of 21 (Value.int .i64 vb); exact Calls.quiet_of_same (CB _)) | (go_at_call_of 21 (Value.int .i64 vk); exact Calls.quiet_of_same (CK _)) | (go_at_call_of 21 (Value.int .i64 vp); exact Calls.quiet_of_same (CP _)))
            go_wp2
            go_roundw
            case rel => exact ⟨j + 1, by omega, by go_num, hKr.grown (grown_draw wr _ none) (by simp)⟩
            case measure => simp [intOf]; omega
          · obtain ⟨h1, h2⟩ := HH.out rfl
            simp only at h1 h2
            by_cases hxy : x3 = y3
            · have xe : (x3 == y3) = true := by simp [hxy]
              rw [xe] at h2
              subst h2
              subst hxy
              rcases h1 with rfl | ⟨rfl, h3, rfl, rfl⟩
              · clear HH xe
                go_wp2
                go_quiet (first | (go_at_call_of 21 (Value.int .i64 vb); exact Calls.quiet_of_same (CB _)) | (go_at_call_of 21 (Value.int .i64 vk); exact Calls.quiet_of_same (CK _)) | (go_at_call_of 21 (Value.int .i64 vp); exact Calls.quiet_of_same (CP _)))
                go_wp2
                go_roundw
                case rel => exact ⟨j + 1, by omega, by go_num, hKr.grown (grown_draw wr _ none) (by simp)⟩
                case measure => simp [intOf]; omega
              · have i3 : decide ((i : Int) < 3) = false := decide_eq_false (by omega)
                have i4 : (3 : Int) ≤ (i : Int) := by omega
                clear HH xe h3
                go_wp2
                go_quiet (first | (go_at_call_of 21 (Value.int .i64 vb); exact Calls.quiet_of_same (CB _)) | (go_at_call_of 21 (Value.int .i64 vk); exact Calls.quiet_of_same (CK _)) | (go_at_call_of 21 (Value.int .i64 vp); exact Calls.quiet_of_same (CP _)))
                go_wp2
                go_roundw
                case rel => exact ⟨j + 1, by omega, by go_num, hKr.grown (grown_draw wr _ none) (by simp)⟩
                case measure => simp [intOf]; omega
            · have xe : (x3 == y3) = false := by simp [hxy]
              rw [xe] at h2
              subst h2
              clear hxy
              rcases h1 with rfl | ⟨rfl, h3, rfl, rfl⟩
              · clear HH
                go_wp2
                go_quiet (first | (go_at_call_of 21 (Value.int .i64 vb); exact Calls.quiet_of_same (CB _)) | (go_at_call_of 21 (Value.int .i64 vk); exact Calls.quiet_of_same (CK _)) | (go_at_call_of 21 (Value.int .i64 vp); exact Calls.quiet_of_same (CP _)))
                go_wp2
                go_roundw
                case rel => exact ⟨j + 1, by omega, by go_num, hKr.grown (grown_draw wr _ none) (by simp)⟩
                case measure => simp [intOf]; omega
              · have i3 : decide ((i : Int) < 3) = false := decide_eq_false (by omega)
                have i4 : (3 : Int) ≤ (i : Int) := by omega
                clear HH h3
                go_wp2
                go_quiet (first | (go_at_call_of 21 (Value.int .i64 vb); exact Calls.quiet_of_same (CB _)) | (go_at_call_of 21 (Value.int .i64 vk); exact Calls.quiet_of_same (CK _)) | (go_at_call_of 21 (Value.int .i64 vp); exact Calls.quiet_of_same (CP _)))
                go_wp2
                go_roundw
                case rel => exact ⟨j + 1, by omega, by go_num, hKr.grown (grown_draw wr _ none) (by simp)⟩
                case measure => simp [intOf]; omega
        · obtain rfl : j = es.length := by omega
          go_wp2
          go_roundw
          case rel => exact ⟨i + 1, by omega, by go_num, hKr⟩
          case measure => simp [intOf]; omega
    · obtain rfl : i = es.length := by omega
      clear HCX HCK HCB HCP HC
      have Kl := K17.trans hKo
      replace hR := hR.keep hKo
      have WS := waitB_small dss
      have WE := Lib.hid (kept_waitB dss)
      go_wp2_with fail
      refine (specWaited_any _ _ _ hR l1 L2.out).mono ?_
      rintro e wx ⟨vx, rfl, ox, kx⟩
      have hx := ox.rd
      clear ox
      have Kx := Kl.trans kx
      generalize waitB dss = xss at WS WE hx
      have wl : (behL (eventsB xss)).length ≤ 1048576 := by
        have g9 := eventsB_len9 xss
        rw [(beh_line (es := eventsB xss) (by omega)).1.2.1]
        omega
      go_wp2_with fail
      refine (implKept_any _ _ _ hx WS.1 WS.2.2).mono ?_
      rw [WE.out]
      rintro e wy ⟨vy, rfl, ry, ky⟩
      have hy := ry.rd
      clear ry
      go_wp2_with fail
      refine (implBehind_any _ _ _ (hx.keep ky) WS.1 WS.2.2).mono ?_
      rintro e wz ⟨vz, rfl, rz, kz⟩
      have hz := rz.rd
      go_wp2_with fail
      refine (like_any _ _ _ _ _ (hy.keep kz) hz wl).mono ?_
      rintro e wt ⟨rfl, kt⟩
      go_wp2
      go_ret
      exact ⟨rfl, ((Kx.trans ky).trans kz).trans kt⟩

set_option maxRecDepth 100000 in
theorem lifted (os : Os) (started : os.Started) (H : Type) (enc : TypeId × Value → H) :
    ReturnsInHanded {} Try.checked os 3 .any (Rows.fnKeptSpec.pre6 enc Try.prog Try.f3 Rows.fnKeptRow.domain false) (Rows.fnKeptSpec.post enc Try.prog Try.f3 false true false false) := by
  refine returnsInHanded_of_change (C := Try.checked) own started (by kernel_rfl) Try.func3
    (ChangeSpec.witness6 (enc := enc) (C := Try.checked) false ⟨#[], #[.slice none 0 0], []⟩ 8 (by kernel_rfl) (by kernel_rfl) (by kernel_rfl) (by kernel_rfl)) ?_
  intro W base args ds gs before hval0 hW hcnd _

  have hval : ∀ (j : Nat) t v, Try.f3.params[j]? = some t → args[j]? = some v → Value.okWide Try.prog W .any base t v := hval0
  have hW' := hW
  obtain ⟨p, q, hA0, hV, rfl, hfz, hnd⟩ := hW
  have hA : DataW.TrodAll enc Try.prog W 0 (fun _ => true) true Try.f3.params.toList args.toList ds p := hA0
  rw [Try.params3] at hA hval
  obtain ⟨v0, vs0, d0, ds0, p0, q0, hargs, rfl, rfl, h0, r0⟩ := trodAll_cons hA
  obtain ⟨rfl, rfl, rfl⟩ := trodAll_nil r0
  obtain rfl : args = #[v0] := by cases args; simp_all
  obtain ⟨rfl, rfl⟩ := trodVars_none hV
  have k0 := h0
  have lt0 : ∀ x ∈ p0, x.block < W.heap.size := by obtain ⟨m, hm⟩ := k0; exact DataW.trod_lt m _ _ _ hm
  obtain ⟨a0, len0, cap0, rfl⟩ := okWide_slice Try.underlying22 (hval 0 22 v0 rfl rfl)
  obtain ⟨z0, w0⟩ : ∃ zs, IsRow .u8 W a0 len0 cap0 zs := by
    obtain ⟨fuel, hf⟩ := h0
    rcases open_ints Try.underlying22 Try.underlying5 (by kernel_rfl) hf with ⟨hcs, _⟩ | ⟨x, l, c, zs, hcs, _, hl, hm, hz, _, hcell, hwz⟩
    · simp [Value.cells] at hcs
      obtain ⟨rfl, rfl, rfl⟩ := hcs
      exact ⟨[], .inl ⟨rfl, rfl, rfl, rfl⟩⟩
    · simp [Value.cells] at hcs
      obtain ⟨rfl, rfl, rfl⟩ := hcs
      exact ⟨zs, .inr ⟨_, rfl, hl, hm, by simpa using hz, hcell, hwz⟩⟩
  clear hA0 hval0
  refine (walk a0 len0 cap0 z0 W w0).mono fun e W' ⟨he, bel⟩ => ?_
  subst he
  exact ⟨_, rfl, _, _, _, [], _, [], hW', trodAll_mk1 (shut_bool Try.underlying4 _), (trodAll_cons_mk (Below.trod laidOut (by kernel_rfl) (of_decide_eq_true (by kernel_rfl)) k0 bel lt0) trodAll_mk0), rfl, bel.frame _, fun h => by cases h⟩

theorem over : Rows.fnKeptRow.holds Try.pinned (OpenSpec.ofChange Rows.fnKeptSpec) :=
  OpenClaim.holds_of_wide 3 Try.f3 rfl rfl rfl rfl rfl rfl rfl ⟨rfl, rfl, rfl, rfl, rfl⟩ rfl rfl rfl rfl rfl (by kernel_rfl) Try.func3 (by kernel_rfl)
    (of_decide_eq_true (by kernel_rfl)) (by unfold Func.isWrapper; first | (rw [if_pos (by decide +kernel)]; kernel_rfl) | (rw [if_neg (by decide +kernel)]; exact ⟨rfl, rfl⟩))
    (fun os started H enc _ => lifted os started H enc)

#print axioms over
end Go.Proofs.Ytefdhogmjijkgaa.fnKept
namespace Go.Proofs.Ytefdhogmjijkgaa
theorem fnKept_holds : Rows.FnKeptSaid := fnKept.over
end Go.Proofs.Ytefdhogmjijkgaa
