/- At every string of bytes the law FnRows answers true and its argument stays: the program's RowsAt, RowsCount, RowWeb and RowsOk answer as the specification's do at what is drawn; each number below the count tells rows, other ones than every other number; and their web has just the lines from each write to all behind it at its place, and does not go round. -/
import Derived.Test.YtkdebpfdiblliaaRows
import Derived.WalkKit
import Derived.ProofKit
import Derived.OpenShut
import Derived.ShutString
import Derived.ChangeOld
import Derived.Below
import Derived.Test.YtkdebpfdiblliaaRowsI
import Derived.Test.YtkdebpfdiblliaaRowsS
import Derived.Test.YtkdebpfdiblliaaRowDraw
import Derived.Test.YtkdebpfdiblliaaMC
import Derived.Test.YtkdebpfdiblliaaEvOfS
import Derived.Test.YtkdebpfdiblliaaInSetI
import Derived.Test.YtkdebpfdiblliaaRoundI
import Derived.Test.YtkdebpfdiblliaaPickL
import Derived.Test.YtkdebpfdiblliaaLawA
namespace Go.Proofs.Ytkdebpfdiblliaa.fnRows
open Go.ChangeShapes Go.WideShapes Go.ChangeAt Go.RowKit
open Go.ChangeMaps (open_string shut_string)
set_option linter.unusedVariables false

theorem own : ownKnob Try.prog.godebug = none := by kernel_rfl
theorem laidOut : laidOutB Try.prog = true := by kernel_rfl

/-- What the walk is told of a slice of bytes that came in: it is nil, or it leads to a row of cells, each fitting its kind. -/
def IsRow (k : IntKind) (w : World) (a : Option Addr) (len cap : Nat) (zs : List Int) : Prop :=
  (a = none ∧ len = 0 ∧ cap = 0 ∧ zs = []) ∨
  ∃ x, a = some x ∧ len ≤ cap ∧ cap ≤ maxLen ∧ zs.length = cap ∧ (∀ i, i < zs.length → w.cell? (x.add i) = some (.int k (zs.getD i 0))) ∧ ∀ n ∈ zs, (Lit.int k n).wf = true

set_option maxRecDepth 100000 in
set_option maxHeartbeats 8000000 in
theorem walk (a0 : Option Addr) (len0 cap0 : Nat) (z0 : List Int) (w : World) (w0 : IsRow .u8 w a0 len0 cap0 z0) :
    Calls Try.prog 3 #[.slice a0 len0 cap0] w fun e w' => e = .returned (.bool true) ∧ Below w.heap.size w w' := by
  by_cases hbig : 4096 < len0
  · have hbb : decide (4096 < len0) = true := by simpa using hbig
    go_enter Try.func3, Try.ntmps3
    go_wp2_with (go_at_call 8; refine (big_any _ _ _ _).mono ?_; rintro e w' ⟨rfl, rfl⟩)
    go_ret
    exact ⟨rfl, Below.refl _ _⟩
  have hbb : decide (4096 < len0) = false := by simpa using hbig
  obtain ⟨zs, hzl, hrd⟩ : ∃ zs : List Int, zs.length = len0 ∧ RdB w w.heap.size a0 zs := rdb_of_row (by omega) w0
  have hz12 : zs.length ≤ 4096 := by omega
  subst hzl
  clear w0 hbig
  go_enter Try.func3, Try.ntmps3
  go_wp2_with fail
  refine (big_any _ _ _ _).mono ?_
  rintro e w' ⟨rfl, rfl⟩
  go_wp2_with fail
  refine (drawRowsAt_any _ a0 cap0 zs hrd).mono ?_
  rintro e w1 ⟨v, dss, n, rfl, hR, hD, k1⟩
  have K1 := k1
  clear k1
  have l1 : dss.length ≤ 1048576 := by have := hD.1; omega
  have l2 : ∀ i, i < dss.length → (dss.getD i []).length ≤ 1048576 := fun i hi => by have := hD.2 i hi; omega
  have L2 := Lib.hid l2
  have ns := ratB_len dss n
  have hcb := rcntB_in dss
  clear hD hbb l2
  go_wp2_with fail
  refine (implRowsAt_cap _ _ _ n hR l1 L2.out).mono ?_
  rintro e w2 ⟨vs, rfl, rs, hcS, k2⟩
  replace hR := hR.keep k2
  have K2 := K1.trans k2
  clear k2 K1
  have hS := rs.rd
  have HCS := Lib.hid hcS
  clear rs hcS
  go_wp2_with fail
  refine (implRowsCount_any _ _ _ hR l1 L2.out).mono ?_
  rintro e w3 ⟨rfl, k3⟩
  replace hR := hR.keep k3
  replace hS := hS.keep k3
  have K3 := K2.trans k3
  clear k3 K2
  go_wp2_with fail
  refine (drawRowWeb_any _ a0 cap0 zs (hrd.up K3)).mono ?_
  rintro e w4 ⟨vq, vf, qss, f, rfl, hQ, hD, hF, fl, hcF, k4⟩
  replace hR := hR.keep k4
  replace hS := hS.keep k4
  have K4 := K3.trans k4
  clear k4 K3
  have q1 : qss.length ≤ 1048576 := by have := hD.1; omega
  have q2 : ∀ i, i < qss.length → (qss.getD i []).length ≤ 1048576 := fun i hi => by have := hD.2 i hi; omega
  have Q2 := Lib.hid q2
  have HCF := Lib.hid hcF
  have nw := rwB_len qss f
  clear hD q2 hcF
  go_wp2_with fail
  refine (implRowWeb_any _ _ _ _ _ hQ hF HCF.out q1 Q2.out (by omega)).mono ?_
  rintro e w5 ⟨vw, rfl, rw, k5⟩
  replace hR := hR.keep k5
  replace hS := hS.keep k5
  replace hQ := hQ.keep k5
  replace hF := hF.keep k5
  have K5 := K4.trans k5
  clear k5 K4
  have hW := rw.rd
  clear rw
  go_wp2_with fail
  refine (specRowsAt_own _ _ _ n hR l1 L2.out).mono ?_
  rintro e w6 ⟨xt, rfl, ot, k6⟩
  replace hR := hR.keep k6
  replace hS := hS.keep k6
  replace hQ := hQ.keep k6
  replace hF := hF.keep k6
  replace hW := hW.keep k6
  have K6 := K5.trans k6
  clear k6 K5
  have ht := ot.rd
  clear ot
  go_wp2_with fail
  refine (like_any _ _ _ _ _ hS ht (by omega)).mono ?_
  rintro e w7 ⟨rfl, k7⟩
  replace hR := hR.keep k7
  replace hS := hS.keep k7
  replace hQ := hQ.keep k7
  replace hF := hF.keep k7
  replace hW := hW.keep k7
  have K7 := K6.trans k7
  clear k7 K6
  clear ht
  go_wp2_with fail
  refine (specRowsCount_any _ _ _ hR l1 L2.out).mono ?_
  rintro e w8 ⟨rfl, k8⟩
  replace hR := hR.keep k8
  replace hS := hS.keep k8
  replace hQ := hQ.keep k8
  replace hF := hF.keep k8
  replace hW := hW.keep k8
  have K8 := K7.trans k8
  clear k8 K7
  have ec : (rcntB dss != rcntB dss) = false := by simp
  go_wp2_with fail
  refine (specRowWeb_any _ _ _ _ _ hQ hF HCF.out q1 Q2.out (by omega)).mono ?_
  rintro e w9 ⟨xt, rfl, ot, k9⟩
  replace hR := hR.keep k9
  replace hS := hS.keep k9
  replace hQ := hQ.keep k9
  replace hF := hF.keep k9
  replace hW := hW.keep k9
  have K9 := K8.trans k9
  clear k9 K8
  have ht := ot.rd
  clear ot
  go_wp2_with fail
  refine (like_any _ _ _ _ _ hW ht (by omega)).mono ?_
  rintro e w10 ⟨rfl, k10⟩
  replace hR := hR.keep k10
  replace hS := hS.keep k10
  replace hQ := hQ.keep k10
  replace hF := hF.keep k10
  replace hW := hW.keep k10
  have K10 := K9.trans k10
  clear k10 K9
  clear ht hW nw
  obtain ⟨sb, hsb⟩ : ∃ sb, sb = rowsB qss f := ⟨_, rfl⟩
  have HSB := Lib.hid hsb
  clear hsb
  go_wp2_with fail
  refine (implRowsOk_any _ _ _ _ _ hQ hF HCF.out q1 Q2.out (by omega)).mono ?_
  rw [← HSB.out]
  rintro e w11 ⟨rfl, k11⟩
  replace hR := hR.keep k11
  replace hS := hS.keep k11
  replace hQ := hQ.keep k11
  replace hF := hF.keep k11
  have K11 := K10.trans k11
  clear k11 K10
  go_wp2_with fail
  refine (specRowsOk_any _ _ _ _ _ hQ hF HCF.out q1 Q2.out (by omega)).mono ?_
  rw [← HSB.out]
  rintro e w12 ⟨rfl, k12⟩
  replace hR := hR.keep k12
  replace hS := hS.keep k12
  replace hQ := hQ.keep k12
  replace hF := hF.keep k12
  have K12 := K11.trans k12
  clear k12 K11
  have eb : (sb != sb) = false := by simp
  clear hQ hF Q2 HSB HCF
  by_cases hn0 : n < 0
  · have HE : Hid (ratB dss n = []) := Lib.hid (by unfold ratB; rw [if_neg (by omega)])
    obtain ⟨az, cz, rfl, -⟩ := hS
    rw [HE.out]
    go_wp2
    go_ret
    exact ⟨rfl, K12⟩
  have hn0' : 0 ≤ n := by omega
  by_cases hn1 : rcntB dss ≤ n
  · have HE : Hid (ratB dss n = []) := Lib.hid (by unfold ratB; rw [if_neg (by omega)])
    obtain ⟨az, cz, rfl, -⟩ := hS
    rw [HE.out]
    generalize rcntB dss = m at ec hcb hn1
    go_wp2
    go_ret
    exact ⟨rfl, K12⟩
  have hn1' : n < rcntB dss := by omega
  clear hn0 hn1
  obtain ⟨-, HS1, -, HL1, HRD, HI, HB, HO⟩ := row_all hn0' hn1'
  have hN := eventsB_12 dss
  have HS1 := Lib.hid HS1
  have HL1 := Lib.hid HL1
  have HRD := Lib.hid HRD
  have HI := Lib.hid HI
  have HB := Lib.hid HB
  have HO := Lib.hid HO
  obtain ⟨cn, hcn⟩ : ∃ cn, cn = rcntB dss := ⟨_, rfl⟩
  rw [← hcn] at hn1' hcb ec HO ⊢
  clear hcn
  go_wp2_with fail
  refine (specEventsOf_any _ _ _ hR l1 L2.out).mono ?_
  rintro e w13 ⟨ve, rfl, ae, k13⟩
  replace hR := hR.keep k13
  replace hS := hS.keep k13
  have K13 := K12.trans k13
  clear k13 K12
  have hX := ae.rd
  clear ae
  go_wp2_with fail
  refine (implRowWeb_any _ _ _ _ _ hR hS HCS.out l1 L2.out (by omega)).mono ?_
  rintro e w14 ⟨vx, rfl, rx, k14⟩
  replace hR := hR.keep k14
  replace hS := hS.keep k14
  replace hX := hX.keep k14
  have K14 := K13.trans k14
  clear k14 K13
  have hY := rx.rd
  clear rx
  have nx := rwB_len dss (ratB dss n)
  obtain ⟨XL, hXL⟩ : ∃ XL, XL = rwB dss (ratB dss n) := ⟨_, rfl⟩
  rw [← hXL] at hY HL1 HRD HB nx
  clear hXL
  obtain ⟨SL, hSL⟩ : ∃ SL, SL = ratB dss n := ⟨_, rfl⟩
  rw [← hSL] at hS HI HB HO HS1 HCS ns
  clear hSL
  generalize eventsB dss = es at hX HL1 HI HB hN
  have HYR := Lib.hid hY
  have HSR := Lib.hid hS
  obtain ⟨ay, cy, rfl, hY⟩ := hY
  obtain ⟨az, cz, rfl, hS⟩ := hS
  obtain ⟨ax, cx, rfl, hX⟩ := hX
  have HY := Lib.hid hY
  have HSS := Lib.hid hS
  have HX := Lib.hid hX
  clear hY hS hX
  go_wp2
  go_loopw [12] (fun i wr => ∃ k : Nat, k ≤ SL.length ∧ i = .int .i64 k ∧ Keep w14 wr) (fun i _ => SL.length - (intOf i).toNat)
  case atStart => exact ⟨0, Nat.zero_le _, rfl, Keep.refl _⟩
  case round =>
    obtain ⟨i, hi, rfl, hKo⟩ := hrel
    by_cases hlt : i < SL.length
    · have i0 : (0 : Int) ≤ (i : Int) := Int.natCast_nonneg _
      have i1 : (i : Int) < (SL.length : Int) := by omega
      have e9 : (SL.length : Int) ≤ 36 := by omega
      obtain ⟨wo, rfl⟩ : ∃ wo : World, wo = wr := ⟨_, rfl⟩
      go_wp2
      go_loopw [13] (fun i wr => ∃ k : Nat, k ≤ SL.length ∧ i = .int .i64 k ∧ Keep w14 wr) (fun i _ => SL.length - (intOf i).toNat)
      case atStart => exact ⟨0, Nat.zero_le _, rfl, hKo⟩
      case round =>
        clear hKo
        obtain ⟨k, hk, rfl, hKr⟩ := hrel
        by_cases hkl : k < SL.length
        · obtain ⟨a, ea, ha⟩ := HI.out i hlt
          obtain ⟨b, eb', hb⟩ := HI.out k hkl
          have HBB := HB.out i k a b hlt hkl ea eb'
          rcases HY.out with h | ⟨by', oy, rfl, hby, hcy⟩
          · exfalso; have q := HL1.out; rw [h] at q; simp at q; omega
          rcases HSS.out with h | ⟨bs, os, rfl, hbs, hcs⟩
          · exfalso; rw [h] at hlt; simp at hlt
          rcases HX.out with h | ⟨bx, ox, rfl, hbx, hcx⟩
          · exfalso; rw [h] at ha; simp at ha
          have haX : a < XL.length := by rw [HL1.out]; exact ha
          have d1 := (hKr.cell hbs).trans (hcs i hlt)
          have d2 := (hKr.cell hbs).trans (hcs k hkl)
          have d3 := (hKr.cell hby).trans (hcy a haX)
          rw [ea] at d1
          rw [eb'] at d2
          have X1 := (hcx a _ (evs_get ha)).keep hbx hKr
          have X2 := (hcx b _ (evs_get hb)).keep hbx hKr
          clear hcy hcs hcx HI HY HSS HX HB ea eb'
          have CI := fun w => implInSet_any (XL.getD a 0) b w
          rw [HBB] at CI
          generalize XL.getD a 0 = vk at d3 CI
          obtain ⟨x, hx⟩ : ∃ x, x = es.getD a zE := ⟨_, rfl⟩
          rw [← hx] at X1 CI
          clear hx
          obtain ⟨y, hy⟩ : ∃ y, y = es.getD b zE := ⟨_, rfl⟩
          rw [← hy] at X2 CI
          clear hy HBB
          obtain ⟨x0, x1, x2, x3, x4, x5⟩ := x
          obtain ⟨y0, y1, y2, y3, y4, y5⟩ := y
          obtain ⟨-, -, -, s3, -, -⟩ := atE X1
          obtain ⟨-, -, -, t3, -, -⟩ := atE X2
          clear X1 X2
          simp only at CI
          have j0 : (0 : Int) ≤ (k : Int) := Int.natCast_nonneg _
          have j1 : (k : Int) < (SL.length : Int) := by omega
          have j2 : (0 : Int) ≤ (a : Int) := Int.natCast_nonneg _
          have j3 : (a : Int) < (es.length : Int) := by omega
          have j4 : (a : Int) < (XL.length : Int) := by omega
          have j5 : (0 : Int) ≤ (b : Int) := Int.natCast_nonneg _
          have j6 : (b : Int) < (es.length : Int) := by omega
          have z1 : bx < wr.heap.size := Nat.lt_of_lt_of_le hbx hKr.size
          have z2 : by' < wr.heap.size := Nat.lt_of_lt_of_le hby hKr.size
          have z3 : bs < wr.heap.size := Nat.lt_of_lt_of_le hbs hKr.size
          clear haX
          by_cases hxy : x3 = y3
          · subst hxy
            by_cases hik : i < k
            · have c1 : ((x3 == x3) && decide (i < k)) = true := by simp [hik]
              have c2 : decide ((i : Int) < (k : Int)) = true := decide_eq_true (by omega)
              have c3 : (i : Int) < (k : Int) := by omega
              rw [c1] at CI
              clear c1 hik
              go_wp2
              go_quiet ((go_at_call 21; exact Calls.quiet_of_same (CI _)))
              go_wp2
              go_roundw
              case rel => exact ⟨k + 1, by omega, by go_num, hKr.grown (grown_draw wr _ none) (by simp)⟩
              case measure => simp [intOf]; omega
            · have c1 : ((x3 == x3) && decide (i < k)) = false := by simp [hik]
              have c2 : decide ((i : Int) < (k : Int)) = false := decide_eq_false (by omega)
              have c4 : decide (i < k) = false := decide_eq_false hik
              have c5 : k ≤ i := by omega
              rw [c1] at CI
              clear c1 hik
              go_wp2
              go_quiet ((go_at_call 21; exact Calls.quiet_of_same (CI _)))
              go_wp2
              go_roundw
              case rel => exact ⟨k + 1, by omega, by go_num, hKr.grown (grown_draw wr _ none) (by simp)⟩
              case measure => simp [intOf]; omega
          · have c0 : (x3 == y3) = false := by simp [hxy]
            have c1 : ((x3 == y3) && decide (i < k)) = false := by rw [c0]; rfl
            rw [c1] at CI
            clear c1 hxy
            go_wp2
            go_quiet ((go_at_call 21; exact Calls.quiet_of_same (CI _)))
            go_wp2
            go_roundw
            case rel => exact ⟨k + 1, by omega, by go_num, hKr.grown (grown_draw wr _ none) (by simp)⟩
            case measure => simp [intOf]; omega
        · obtain rfl : k = SL.length := by omega
          go_wp2
          go_roundw
          case rel => exact ⟨i + 1, by omega, by go_num, hKr⟩
          case measure => simp [intOf]; omega
    · obtain rfl : i = SL.length := by omega
      have Kl := K14.trans hKo
      have hR9 := hR.keep hKo
      have hS9 := HSR.out.keep hKo
      have hY9 := HYR.out.keep hKo
      clear HI HY HSS HX HB HYR HSR HL1
      go_wp2_with fail
      refine (pick_any _ a0 cap0 zs (hrd.up Kl) hz12 cn (by omega) (by omega)).mono ?_
      rintro e wp ⟨m, rfl, m0, m1, rfl⟩
      have HOM := HO.out m m0 m1
      go_wp2_with fail
      refine (implRowsOk_any _ _ _ _ _ hR9 hS9 HCS.out l1 L2.out (by omega)).mono ?_
      rw [HS1.out]
      rintro e wa ⟨rfl, ka⟩
      go_wp2_with fail
      refine (implRound_any _ _ _ (hY9.keep ka) (by omega)).mono ?_
      rw [HRD.out]
      rintro e wb ⟨rfl, kb⟩
      have kab := ka.trans kb
      go_wp2_with fail
      refine (implRowsAt_any _ _ _ m (hR9.keep kab) l1 L2.out).mono ?_
      rintro e wq ⟨va, rfl, ra, kc⟩
      have ha := ra.rd
      have la := ratB_len dss m
      clear ra
      go_wp2_with fail
      refine (like_any _ _ _ _ _ ha (hS9.keep (kab.trans kc)) (by omega)).mono ?_
      rw [HOM]
      rintro e wt ⟨rfl, kt⟩
      by_cases hmn : m = n
      · have f1 : decide (m = n) = true := decide_eq_true hmn
        have f2 : (m == n) = true := by simp [hmn]
        rw [f1]
        clear HOM
        go_wp2
        go_ret
        exact ⟨rfl, (Kl.trans (kab.trans kc)).trans kt⟩
      · have f1 : decide (m = n) = false := decide_eq_false hmn
        have f2 : (m == n) = false := by simp [hmn]
        rw [f1]
        clear HOM
        go_wp2
        go_ret
        exact ⟨rfl, (Kl.trans (kab.trans kc)).trans kt⟩

set_option maxRecDepth 100000 in
theorem lifted (os : Os) (started : os.Started) (H : Type) (enc : TypeId × Value → H) :
    ReturnsInHanded {} Try.checked os 3 .any (Rows.fnRowsSpec.pre6 enc Try.prog Try.f3 Rows.fnRowsRow.domain false) (Rows.fnRowsSpec.post enc Try.prog Try.f3 false true false false) := by
  refine returnsInHanded_of_change (C := Try.checked) own started (by kernel_rfl) Try.func3
    (ChangeSpec.witness6 (enc := enc) (C := Try.checked) false ⟨#[], #[.slice none 0 0], []⟩ 8 (by kernel_rfl) (by kernel_rfl) (by kernel_rfl) (by kernel_rfl)) ?_
  intro W base args ds gs before hval0 hW hcnd _

  have hval : ∀ (j : Nat) t v, Try.f3.params[j]? = some t → args[j]? = some v → Value.okWide Try.prog W .any base t v := hval0
  have hW' := hW
  obtain ⟨p, q, hA0, hV, rfl, hfz, hnd⟩ := hW
  have hA : DataW.TrodAll enc Try.prog W 0 (fun _ => true) true Try.f3.params.toList args.toList ds p := hA0
  rw [Try.params3] at hA hval
  obtain ⟨v0, vs0, d0, ds0, p0, q0, hargs, rfl, rfl, h0, r0⟩ := trodAll_cons hA
  obtain ⟨rfl, rfl, rfl⟩ := trodAll_nil r0
  obtain rfl : args = #[v0] := by cases args; simp_all
  obtain ⟨rfl, rfl⟩ := trodVars_none hV
  have k0 := h0
  have lt0 : ∀ x ∈ p0, x.block < W.heap.size := by obtain ⟨m, hm⟩ := k0; exact DataW.trod_lt m _ _ _ hm
  obtain ⟨a0, len0, cap0, rfl⟩ := okWide_slice Try.underlying22 (hval 0 22 v0 rfl rfl)
  obtain ⟨z0, w0⟩ : ∃ zs, IsRow .u8 W a0 len0 cap0 zs := by
    obtain ⟨fuel, hf⟩ := h0
    rcases open_ints Try.underlying22 Try.underlying5 (by kernel_rfl) hf with ⟨hcs, _⟩ | ⟨x, l, c, zs, hcs, _, hl, hm, hz, _, hcell, hwz⟩
    · simp [Value.cells] at hcs
      obtain ⟨rfl, rfl, rfl⟩ := hcs
      exact ⟨[], .inl ⟨rfl, rfl, rfl, rfl⟩⟩
    · simp [Value.cells] at hcs
      obtain ⟨rfl, rfl, rfl⟩ := hcs
      exact ⟨zs, .inr ⟨_, rfl, hl, hm, by simpa using hz, hcell, hwz⟩⟩
  clear hA0 hval0
  refine (walk a0 len0 cap0 z0 W w0).mono fun e W' ⟨he, bel⟩ => ?_
  subst he
  exact ⟨_, rfl, _, _, _, [], _, [], hW', trodAll_mk1 (shut_bool Try.underlying4 _), (trodAll_cons_mk (Below.trod laidOut (by kernel_rfl) (of_decide_eq_true (by kernel_rfl)) k0 bel lt0) trodAll_mk0), rfl, bel.frame _, fun h => by cases h⟩

theorem over : Rows.fnRowsRow.holds Try.pinned (OpenSpec.ofChange Rows.fnRowsSpec) :=
  OpenClaim.holds_of_wide 3 Try.f3 rfl rfl rfl rfl rfl rfl rfl ⟨rfl, rfl, rfl, rfl, rfl⟩ rfl rfl rfl rfl rfl (by kernel_rfl) Try.func3 (by kernel_rfl)
    (of_decide_eq_true (by kernel_rfl)) (by unfold Func.isWrapper; first | (rw [if_pos (by decide +kernel)]; kernel_rfl) | (rw [if_neg (by decide +kernel)]; exact ⟨rfl, rfl⟩))
    (fun os started H enc _ => lifted os started H enc)

#print axioms over
end Go.Proofs.Ytkdebpfdiblliaa.fnRows
namespace Go.Proofs.Ytkdebpfdiblliaa
theorem fnRows_holds : Rows.FnRowsSaid := fnRows.over
end Go.Proofs.Ytkdebpfdiblliaa
