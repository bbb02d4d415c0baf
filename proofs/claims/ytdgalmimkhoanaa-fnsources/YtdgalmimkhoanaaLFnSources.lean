/- At every string of bytes the law FnSources answers true and its argument stays: the program's SourceAt, SourcesCount, FromWeb and SourceOk answer as the specification's do at what is drawn; each number below the count tells a source, another one than every other number; and its web has a line for each read, from a write at its place. -/
import Derived.Test.YtdgalmimkhoanaaRows
import Derived.WalkKit
import Derived.ProofKit
import Derived.OpenShut
import Derived.ShutString
import Derived.ChangeOld
import Derived.Below
import Derived.Test.YtdgalmimkhoanaaSrcI
import Derived.Test.YtdgalmimkhoanaaSrcS
import Derived.Test.YtdgalmimkhoanaaSrcDraw
import Derived.Test.YtdgalmimkhoanaaSrcAll
import Derived.Test.YtdgalmimkhoanaaEvOfS
import Derived.Test.YtdgalmimkhoanaaReadsOfS
import Derived.Test.YtdgalmimkhoanaaMembersI
import Derived.Test.YtdgalmimkhoanaaInSetI
import Derived.Test.YtdgalmimkhoanaaPickL
import Derived.Test.YtdgalmimkhoanaaLawA
namespace Go.Proofs.Ytdgalmimkhoanaa.fnSources
open Go.ChangeShapes Go.WideShapes Go.ChangeAt Go.RowKit
open Go.ChangeMaps (open_string shut_string)
set_option linter.unusedVariables false

theorem own : ownKnob Try.prog.godebug = none := by kernel_rfl
theorem laidOut : laidOutB Try.prog = true := by kernel_rfl

/-- What the walk is told of a slice of bytes that came in: it is nil, or it leads to a row of cells, each fitting its kind. -/
def IsRow (k : IntKind) (w : World) (a : Option Addr) (len cap : Nat) (zs : List Int) : Prop :=
  (a = none ∧ len = 0 ∧ cap = 0 ∧ zs = []) ∨
  ∃ x, a = some x ∧ len ≤ cap ∧ cap ≤ maxLen ∧ zs.length = cap ∧ (∀ i, i < zs.length → w.cell? (x.add i) = some (.int k (zs.getD i 0))) ∧ ∀ n ∈ zs, (Lit.int k n).wf = true

set_option maxRecDepth 100000 in
set_option maxHeartbeats 8000000 in
theorem walk (a0 : Option Addr) (len0 cap0 : Nat) (z0 : List Int) (w : World) (w0 : IsRow .u8 w a0 len0 cap0 z0) :
    Calls Try.prog 3 #[.slice a0 len0 cap0] w fun e w' => e = .returned (.bool true) ∧ Below w.heap.size w w' := by
  by_cases hbig : 4096 < len0
  · have hbb : decide (4096 < len0) = true := by simpa using hbig
    go_enter Try.func3, Try.ntmps3
    go_wp2_with (go_at_call 8; refine (big_any _ _ _ _).mono ?_; rintro e w' ⟨rfl, rfl⟩)
    go_ret
    exact ⟨rfl, Below.refl _ _⟩
  have hbb : decide (4096 < len0) = false := by simpa using hbig
  obtain ⟨zs, hzl, hrd⟩ : ∃ zs : List Int, zs.length = len0 ∧ RdB w w.heap.size a0 zs := rdb_of_row (by omega) w0
  have hz12 : zs.length ≤ 4096 := by omega
  subst hzl
  clear w0 hbig
  go_enter Try.func3, Try.ntmps3
  go_wp2_with fail
  refine (big_any _ _ _ _).mono ?_
  rintro e w' ⟨rfl, rfl⟩
  go_wp2_with fail
  refine (drawSourceAt_any _ a0 cap0 zs hrd).mono ?_
  rintro e w1 ⟨v, dss, n, rfl, hR, hD, k1⟩
  have K1 := k1
  clear k1
  have l1 : dss.length ≤ 1048576 := by have := hD.1; omega
  have l2 : ∀ i, i < dss.length → (dss.getD i []).length ≤ 1048576 := fun i hi => by have := hD.2 i hi; omega
  have L2 := Lib.hid l2
  have ns := atB_len dss n
  have hcb := cntB_in dss
  clear hD hbb l2
  go_wp2_with fail
  refine (implSourceAt_any _ _ _ n hR l1 L2.out).mono ?_
  rintro e w2 ⟨vs, rfl, rs, k2⟩
  replace hR := hR.keep k2
  have K2 := K1.trans k2
  clear k2 K1
  have hS := rs.rd
  clear rs
  go_wp2_with fail
  refine (implSourcesCount_any _ _ _ hR l1 L2.out).mono ?_
  rintro e w3 ⟨rfl, k3⟩
  replace hR := hR.keep k3
  replace hS := hS.keep k3
  have K3 := K2.trans k3
  clear k3 K2
  go_wp2_with fail
  refine (drawFromWeb_any _ a0 cap0 zs (hrd.up K3)).mono ?_
  rintro e w4 ⟨vq, vf, qss, f, rfl, hQ, hD, hF, fl, k4⟩
  replace hR := hR.keep k4
  replace hS := hS.keep k4
  have K4 := K3.trans k4
  clear k4 K3
  have q1 : qss.length ≤ 1048576 := by have := hD.1; omega
  have q2 : ∀ i, i < qss.length → (qss.getD i []).length ≤ 1048576 := fun i hi => by have := hD.2 i hi; omega
  have Q2 := Lib.hid q2
  have nw := fwB_len qss f
  clear hD q2
  go_wp2_with fail
  refine (implFromWeb_any _ _ _ _ _ hQ hF q1 Q2.out (by omega)).mono ?_
  rintro e w5 ⟨vw, rfl, rw, k5⟩
  replace hR := hR.keep k5
  replace hS := hS.keep k5
  replace hQ := hQ.keep k5
  replace hF := hF.keep k5
  have K5 := K4.trans k5
  clear k5 K4
  have hW := rw.rd
  clear rw
  go_wp2_with fail
  refine (specSourceAt_own _ _ _ n hR l1 L2.out).mono ?_
  rintro e w6 ⟨xt, rfl, ot, k6⟩
  replace hR := hR.keep k6
  replace hS := hS.keep k6
  replace hQ := hQ.keep k6
  replace hF := hF.keep k6
  replace hW := hW.keep k6
  have K6 := K5.trans k6
  clear k6 K5
  have ht := ot.rd
  clear ot
  go_wp2_with fail
  refine (like_any _ _ _ _ _ hS ht (by omega)).mono ?_
  rintro e w7 ⟨rfl, k7⟩
  replace hR := hR.keep k7
  replace hS := hS.keep k7
  replace hQ := hQ.keep k7
  replace hF := hF.keep k7
  replace hW := hW.keep k7
  have K7 := K6.trans k7
  clear k7 K6
  clear ht
  go_wp2_with fail
  refine (specSourcesCount_any _ _ _ hR l1 L2.out).mono ?_
  rintro e w8 ⟨rfl, k8⟩
  replace hR := hR.keep k8
  replace hS := hS.keep k8
  replace hQ := hQ.keep k8
  replace hF := hF.keep k8
  replace hW := hW.keep k8
  have K8 := K7.trans k8
  clear k8 K7
  have ec : (cntB dss != cntB dss) = false := by simp
  go_wp2_with fail
  refine (specFromWeb_any _ _ _ _ _ hQ hF q1 Q2.out (by omega)).mono ?_
  rintro e w9 ⟨xt, rfl, ot, k9⟩
  replace hR := hR.keep k9
  replace hS := hS.keep k9
  replace hQ := hQ.keep k9
  replace hF := hF.keep k9
  replace hW := hW.keep k9
  have K9 := K8.trans k9
  clear k9 K8
  have ht := ot.rd
  clear ot
  go_wp2_with fail
  refine (like_any _ _ _ _ _ hW ht (by omega)).mono ?_
  rintro e w10 ⟨rfl, k10⟩
  replace hR := hR.keep k10
  replace hS := hS.keep k10
  replace hQ := hQ.keep k10
  replace hF := hF.keep k10
  replace hW := hW.keep k10
  have K10 := K9.trans k10
  clear k10 K9
  clear ht hW nw
  obtain ⟨sb, hsb⟩ : ∃ sb, sb = sourceB qss f := ⟨_, rfl⟩
  have HSB := Lib.hid hsb
  clear hsb
  go_wp2_with fail
  refine (implSourceOk_any _ _ _ _ _ hQ hF q1 Q2.out (by omega)).mono ?_
  rw [← HSB.out]
  rintro e w11 ⟨rfl, k11⟩
  replace hR := hR.keep k11
  replace hS := hS.keep k11
  replace hQ := hQ.keep k11
  replace hF := hF.keep k11
  have K11 := K10.trans k11
  clear k11 K10
  go_wp2_with fail
  refine (specSourceOk_any _ _ _ _ _ hQ hF q1 Q2.out (by omega)).mono ?_
  rw [← HSB.out]
  rintro e w12 ⟨rfl, k12⟩
  replace hR := hR.keep k12
  replace hS := hS.keep k12
  replace hQ := hQ.keep k12
  replace hF := hF.keep k12
  have K12 := K11.trans k12
  clear k12 K11
  have eb : (sb != sb) = false := by simp
  clear hQ hF Q2 HSB
  by_cases hn0 : n < 0
  · have HE : Hid (atB dss n = []) := Lib.hid (by unfold atB; rw [if_neg (by omega)])
    obtain ⟨az, cz, rfl, -⟩ := hS
    rw [HE.out]
    go_wp2
    go_ret
    exact ⟨rfl, K12⟩
  have hn0' : 0 ≤ n := by omega
  by_cases hn1 : cntB dss ≤ n
  · have HE : Hid (atB dss n = []) := Lib.hid (by unfold atB; rw [if_neg (by omega)])
    obtain ⟨az, cz, rfl, -⟩ := hS
    rw [HE.out]
    generalize cntB dss = m at ec hcb hn1
    go_wp2
    go_ret
    exact ⟨rfl, K12⟩
  have hn1' : n < cntB dss := by omega
  clear hn0 hn1
  obtain ⟨-, HS1, HL1, HL2, HL3, HM, HI, HO⟩ := src_all hn0' hn1'
  have hN := eventsB_le dss
  have HS1 := Lib.hid HS1
  have HI := Lib.hid HI
  have HO := Lib.hid HO
  have HM := Lib.hid HM
  have HL3 := Lib.hid HL3
  obtain ⟨cn, hcn⟩ : ∃ cn, cn = cntB dss := ⟨_, rfl⟩
  rw [← hcn] at hn1' hcb ec HO ⊢
  clear hcn
  go_wp2_with fail
  refine (implSourceOk_any _ _ _ _ _ hR hS l1 L2.out (by omega)).mono ?_
  rw [HS1.out]
  rintro e w13 ⟨rfl, k13⟩
  replace hR := hR.keep k13
  replace hS := hS.keep k13
  have K13 := K12.trans k13
  clear k13 K12
  clear HS1
  go_wp2_with fail
  refine (specEventsOf_any _ _ _ hR l1 L2.out).mono ?_
  rintro e w14 ⟨ve, rfl, ae, k14⟩
  replace hR := hR.keep k14
  replace hS := hS.keep k14
  have K14 := K13.trans k14
  clear k14 K13
  have hX := ae.rd
  clear ae
  go_wp2_with fail
  refine (specReadsOf_any _ _ _ hX (by omega)).mono ?_
  rintro e w15 ⟨vr, rfl, od, k15⟩
  replace hR := hR.keep k15
  replace hS := hS.keep k15
  replace hX := hX.keep k15
  have K15 := K14.trans k15
  clear k15 K14
  have hD := od.rd
  clear od
  go_wp2_with fail
  refine (implFromWeb_any _ _ _ _ _ hR hS l1 L2.out (by omega)).mono ?_
  rintro e w16 ⟨vx, rfl, rx, k16⟩
  replace hR := hR.keep k16
  replace hS := hS.keep k16
  replace hX := hX.keep k16
  replace hD := hD.keep k16
  have K16 := K15.trans k16
  clear k16 K15
  have hY := rx.rd
  clear rx
  obtain ⟨XL, hXL⟩ : ∃ XL, XL = fwB dss (atB dss n) := ⟨_, rfl⟩
  rw [← hXL] at hY HL1 HM HI
  have HSL : Hid (∀ m, 0 ≤ m → m < cn → decide (atB dss m = atB dss n) = decide (m = n)) := HO
  clear hXL HO
  obtain ⟨SL, hSL⟩ : ∃ SL, SL = atB dss n := ⟨_, rfl⟩
  rw [← hSL] at hS HL3 HI HSL ns
  clear hSL
  generalize eventsB dss = es at hX hD HL1 HL2 HL3 HM HI hN
  obtain ⟨RL, hRL⟩ : ∃ RL, RL = idxB rdE es := ⟨_, rfl⟩
  rw [← hRL] at hD HL2 HL3 HM HI
  clear hRL
  have hYR := hY
  have hSR := hS
  have hDR := hD
  obtain ⟨ay, cy, rfl, hY⟩ := hY
  obtain ⟨az, cz, rfl, hS⟩ := hS
  obtain ⟨ad, cd, rfl, hD⟩ := hD
  obtain ⟨ax, cx, rfl, hX⟩ := hX
  have HY := Lib.hid hY
  have HSS := Lib.hid hS
  have HD := Lib.hid hD
  have HX := Lib.hid hX
  have HYR := Lib.hid hYR
  have HSR := Lib.hid hSR
  clear hY hS hD hX hYR hDR hSR
  go_wp2
  go_loopw [13, 14] (fun x i wr => ∃ k : Nat, k ≤ XL.length ∧ x = .int .i64 (memN XL k) ∧ i = .int .i64 k ∧ Keep w16 wr) (fun _ i _ => XL.length - (intOf i).toNat)
  case atStart => exact ⟨0, Nat.zero_le _, rfl, rfl, Keep.refl _⟩
  case round =>
    obtain ⟨k, hk, rfl, rfl, hKr⟩ := hrel
    by_cases hlt : k < XL.length
    · rcases HY.out with h | ⟨b, o, rfl, hb, hc⟩
      · exfalso; rw [h] at hlt; simp at hlt
      have d1 := (hKr.cell hb).trans (hc k hlt)
      clear hc
      have HN : Hid (memN XL (k + 1) = memN XL k + (mem (XL.getD k 0) 12).length) := Lib.hid rfl
      have m1 := memN_le XL k
      have m2 := mem_le (XL.getD k 0)
      generalize XL.getD k 0 = s at d1 HN m2
      generalize memN XL k = M at m1 HN
      have i1 : (0 : Int) ≤ (k : Int) := Int.natCast_nonneg _
      have i2 : (k : Int) < (XL.length : Int) := by omega
      go_wp2_with fail
      refine (implMembers_any s _).mono ?_
      rintro e wm ⟨vm, rfl, om, km⟩
      obtain ⟨am, cm, rfl, -⟩ := om.rd
      clear om
      generalize (mem s 12).length = q at m2 HN
      have mq : (M : Int) + (q : Int) ≤ 288 := by omega
      go_wp2
      go_roundw
      case rel => exact ⟨k + 1, by omega, by rw [HN.out]; go_num, by go_num, hKr.trans km⟩
      case measure => simp [intOf]; omega
    · obtain rfl : k = XL.length := by omega
      rw [HL1, HM.out]
      clear HM
      obtain ⟨wo, rfl⟩ : ∃ wo : World, wo = wr := ⟨_, rfl⟩
      go_wp2
      go_loopw [15] (fun i wr => ∃ k : Nat, k ≤ RL.length ∧ i = .int .i64 k ∧ Keep w16 wr) (fun i _ => RL.length - (intOf i).toNat)
      case atStart => exact ⟨0, Nat.zero_le _, rfl, hKr⟩
      case round =>
        clear hKr
        obtain ⟨k, hk, rfl, hKr⟩ := hrel
        by_cases hlt : k < RL.length
        · obtain ⟨a, j, e1, e2, b1, b2, e3, e4⟩ := HI.out k hlt
          rcases HY.out with h | ⟨by', oy, rfl, hby, hcy⟩
          · exfalso; rw [h] at HL1; simp at HL1; omega
          rcases HSS.out with h | ⟨bs, os, rfl, hbs, hcs⟩
          · exfalso; have q := HL3.out; rw [h] at q; simp at q; omega
          rcases HD.out with h | ⟨bd, od, rfl, hbd, hcd⟩
          · exfalso; rw [h] at hlt; simp at hlt
          rcases HX.out with h | ⟨bx, ox, rfl, hbx, hcx⟩
          · exfalso; rw [h] at b1; simp at b1
          have d1 := (hKr.cell hbs).trans (hcs k (by have := HL3.out; omega))
          have d2 := (hKr.cell hby).trans (hcy a (by omega))
          have d3 := (hKr.cell hbd).trans (hcd k hlt)
          rw [e1] at d1
          rw [e2] at d3
          have X1 := (hcx a _ (evs_get b1)).keep hbx hKr
          have X2 := (hcx j _ (evs_get b2)).keep hbx hKr
          clear hcy hcs hcd hcx HI HY HSS HD HX e1 e2
          have CI := fun w => implInSet_any (XL.getD a 0) j w
          rw [e3] at CI
          generalize XL.getD a 0 = vk at d2 CI
          obtain ⟨x, hx⟩ : ∃ x, x = es.getD a zE := ⟨_, rfl⟩
          rw [← hx] at X1 e4
          clear hx
          obtain ⟨y, hy⟩ : ∃ y, y = es.getD j zE := ⟨_, rfl⟩
          rw [← hy] at X2 e4
          clear hy
          obtain ⟨x0, x1, x2, x3, x4, x5⟩ := x
          obtain ⟨y0, y1, y2, y3, y4, y5⟩ := y
          obtain ⟨-, -, -, s3, -, -⟩ := atE X1
          obtain ⟨-, -, -, t3, -, -⟩ := atE X2
          clear X1 X2 e3
          simp only at e4
          subst e4
          have i0 : (0 : Int) ≤ (k : Int) := Int.natCast_nonneg _
          have i1 : (k : Int) < (RL.length : Int) := by omega
          have i2 : (k : Int) < (SL.length : Int) := by have := HL3.out; omega
          have i3 : (0 : Int) ≤ (a : Int) := Int.natCast_nonneg _
          have i4 : (a : Int) < (es.length : Int) := by omega
          have i5 : (a : Int) < (XL.length : Int) := by omega
          have i6 : (0 : Int) ≤ (j : Int) := Int.natCast_nonneg _
          have i7 : (j : Int) < (es.length : Int) := by omega
          have z1 : bx < wr.heap.size := Nat.lt_of_lt_of_le hbx hKr.size
          have z2 : by' < wr.heap.size := Nat.lt_of_lt_of_le hby hKr.size
          have z3 : bs < wr.heap.size := Nat.lt_of_lt_of_le hbs hKr.size
          have z4 : bd < wr.heap.size := Nat.lt_of_lt_of_le hbd hKr.size
          go_wp2
          go_quiet ((go_at_call 23; exact Calls.quiet_of_same (CI _)))
          go_wp2
          go_roundw
          case rel => exact ⟨k + 1, by omega, by go_num, hKr.drewN _⟩
          case measure => simp [intOf]; omega
        · obtain rfl : k = RL.length := by omega
          have Kl := K16.trans hKr
          have hR9 := hR.keep hKr
          have hS9 := HSR.out.keep hKr
          clear HI HY HSS HD HX HYR HSR
          go_wp2_with fail
          refine (pick_any _ a0 cap0 zs (hrd.up Kl) hz12 cn (by omega) (by omega)).mono ?_
          rintro e wp ⟨m, rfl, m0, m1, rfl⟩
          have HO := HSL.out m m0 m1
          go_wp2_with fail
          refine (implSourceAt_any _ _ _ m hR9 l1 L2.out).mono ?_
          rintro e wq ⟨va, rfl, ra, ka⟩
          have ha := ra.rd
          have la := atB_len dss m
          clear ra
          go_wp2_with fail
          refine (like_any _ _ _ _ _ ha (hS9.keep ka) (by omega)).mono ?_
          rw [HO]
          rintro e wt ⟨rfl, kt⟩
          by_cases hmn : m = n
          · have f1 : decide (m = n) = true := decide_eq_true hmn
            have f2 : (m == n) = true := by simp [hmn]
            rw [f1]
            clear HO
            go_wp2
            go_ret
            exact ⟨rfl, (Kl.trans ka).trans kt⟩
          · have f1 : decide (m = n) = false := decide_eq_false hmn
            have f2 : (m == n) = false := by simp [hmn]
            rw [f1]
            clear HO
            go_wp2
            go_ret
            exact ⟨rfl, (Kl.trans ka).trans kt⟩

set_option maxRecDepth 100000 in
theorem lifted (os : Os) (started : os.Started) (H : Type) (enc : TypeId × Value → H) :
    ReturnsInHanded {} Try.checked os 3 .any (Rows.fnSourcesSpec.pre6 enc Try.prog Try.f3 Rows.fnSourcesRow.domain false) (Rows.fnSourcesSpec.post enc Try.prog Try.f3 false true false false) := by
  refine returnsInHanded_of_change (C := Try.checked) own started (by kernel_rfl) Try.func3
    (ChangeSpec.witness6 (enc := enc) (C := Try.checked) false ⟨#[], #[.slice none 0 0], []⟩ 8 (by kernel_rfl) (by kernel_rfl) (by kernel_rfl) (by kernel_rfl)) ?_
  intro W base args ds gs before hval0 hW hcnd _

  have hval : ∀ (j : Nat) t v, Try.f3.params[j]? = some t → args[j]? = some v → Value.okWide Try.prog W .any base t v := hval0
  have hW' := hW
  obtain ⟨p, q, hA0, hV, rfl, hfz, hnd⟩ := hW
  have hA : DataW.TrodAll enc Try.prog W 0 (fun _ => true) true Try.f3.params.toList args.toList ds p := hA0
  rw [Try.params3] at hA hval
  obtain ⟨v0, vs0, d0, ds0, p0, q0, hargs, rfl, rfl, h0, r0⟩ := trodAll_cons hA
  obtain ⟨rfl, rfl, rfl⟩ := trodAll_nil r0
  obtain rfl : args = #[v0] := by cases args; simp_all
  obtain ⟨rfl, rfl⟩ := trodVars_none hV
  have k0 := h0
  have lt0 : ∀ x ∈ p0, x.block < W.heap.size := by obtain ⟨m, hm⟩ := k0; exact DataW.trod_lt m _ _ _ hm
  obtain ⟨a0, len0, cap0, rfl⟩ := okWide_slice Try.underlying22 (hval 0 22 v0 rfl rfl)
  obtain ⟨z0, w0⟩ : ∃ zs, IsRow .u8 W a0 len0 cap0 zs := by
    obtain ⟨fuel, hf⟩ := h0
    rcases open_ints Try.underlying22 Try.underlying5 (by kernel_rfl) hf with ⟨hcs, _⟩ | ⟨x, l, c, zs, hcs, _, hl, hm, hz, _, hcell, hwz⟩
    · simp [Value.cells] at hcs
      obtain ⟨rfl, rfl, rfl⟩ := hcs
      exact ⟨[], .inl ⟨rfl, rfl, rfl, rfl⟩⟩
    · simp [Value.cells] at hcs
      obtain ⟨rfl, rfl, rfl⟩ := hcs
      exact ⟨zs, .inr ⟨_, rfl, hl, hm, by simpa using hz, hcell, hwz⟩⟩
  clear hA0 hval0
  refine (walk a0 len0 cap0 z0 W w0).mono fun e W' ⟨he, bel⟩ => ?_
  subst he
  exact ⟨_, rfl, _, _, _, [], _, [], hW', trodAll_mk1 (shut_bool Try.underlying4 _), (trodAll_cons_mk (Below.trod laidOut (by kernel_rfl) (of_decide_eq_true (by kernel_rfl)) k0 bel lt0) trodAll_mk0), rfl, bel.frame _, fun h => by cases h⟩

theorem over : Rows.fnSourcesRow.holds Try.pinned (OpenSpec.ofChange Rows.fnSourcesSpec) :=
  OpenClaim.holds_of_wide 3 Try.f3 rfl rfl rfl rfl rfl rfl rfl ⟨rfl, rfl, rfl, rfl, rfl⟩ rfl rfl rfl rfl rfl (by kernel_rfl) Try.func3 (by kernel_rfl)
    (of_decide_eq_true (by kernel_rfl)) (by unfold Func.isWrapper; first | (rw [if_pos (by decide +kernel)]; kernel_rfl) | (rw [if_neg (by decide +kernel)]; exact ⟨rfl, rfl⟩))
    (fun os started H enc _ => lifted os started H enc)

#print axioms over
end Go.Proofs.Ytdgalmimkhoanaa.fnSources
namespace Go.Proofs.Ytdgalmimkhoanaa
theorem fnSources_holds : Rows.FnSourcesSaid := fnSources.over
end Go.Proofs.Ytdgalmimkhoanaa
