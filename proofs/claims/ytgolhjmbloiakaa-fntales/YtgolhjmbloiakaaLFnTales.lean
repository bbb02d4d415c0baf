/- At every string of bytes the law FnTales answers true and its argument stays: the program's TaleAt, TalesCount and TaleOk answer as the specification's do at what is drawn; each number below the count tells a tale, another one than every other number, and the count is the sources' times the rows'. -/
import Derived.Test.YtgolhjmbloiakaaRows
import Derived.WalkKit
import Derived.ProofKit
import Derived.OpenShut
import Derived.ShutString
import Derived.ChangeOld
import Derived.Below
import Derived.Test.YtgolhjmbloiakaaMC
import Derived.Test.YtgolhjmbloiakaaMD
import Derived.Test.YtgolhjmbloiakaaTaleS
import Derived.Test.YtgolhjmbloiakaaTaleAtS
import Derived.Test.YtgolhjmbloiakaaTaleDraw
import Derived.Test.YtgolhjmbloiakaaTaleDrawC
import Derived.Test.YtgolhjmbloiakaaTaleLike
import Derived.Test.YtgolhjmbloiakaaMA
import Derived.Test.YtgolhjmbloiakaaTaleLaws
import Derived.Test.YtgolhjmbloiakaaPickL
import Derived.Test.YtgolhjmbloiakaaLawA
import Derived.Deep.Cut
import Derived.Deep.RegionHeld3
namespace Go.Proofs.Ytgolhjmbloiakaa.fnTales
open Go.ChangeShapes Go.WideShapes Go.ChangeAt Go.RowKit
open Go.ChangeMaps (open_string shut_string)
set_option linter.unusedVariables false

theorem own : ownKnob Try.prog.godebug = none := by kernel_rfl
theorem laidOut : laidOutB Try.prog = true := by kernel_rfl

/-- What the walk is told of a slice of bytes that came in: it is nil, or it leads to a row of cells, each fitting its kind. -/
def IsRow (k : IntKind) (w : World) (a : Option Addr) (len cap : Nat) (zs : List Int) : Prop :=
  (a = none ∧ len = 0 ∧ cap = 0 ∧ zs = []) ∨
  ∃ x, a = some x ∧ len ≤ cap ∧ cap ≤ maxLen ∧ zs.length = cap ∧ (∀ i, i < zs.length → w.cell? (x.add i) = some (.int k (zs.getD i 0))) ∧ ∀ n ∈ zs, (Lit.int k n).wf = true

set_option maxRecDepth 100000 in
set_option maxHeartbeats 8000000 in
theorem walk (a0 : Option Addr) (len0 cap0 : Nat) (z0 : List Int) (w : World) (w0 : IsRow .u8 w a0 len0 cap0 z0) :
    Calls Try.prog 3 #[.slice a0 len0 cap0] w fun e w' => e = .returned (.bool true) ∧ Below w.heap.size w w' := by
  by_cases hbig : 4096 < len0
  · have hbb : decide (4096 < len0) = true := by simpa using hbig
    go_enter Try.func3, Try.ntmps3
    go_wp2_with (go_at_call 8; refine (big_any _ _ _ _).mono ?_; rintro e w' ⟨rfl, rfl⟩)
    go_ret
    exact ⟨rfl, Below.refl _ _⟩
  have hbb : decide (4096 < len0) = false := by simpa using hbig
  obtain ⟨zs, hzl, hrd⟩ : ∃ zs : List Int, zs.length = len0 ∧ RdB w w.heap.size a0 zs := rdb_of_row (by omega) w0
  have hz12 : zs.length ≤ 4096 := by omega
  subst hzl
  clear w0 hbig
  go_enter Try.func3, Try.ntmps3
  go_wp2_with fail
  refine (big_any _ _ _ _).mono ?_
  rintro e w' ⟨rfl, rfl⟩
  go_wp2_with fail
  refine (drawTaleAt_any _ a0 cap0 zs hrd).mono ?_
  rintro e w1 ⟨v, dss, n, rfl, hR, hD, k1⟩
  have l1 : dss.length ≤ 1048576 := by have := hD.1; omega
  have l2 : ∀ i, i < dss.length → (dss.getD i []).length ≤ 1048576 := fun i hi => by have := hD.2 i hi; omega
  have L2 := Lib.hid l2
  have hcb := tcB_in dss
  have lf : ∀ m : Int, (tfB dss m).length ≤ 12 := fun m => by unfold tfB; split; exact atB_len _ _; simp
  have lr : ∀ m : Int, (trB dss m).length ≤ 36 := fun m => by unfold trB; split; exact ratB_len _ _; simp
  have LF := Lib.hid lf
  have LR := Lib.hid lr
  clear hD hbb l2 lf lr
  go_wp2_with fail
  refine (implTaleAt_any _ _ _ n hR l1 L2.out).mono ?_
  rintro e w2 ⟨vF, vR, rfl, rF, rR, hcz, ap, k2⟩
  have K2 := k1.trans k2
  have fn := LF.out n
  have rn := LR.out n
  obtain ⟨TF, hTF⟩ : ∃ L, L = tfB dss n := ⟨_, rfl⟩
  have HTF := Lib.hid hTF
  obtain ⟨TR, hTR⟩ : ∃ L, L = trB dss n := ⟨_, rfl⟩
  have HTR := Lib.hid hTR
  obtain ⟨bt, hbt⟩ : ∃ L, L = taB dss n := ⟨_, rfl⟩
  have HBT := Lib.hid hbt
  rw [← hTF] at rF fn
  rw [← hTR] at rR hcz rn
  rw [← hbt]
  clear hTF hTR hbt
  have hF := rF.rd
  have hT := rR.rd
  have HCZ := Lib.hid hcz
  obtain ⟨aF, cF, rfl, -⟩ := id hF
  obtain ⟨aR, cR, rfl, -⟩ := id hT
  replace hR := hR.keep k2
  clear rF rR ap hcz k1 k2
  go_upto_region 5 with fail
  obtain ⟨w3, hw3⟩ : ∃ W : World, W = w2.alloc (taleC (.slice aF TF.length cF) (.slice aR TR.length cR)) := ⟨_, rfl⟩
  have x0 : w3.cell? ⟨w2.heap.size, 0, none⟩ = some (.slice aF TF.length cF) := by rw [hw3]; exact box_cell (Keep.refl _) 0
  have x1 : w3.cell? ⟨w2.heap.size, 1, none⟩ = some (.slice aR TR.length cR) := by rw [hw3]; exact box_cell (Keep.refl _) 1
  have k3 : Keep w2 w3 := by rw [hw3]; exact (Keep.refl _).alloc _
  have xl : w2.heap.size < w3.heap.size := by rw [hw3, heap_size]; omega
  rw [← hw3]
  clear hw3
  have K3 := K2.trans k3
  replace hR := hR.keep k3
  replace hF := hF.keep k3
  replace hT := hT.keep k3
  generalize w2.heap.size = X at x0 x1 xl
  clear K2 k3
  go_wp2_with fail
  refine (implTalesCount_any _ _ _ hR l1 L2.out).mono ?_
  rintro e w4 ⟨rfl, k4⟩
  have K4 := K3.trans k4
  go_wp2_with fail
  refine (drawTaleOk_any _ a0 cap0 zs (hrd.up K4)).mono ?_
  rintro e w5 ⟨vq, uF, uR, qss, g, rows, bs, N, rfl, hQ0, hD, oG, oO, ⟨lg, lo⟩, -, k5⟩
  have K5 := K4.trans k5
  have k45 := k4.trans k5
  have q1 : qss.length ≤ 1048576 := by have := hD.1; omega
  have q2 : ∀ i, i < qss.length → (qss.getD i []).length ≤ 1048576 := fun i hi => by have := hD.2 i hi; omega
  have Q2 := Lib.hid q2
  have hQ := hQ0.rd
  have hG := oG.rd
  have hO := oO.rd
  have HCO := Lib.hid oO.capz
  obtain ⟨aG, cG, rfl, -⟩ := id hG
  obtain ⟨aO, cO, rfl, -⟩ := id hO
  replace hR := hR.keep k45
  replace hF := hF.keep k45
  replace hT := hT.keep k45
  replace x0 := (k45.cell xl).trans x0
  replace x1 := (k45.cell xl).trans x1
  replace xl := Nat.lt_of_lt_of_le xl k45.size
  clear hD q2 hQ0 oG oO k4 k5 k45 K3 K4
  go_upto_region 7 with fail
  obtain ⟨w6, hw6⟩ : ∃ W : World, W = w5.alloc (taleC (.slice aG g.length cG) (.slice aO rows.length cO)) := ⟨_, rfl⟩
  have y0 : w6.cell? ⟨w5.heap.size, 0, none⟩ = some (.slice aG g.length cG) := by rw [hw6]; exact box_cell (Keep.refl _) 0
  have y1 : w6.cell? ⟨w5.heap.size, 1, none⟩ = some (.slice aO rows.length cO) := by rw [hw6]; exact box_cell (Keep.refl _) 1
  have k6 : Keep w5 w6 := by rw [hw6]; exact (Keep.refl _).alloc _
  have yl : w5.heap.size < w6.heap.size := by rw [hw6, heap_size]; omega
  rw [← hw6]
  clear hw6
  have K6 := K5.trans k6
  replace hR := hR.keep k6
  replace hF := hF.keep k6
  replace hT := hT.keep k6
  replace hQ := hQ.keep k6
  replace hG := hG.keep k6
  replace hO := hO.keep k6
  replace x0 := (k6.cell xl).trans x0
  replace x1 := (k6.cell xl).trans x1
  replace xl := Nat.lt_of_lt_of_le xl k6.size
  generalize w5.heap.size = Y at y0 y1 yl
  clear K5 k6
  go_wp2_with fail
  refine (specTaleAt_own _ _ _ n hR l1 L2.out).mono ?_
  rw [← HTF.out, ← HTR.out, ← HBT.out]
  rintro e w7 ⟨sF, sR, rfl, oF, oR, -, k7⟩
  have K7 := K6.trans k7
  have hS := oF.rd
  have hU := oR.rd
  obtain ⟨aS, cS, rfl, -⟩ := id hS
  obtain ⟨aU, cU, rfl, -⟩ := id hU
  replace hR := hR.keep k7
  replace hF := hF.keep k7
  replace hT := hT.keep k7
  replace hQ := hQ.keep k7
  replace hG := hG.keep k7
  replace hO := hO.keep k7
  replace x0 := (k7.cell xl).trans x0
  replace x1 := (k7.cell xl).trans x1
  replace y0 := (k7.cell yl).trans y0
  replace y1 := (k7.cell yl).trans y1
  replace xl := Nat.lt_of_lt_of_le xl k7.size
  replace yl := Nat.lt_of_lt_of_le yl k7.size
  clear oF oR k7 K6
  go_upto_region 8 with fail
  obtain ⟨w8, hw8⟩ : ∃ W : World, W = w7.alloc (taleC (.slice aS TF.length cS) (.slice aU TR.length cU)) := ⟨_, rfl⟩
  have z0 : w8.cell? ⟨w7.heap.size, 0, none⟩ = some (.slice aS TF.length cS) := by rw [hw8]; exact box_cell (Keep.refl _) 0
  have z1 : w8.cell? ⟨w7.heap.size, 1, none⟩ = some (.slice aU TR.length cU) := by rw [hw8]; exact box_cell (Keep.refl _) 1
  have k8 : Keep w7 w8 := by rw [hw8]; exact (Keep.refl _).alloc _
  have zl : w7.heap.size < w8.heap.size := by rw [hw8, heap_size]; omega
  rw [← hw8]
  clear hw8
  have K8 := K7.trans k8
  replace hR := hR.keep k8
  replace hF := hF.keep k8
  replace hT := hT.keep k8
  replace hQ := hQ.keep k8
  replace hG := hG.keep k8
  replace hO := hO.keep k8
  replace hS := hS.keep k8
  replace hU := hU.keep k8
  replace x0 := (k8.cell xl).trans x0
  replace x1 := (k8.cell xl).trans x1
  replace y0 := (k8.cell yl).trans y0
  replace y1 := (k8.cell yl).trans y1
  replace xl := Nat.lt_of_lt_of_le xl k8.size
  replace yl := Nat.lt_of_lt_of_le yl k8.size
  generalize w7.heap.size = Z at z0 z1 zl
  clear K7 k8
  have eb : (bt != bt) = false := by simp
  obtain ⟨cn, hcn⟩ : ∃ cn, cn = tcB dss := ⟨_, rfl⟩
  have HCN := Lib.hid hcn
  rw [← hcn] at hcb ⊢
  clear hcn
  have ec : (cn != cn) = false := by simp
  obtain ⟨sb, hsb⟩ : ∃ sb, sb = taleB qss g rows := ⟨_, rfl⟩
  have HSB := Lib.hid hsb
  clear hsb
  have es : (sb != sb) = false := by simp
  have d1 : X < w8.drew.heap.size := xl
  have d2 : Y < w8.drew.heap.size := yl
  have d3 : Z < w8.drew.heap.size := zl
  go_cut [64] from 15 (fun s wx => s = .bool false ∧ Keep w8 wx)
  case first =>
    go_wp2_with fail
    go_region_held3 (fun w' => w'.cell? ⟨X, 0, none⟩ = some (.slice aF TF.length cF) ∧ w'.cell? ⟨X, 1, none⟩ = some (.slice aR TR.length cR) ∧ w'.cell? ⟨Y, 0, none⟩ = some (.slice aG g.length cG) ∧ w'.cell? ⟨Y, 1, none⟩ = some (.slice aO rows.length cO) ∧ w'.cell? ⟨Z, 0, none⟩ = some (.slice aS TF.length cS) ∧ w'.cell? ⟨Z, 1, none⟩ = some (.slice aU TR.length cU))
      (first | go_keep | (go_split_ands; refine ⟨?_, ?_, ?_, ?_, ?_, ?_⟩ <;> (rw [kk.cell (by assumption)]; assumption)))
      ((first
        | (go_at_call 14; refine (likeTale_same _ _ _ _ _ _ _ (hF.keep (Keep.refl w8).drew) (hT.keep (Keep.refl w8).drew) (hS.keep (Keep.refl w8).drew) (hU.keep (Keep.refl w8).drew) (by omega) (by omega)).mono ?_; rintro e wa ⟨rfl, kk⟩; have m1 := (Keep.refl w8).drew.trans kk; have u1 : X < wa.heap.size := Nat.lt_of_lt_of_le d1 kk.size; have u2 : Y < wa.heap.size := Nat.lt_of_lt_of_le d2 kk.size; have u3 : Z < wa.heap.size := Nat.lt_of_lt_of_le d3 kk.size)
        | (go_at_call 15; refine (specTalesCount_any _ _ _ (hR.keep m1) l1 L2.out).mono ?_; rw [← HCN.out]; clear kk; rintro e wb ⟨rfl, kk⟩; have m2 := m1.trans kk; have t1 : X < wb.heap.size := Nat.lt_of_lt_of_le u1 kk.size; have t2 : Y < wb.heap.size := Nat.lt_of_lt_of_le u2 kk.size; have t3 : Z < wb.heap.size := Nat.lt_of_lt_of_le u3 kk.size)
        | (go_at_call 16; refine (implTaleOk_any _ _ _ _ _ _ _ (hQ.keep m2) (hG.keep m2) (hO.keep m2) HCO.out q1 Q2.out (by omega) (by omega)).mono ?_; rw [← HSB.out]; clear kk; rintro e wd ⟨rfl, kk⟩; have m3 := m2.trans kk; have s1 : X < wd.heap.size := Nat.lt_of_lt_of_le t1 kk.size; have s2 : Y < wd.heap.size := Nat.lt_of_lt_of_le t2 kk.size; have s3 : Z < wd.heap.size := Nat.lt_of_lt_of_le t3 kk.size)
        | (go_at_call 17; refine (specTaleOk_any _ _ _ _ _ _ _ (hQ.keep m3) (hG.keep m3) (hO.keep m3) HCO.out q1 Q2.out (by omega) (by omega)).mono ?_; rw [← HSB.out]; clear kk; rintro e we ⟨rfl, kk⟩)))
    all_goals
      go_wp2
      go_meet
      case rel => exact ⟨rfl, m3.trans kk⟩
  case rest =>
    obtain ⟨rfl, kd⟩ := hcut
    obtain ⟨wd, hwd⟩ : ∃ W : World, W = wc := ⟨_, rfl⟩
    subst hwd
    have Kd := K8.trans kd
    replace hR := hR.keep kd
    replace hF := hF.keep kd
    replace hT := hT.keep kd
    replace x0 := (kd.cell xl).trans x0
    replace x1 := (kd.cell xl).trans x1
    replace xl := Nat.lt_of_lt_of_le xl kd.size
    clear hQ hG hO hS hU y0 y1 z0 z1 yl zl d1 d2 d3 kd K8 HSB HCO Q2 es
    cases bt
    · have h1 : TF = [] := by rw [HTF.out, tfB, ← HBT.out]; rfl
      have h2 : TR = [] := by rw [HTR.out, trB, ← HBT.out]; rfl
      have hno : n < 0 ∨ cn ≤ n := by
        have e := HBT.out
        have e2 := HCN.out
        unfold taB at e
        rw [← e2] at e
        have := of_decide_eq_false e.symm
        omega
      clear HTF HTR
      subst h1 h2
      have hN : Rd wd nilV [] := ⟨none, 0, rfl, .inl rfl⟩
      go_wp2_with fail
      refine (likeTale_same _ _ _ _ _ [] [] hF hT hN hN (by simp) (by simp)).mono ?_
      rintro e w9 ⟨rfl, k9⟩
      by_cases h0 : n < 0
      · go_wp2
        go_ret
        exact ⟨rfl, Kd.trans k9⟩
      · have h0' : 0 ≤ n := by omega
        have h1' : cn ≤ n := by omega
        go_wp2
        go_ret
        exact ⟨rfl, Kd.trans k9⟩
    · have htb : taB dss n = true := HBT.out.symm
      obtain ⟨hwb, hrc, htk, htc, hinj⟩ := tale_at htb
      have hcb2 : 0 ≤ n ∧ n < cn := by
        have e := htb
        unfold taB at e
        rw [HCN.out]
        exact of_decide_eq_true e
      have HTK : Hid (taleB dss TF TR = true) := Lib.hid (by rw [HTF.out, HTR.out]; exact htk)
      have HTC : Hid (cn = cntB dss * rcntB dss) := Lib.hid (by rw [HCN.out]; exact htc)
      have HINJ := Lib.hid hinj
      have c6 := cnt_six hwb
      have r6 := rcnt_six hwb
      clear htk htc hinj htb hrc
      go_wp2_with fail
      refine (pick_any _ a0 cap0 zs (hrd.up Kd) hz12 cn (by omega) (by omega)).mono ?_
      rintro e w9 ⟨m, rfl, m0, m1, rfl⟩
      have htm : taB dss m = true := by
        unfold taB
        have := HCN.out
        simp
        omega
      have HI := Lib.hid (HINJ.out m htm)
      have fm := LF.out m
      have rm := LR.out m
      go_wp2_with fail
      refine (implTaleAt_any _ _ _ m hR l1 L2.out).mono ?_
      rw [htm]
      rintro e w10 ⟨vF2, vR2, rfl, rF2, rR2, -, -, k10⟩
      have hM := rF2.rd
      have hP := rR2.rd
      obtain ⟨MF, hMF⟩ : ∃ L, L = tfB dss m := ⟨_, rfl⟩
      obtain ⟨MR, hMR⟩ : ∃ L, L = trB dss m := ⟨_, rfl⟩
      rw [← hMF] at hM fm
      rw [← hMR] at hP rm
      have HI2 : Hid ((decide (MF = TF) && decide (MR = TR)) = decide (m = n)) := Lib.hid (by rw [hMF, hMR, HTF.out, HTR.out]; exact HI.out)
      clear hMF hMR rF2 rR2 HI HINJ
      obtain ⟨aM, cM, rfl, -⟩ := id hM
      obtain ⟨aP, cP, rfl, -⟩ := id hP
      have K10 := Kd.trans k10
      replace hR := hR.keep k10
      replace hF := hF.keep k10
      replace hT := hT.keep k10
      replace x0 := (k10.cell xl).trans x0
      replace x1 := (k10.cell xl).trans x1
      replace xl := Nat.lt_of_lt_of_le xl k10.size
      clear k10 Kd
      go_upto_region 14 with fail
      obtain ⟨w11, hw11⟩ : ∃ W : World, W = w10.alloc (taleC (.slice aM MF.length cM) (.slice aP MR.length cP)) := ⟨_, rfl⟩
      have y0 : w11.cell? ⟨w10.heap.size, 0, none⟩ = some (.slice aM MF.length cM) := by rw [hw11]; exact box_cell (Keep.refl _) 0
      have y1 : w11.cell? ⟨w10.heap.size, 1, none⟩ = some (.slice aP MR.length cP) := by rw [hw11]; exact box_cell (Keep.refl _) 1
      have k11 : Keep w10 w11 := by rw [hw11]; exact (Keep.refl _).alloc _
      have yl : w10.heap.size < w11.heap.size := by rw [hw11, heap_size]; omega
      rw [← hw11]
      clear hw11
      have K11 := K10.trans k11
      replace hR := hR.keep k11
      replace hF := hF.keep k11
      replace hT := hT.keep k11
      replace hM := hM.keep k11
      replace hP := hP.keep k11
      replace x0 := (k11.cell xl).trans x0
      replace x1 := (k11.cell xl).trans x1
      replace xl := Nat.lt_of_lt_of_le xl k11.size
      generalize w10.heap.size = V at y0 y1 yl
      clear k11 K10
      go_wp2_with fail
      refine (implTaleOk_any _ _ _ _ _ _ _ hR hF hT HCZ.out l1 L2.out (by omega) (by omega)).mono ?_
      rw [HTK.out]
      rintro e w12 ⟨rfl, k12⟩
      have K12 := K11.trans k12
      replace hR := hR.keep k12
      replace hF := hF.keep k12
      replace hT := hT.keep k12
      replace hM := hM.keep k12
      replace hP := hP.keep k12
      replace x0 := (k12.cell xl).trans x0
      replace x1 := (k12.cell xl).trans x1
      replace y0 := (k12.cell yl).trans y0
      replace y1 := (k12.cell yl).trans y1
      clear k12 K11
      go_wp2_with fail
      refine (likeTale_any _ _ _ _ _ _ _ _ _ hM hP hF hT (by omega) (by omega)).mono ?_
      rw [HI2.out]
      rintro e w13 ⟨rfl, k13⟩
      have K13 := K12.trans k13
      replace hR := hR.keep k13
      by_cases hmn : m = n
      · have hd : decide (m = n) = true := by simp [hmn]
        have hq : (m == n) = true := by simp [hmn]
        rw [hd]
        clear hmn hd
        go_wp2_with fail
        refine (specSourcesCount_any _ _ _ hR l1 L2.out).mono ?_
        rintro e w14 ⟨rfl, k14⟩
        go_wp2_with fail
        refine (specRowsCount_any _ _ _ (hR.keep k14) l1 L2.out).mono ?_
        rintro e w15 ⟨rfl, k15⟩
        generalize cntB dss = c1 at HTC c6 ⊢
        generalize rcntB dss = c2 at HTC r6 ⊢
        have hw : IntKind.i64.wrap (c1 * c2) = c1 * c2 := by rw [IntKind.wrap_i64]; have := HTC.out; omega
        have heq : (cn == c1 * c2) = true := by simp [HTC.out]
        go_wp2
        go_ret
        exact ⟨rfl, (K13.trans k14).trans k15⟩
      · have hd : decide (m = n) = false := by simp [hmn]
        have hq : (m == n) = false := by simp [hmn]
        rw [hd]
        clear hmn hd
        go_wp2_with fail
        refine (specSourcesCount_any _ _ _ hR l1 L2.out).mono ?_
        rintro e w14 ⟨rfl, k14⟩
        go_wp2_with fail
        refine (specRowsCount_any _ _ _ (hR.keep k14) l1 L2.out).mono ?_
        rintro e w15 ⟨rfl, k15⟩
        generalize cntB dss = c1 at HTC c6 ⊢
        generalize rcntB dss = c2 at HTC r6 ⊢
        have hw : IntKind.i64.wrap (c1 * c2) = c1 * c2 := by rw [IntKind.wrap_i64]; have := HTC.out; omega
        have heq : (cn == c1 * c2) = true := by simp [HTC.out]
        go_wp2
        go_ret
        exact ⟨rfl, (K13.trans k14).trans k15⟩

set_option maxRecDepth 100000 in
theorem lifted (os : Os) (started : os.Started) (H : Type) (enc : TypeId × Value → H) :
    ReturnsInHanded {} Try.checked os 3 .any (Rows.fnTalesSpec.pre6 enc Try.prog Try.f3 Rows.fnTalesRow.domain false) (Rows.fnTalesSpec.post enc Try.prog Try.f3 false true false false) := by
  refine returnsInHanded_of_change (C := Try.checked) own started (by kernel_rfl) Try.func3
    (ChangeSpec.witness6 (enc := enc) (C := Try.checked) false ⟨#[], #[.slice none 0 0], []⟩ 8 (by kernel_rfl) (by kernel_rfl) (by kernel_rfl) (by kernel_rfl)) ?_
  intro W base args ds gs before hval0 hW hcnd _

  have hval : ∀ (j : Nat) t v, Try.f3.params[j]? = some t → args[j]? = some v → Value.okWide Try.prog W .any base t v := hval0
  have hW' := hW
  obtain ⟨p, q, hA0, hV, rfl, hfz, hnd⟩ := hW
  have hA : DataW.TrodAll enc Try.prog W 0 (fun _ => true) true Try.f3.params.toList args.toList ds p := hA0
  rw [Try.params3] at hA hval
  obtain ⟨v0, vs0, d0, ds0, p0, q0, hargs, rfl, rfl, h0, r0⟩ := trodAll_cons hA
  obtain ⟨rfl, rfl, rfl⟩ := trodAll_nil r0
  obtain rfl : args = #[v0] := by cases args; simp_all
  obtain ⟨rfl, rfl⟩ := trodVars_none hV
  have k0 := h0
  have lt0 : ∀ x ∈ p0, x.block < W.heap.size := by obtain ⟨m, hm⟩ := k0; exact DataW.trod_lt m _ _ _ hm
  obtain ⟨a0, len0, cap0, rfl⟩ := okWide_slice Try.underlying22 (hval 0 22 v0 rfl rfl)
  obtain ⟨z0, w0⟩ : ∃ zs, IsRow .u8 W a0 len0 cap0 zs := by
    obtain ⟨fuel, hf⟩ := h0
    rcases open_ints Try.underlying22 Try.underlying5 (by kernel_rfl) hf with ⟨hcs, _⟩ | ⟨x, l, c, zs, hcs, _, hl, hm, hz, _, hcell, hwz⟩
    · simp [Value.cells] at hcs
      obtain ⟨rfl, rfl, rfl⟩ := hcs
      exact ⟨[], .inl ⟨rfl, rfl, rfl, rfl⟩⟩
    · simp [Value.cells] at hcs
      obtain ⟨rfl, rfl, rfl⟩ := hcs
      exact ⟨zs, .inr ⟨_, rfl, hl, hm, by simpa using hz, hcell, hwz⟩⟩
  clear hA0 hval0
  refine (walk a0 len0 cap0 z0 W w0).mono fun e W' ⟨he, bel⟩ => ?_
  subst he
  exact ⟨_, rfl, _, _, _, [], _, [], hW', trodAll_mk1 (shut_bool Try.underlying4 _), (trodAll_cons_mk (Below.trod laidOut (by kernel_rfl) (of_decide_eq_true (by kernel_rfl)) k0 bel lt0) trodAll_mk0), rfl, bel.frame _, fun h => by cases h⟩

theorem over : Rows.fnTalesRow.holds Try.pinned (OpenSpec.ofChange Rows.fnTalesSpec) :=
  OpenClaim.holds_of_wide 3 Try.f3 rfl rfl rfl rfl rfl rfl rfl ⟨rfl, rfl, rfl, rfl, rfl⟩ rfl rfl rfl rfl rfl (by kernel_rfl) Try.func3 (by kernel_rfl)
    (of_decide_eq_true (by kernel_rfl)) (by unfold Func.isWrapper; first | (rw [if_pos (by decide +kernel)]; kernel_rfl) | (rw [if_neg (by decide +kernel)]; exact ⟨rfl, rfl⟩))
    (fun os started H enc _ => lifted os started H enc)

#print axioms over
end Go.Proofs.Ytgolhjmbloiakaa.fnTales
namespace Go.Proofs.Ytgolhjmbloiakaa
theorem fnTales_holds : Rows.FnTalesSaid := fnTales.over
end Go.Proofs.Ytgolhjmbloiakaa
