/- At every list of lists of deeds and every pair of lists of numbers the program's StrictOk answers as the specification's does: the law FnExactStrictOk answers true and its arguments stay. -/
import Derived.Test.YtgikcfdckddgpabGreatRows
import Derived.WalkKit
import Derived.ProofKit
import Derived.OpenShut
import Derived.ShutString
import Derived.ChangeOld
import Derived.Below
import Derived.Test.YtgikcfdckddgpabGreatQA
import Derived.Test.YtgikcfdckddgpabGreatMV
import Derived.Test.YtgikcfdckddgpabGreatMU
import Derived.Test.YtgikcfdckddgpabGreatME
import Derived.Test.YtgikcfdckddgpabGreatMJ
import Derived.Deep.Cut
import Derived.Deep.RegionHeld3
namespace Go.Proofs.YtgikcfdckddgpabGreat.fnExactStrictOk
open Go.ChangeShapes Go.WideShapes Go.ChangeAt Go.RowKit
open Go.ChangeMaps (open_string shut_string)
set_option linter.unusedVariables false

theorem own : ownKnob Tryz.prog.godebug = none := by kernel_rfl
theorem laidOut : laidOutB Tryz.prog = true := by kernel_rfl

set_option maxRecDepth 100000 in
set_option maxHeartbeats 8000000 in
theorem walk (v : Value) (dss : List (List Dd)) (vF vR : Value) (f rows : List Int) (w : World) (hr : RdW w v dss) (hl : dss.length ≤ maxLen) (hls : ∀ i, i < dss.length → (dss.getD i []).length ≤ maxLen) (hf : Rd w vF f) (hq : Rd w vR rows) (lf : f.length ≤ maxLen) (lr : rows.length ≤ maxLen) :
    Calls Tryz.prog 5 #[v, .agg #[vF, vR]] w fun e w' => e = .returned (.bool true) ∧ Below w.heap.size w w' := by
  have HF := Lib.hid hf
  have HQ := Lib.hid hq
  obtain ⟨aF, cF, rfl, -⟩ := hf
  obtain ⟨aR, cR, rfl, -⟩ := hq
  go_enter Tryz.func5, Tryz.ntmps5
  go_upto_region 1 with fail
  obtain ⟨wB, hwB⟩ : ∃ W : World, W = w.alloc (.cells #[.slice aF f.length cF, .slice aR rows.length cR] 25) := ⟨_, rfl⟩
  have kB : Keep w wB := by rw [hwB]; exact (Keep.refl w).alloc _
  have sB : wB.heap.size = w.heap.size + 1 := by rw [hwB]; exact heap_size _ _
  have b0 : wB.cell? ⟨w.heap.size, 0, none⟩ = some (.slice aF f.length cF) := by rw [hwB]; exact box_cell (Keep.refl _) 0
  have b1 : wB.cell? ⟨w.heap.size, 1, none⟩ = some (.slice aR rows.length cR) := by rw [hwB]; exact box_cell (Keep.refl _) 1
  rw [← hwB]
  clear hwB
  have lB : w.heap.size < wB.heap.size := by omega
  clear sB
  have hr0 := hr.keep kB
  go_wp2_with fail
  refine (szW_top _ _ _ hr0 _ (by omega) (by omega) hl hls).mono ?_
  rintro e w0 ⟨r, rfl, rfl, hd⟩
  by_cases hneg : r < 0
  · go_wp2
    go_ret
    exact ⟨rfl, kB⟩
  obtain ⟨hsum, hrl⟩ := hd.resolve_left hneg
  have hge : (0 : Int) ≤ r := by omega
  have l1 : dss.length ≤ 1048576 := by omega
  have l2 : ∀ i, i < dss.length → (dss.getD i []).length ≤ 1048576 := fun i hi => by have := lenW_get dss i hi; omega
  have HL : Hid (likeW dss dss = true) := Lib.hid (by unfold likeW; simp)
  clear hd hneg hsum hl hls hr0
  go_wp2_with fail
  refine (szTale_any _ _ _ _ _ r (HF.out.keep kB) (HQ.out.keep kB) hge (by omega) lf lr).mono ?_
  rintro e w1 ⟨r2, rfl, k1, hd⟩
  by_cases hneg : r2 < 0
  · go_wp2
    go_ret
    exact ⟨rfl, kB.trans k1⟩
  have hsum2 := hd.resolve_left hneg
  have hge2 : (0 : Int) ≤ r2 := by omega
  have f1 : f.length ≤ 1048576 := by omega
  have f2 : rows.length ≤ 1048576 := by omega
  have c0 := (k1.cell lB).trans b0
  have c1 := (k1.cell lB).trans b1
  have y1 : w.heap.size < w1.heap.size := Nat.lt_of_lt_of_le lB k1.size
  have K1 := kB.trans k1
  have z1 : w.heap.size < w1.drew.heap.size := y1
  obtain ⟨L, hL⟩ : ∃ L, L = strictB dss f rows := ⟨_, rfl⟩
  have HE := Lib.hid hL
  have CW := fun (W : World) (kW : Keep w W) => toW_any W v dss (hr.keep kW) l1 l2
  have CT := fun (W : World) (kW : Keep w W) => toTale_any W _ _ f rows (HF.out.keep kW) (HQ.out.keep kW) f1 f2
  clear hL hd hneg hsum2 lf lr b0 b1 k1
  go_upto_region 8 with fail
  go_cut [6] from 10 (fun s6 wx => s6 = .bool L ∧ Keep w1 wx)
  case first =>
    go_wp2_with fail
    go_region_held3 (fun w' => w'.cell? ⟨w.heap.size, 0, none⟩ = some (.slice aF f.length cF) ∧ w'.cell? ⟨w.heap.size, 1, none⟩ = some (.slice aR rows.length cR))
      (first | go_keep | (go_split_ands; refine ⟨?_, ?_⟩ <;> (rw [kk.cell (by assumption)]; assumption)))
      ((first
        | (go_at_call 9; refine (CW _ K1.drew).mono ?_; rintro e wz ⟨v2, rfl, o2, kk⟩; have z2 : w.heap.size < wz.heap.size := Nat.lt_of_lt_of_le z1 kk.size; have K2 := K1.drew.trans kk; have k2 := (Keep.refl w1).drew.trans kk)
        | (go_at_call 10; refine (CT _ K2).mono ?_; clear kk; rintro e wy ⟨uF, uR, rfl, oF, oR, ap, kk⟩; have z3 : w.heap.size < wy.heap.size := Nat.lt_of_lt_of_le z2 kk.size; have o3 := o2.rd.keep kk; have k3 := k2.trans kk)
        | (go_at_call 21; refine (specStrictOk_any _ _ _ _ _ _ _ o3 oF.rd oR.rd oR.capz l1 l2 f1 f2).mono ?_; clear kk; rw [← HE.out]; rintro e wx ⟨rfl, kk⟩)))
    all_goals
      go_wp2
      go_meet
      case rel => exact ⟨rfl, k3.trans kk⟩
  case rest =>
    obtain ⟨rfl, kc⟩ := hcut
    have Kc := K1.trans kc
    have yc : w.heap.size < wc.heap.size := Nat.lt_of_lt_of_le y1 kc.size
    have d0 := (kc.cell y1).trans c0
    have d1 := (kc.cell y1).trans c1
    clear c0 c1 z1 kc
    go_wp2_with fail
    refine (CW _ Kc).mono ?_
    rintro e w2 ⟨vx, rfl, ox, k2⟩
    have K2 := Kc.trans k2
    have y2 : w.heap.size < w2.heap.size := Nat.lt_of_lt_of_le yc k2.size
    replace d0 := (k2.cell yc).trans d0
    replace d1 := (k2.cell yc).trans d1
    go_wp2_with fail
    refine (CT _ K2).mono ?_
    rintro e w3 ⟨uF, uR, rfl, oF, oR, ap, k3⟩
    have K3 := K2.trans k3
    have y3 : w.heap.size < w3.heap.size := Nat.lt_of_lt_of_le y2 k3.size
    replace d0 := (k3.cell y2).trans d0
    replace d1 := (k3.cell y2).trans d1
    have rx := ox.rd.keep k3
    have rF := oF.rd
    have rR := oR.rd
    have hcz := oR.capz
    obtain ⟨aU, cU, rfl⟩ := oF.shpL
    obtain ⟨aV, cV, rfl⟩ := oR.shpL
    clear ox oF oR ap k2 k3
    go_upto_region 11 with fail
    obtain ⟨w4, hw4⟩ : ∃ W : World, W = w3.alloc (taleC (.slice aU f.length cU) (.slice aV rows.length cV)) := ⟨_, rfl⟩
    have e0 : w4.cell? ⟨w3.heap.size, 0, none⟩ = some (.slice aU f.length cU) := by rw [hw4]; exact box_cell (Keep.refl _) 0
    have e1 : w4.cell? ⟨w3.heap.size, 1, none⟩ = some (.slice aV rows.length cV) := by rw [hw4]; exact box_cell (Keep.refl _) 1
    have k4 : Keep w3 w4 := by rw [hw4]; exact (Keep.refl _).alloc _
    have x4 : w3.heap.size < w4.heap.size := by rw [hw4, heap_size]; omega
    rw [← hw4]
    clear hw4
    have K4 := K3.trans k4
    have y4 : w.heap.size < w4.heap.size := Nat.lt_of_lt_of_le y3 k4.size
    replace d0 := (k4.cell y3).trans d0
    replace d1 := (k4.cell y3).trans d1
    replace rx := rx.keep k4
    replace rF := rF.keep k4
    replace rR := rR.keep k4
    clear k4
    generalize w3.heap.size = X at e0 e1 x4
    go_wp2_with fail
    refine (implStrictOk_any _ _ _ _ _ _ _ rx rF rR hcz l1 l2 f1 f2).mono ?_
    rw [← HE.out]
    rintro e w5 ⟨rfl, k5⟩
    have K5 := K4.trans k5
    have y5 : w.heap.size < w5.heap.size := Nat.lt_of_lt_of_le y4 k5.size
    have x5 : X < w5.heap.size := Nat.lt_of_lt_of_le x4 k5.size
    replace d0 := (k5.cell y4).trans d0
    replace d1 := (k5.cell y4).trans d1
    replace e0 := (k5.cell x4).trans e0
    replace e1 := (k5.cell x4).trans e1
    replace rx := rx.keep k5
    replace rF := rF.keep k5
    replace rR := rR.keep k5
    have eb : (L != L) = false := by simp
    go_wp2_with fail
    refine (CW _ K5).mono ?_
    rintro e w6 ⟨vz, rfl, oz, k6⟩
    have K6 := K5.trans k6
    go_wp2_with fail
    refine (eqW_any _ _ _ _ _ (rx.keep k6) oz.rd l1 l2).mono ?_
    rw [HL.out]
    rintro e w7 ⟨rfl, k7⟩
    have K7 := K6.trans k7
    have k67 := k6.trans k7
    have y7 : w.heap.size < w7.heap.size := Nat.lt_of_lt_of_le y5 k67.size
    have x7 : X < w7.heap.size := Nat.lt_of_lt_of_le x5 k67.size
    replace d0 := (k67.cell y5).trans d0
    replace d1 := (k67.cell y5).trans d1
    replace e0 := (k67.cell x5).trans e0
    replace e1 := (k67.cell x5).trans e1
    replace rF := rF.keep k67
    replace rR := rR.keep k67
    have z7 : w.heap.size < w7.drew.heap.size := y7
    have q7 : X < w7.drew.heap.size := x7
    clear k5 k6 k7 k67 oz rx
    go_wp2_with fail
    go_region_held3 (fun w' => w'.cell? ⟨w.heap.size, 0, none⟩ = some (.slice aF f.length cF) ∧ w'.cell? ⟨w.heap.size, 1, none⟩ = some (.slice aR rows.length cR) ∧ w'.cell? ⟨X, 0, none⟩ = some (.slice aU f.length cU) ∧ w'.cell? ⟨X, 1, none⟩ = some (.slice aV rows.length cV))
      (first | go_keep | (go_split_ands; refine ⟨?_, ?_, ?_, ?_⟩ <;> (rw [kk.cell (by assumption)]; assumption)))
      ((first
        | (go_at_call 10; refine (CT _ K7.drew).mono ?_; rintro e wz ⟨tF, tR, rfl, oF, oR, ap, kk⟩; have z8 : w.heap.size < wz.heap.size := Nat.lt_of_lt_of_le z7 kk.size; have q8 : X < wz.heap.size := Nat.lt_of_lt_of_le q7 kk.size; have K8 := K7.drew.trans kk; have rF8 := (rF.keep (Keep.refl w7).drew).keep kk; have rR8 := (rR.keep (Keep.refl w7).drew).keep kk)
        | (go_at_call 13; refine (eqTale_same _ _ _ _ _ _ _ rF8 rR8 oF.rd oR.rd f1 f2).mono ?_; clear kk; rintro e wy ⟨rfl, kk⟩)))
    all_goals
      go_wp2
      go_ret
      exact ⟨rfl, K8.trans kk⟩

set_option maxRecDepth 100000 in
theorem lifted (os : Os) (started : os.Started) (H : Type) (enc : TypeId × Value → H) :
    ReturnsInHanded {} Tryz.checked os 5 .any (Rows.fnExactStrictOkSpec.pre6 enc Tryz.prog Tryz.f5 Rows.fnExactStrictOkRow.domain false) (Rows.fnExactStrictOkSpec.post enc Tryz.prog Tryz.f5 false true false false) := by
  refine returnsInHanded_of_change (C := Tryz.checked) own started (by kernel_rfl) Tryz.func5
    (ChangeSpec.witness6 (enc := enc) (C := Tryz.checked) false ⟨#[], #[.slice none 0 0, .agg #[.slice none 0 0, .slice none 0 0]], []⟩ 8 (by kernel_rfl) (by kernel_rfl) (by kernel_rfl) (by kernel_rfl)) ?_
  intro W base args ds gs before hval0 hW hcnd _

  have hval : ∀ (j : Nat) t v, Tryz.f5.params[j]? = some t → args[j]? = some v → Value.okWide Tryz.prog W .any base t v := hval0
  have hW' := hW
  obtain ⟨p, q, hA0, hV, rfl, hfz, hnd⟩ := hW
  have hA : DataW.TrodAll enc Tryz.prog W 0 (fun _ => true) true Tryz.f5.params.toList args.toList ds p := hA0
  rw [Tryz.params5] at hA hval
  obtain ⟨v0, vs0, d0, ds0, p0, q0, hargs, rfl, rfl, h0, r0⟩ := trodAll_cons hA
  obtain ⟨v1, vs1, d1, ds1, p1, q1, rfl, rfl, rfl, h1, r1⟩ := trodAll_cons r0
  obtain ⟨rfl, rfl, rfl⟩ := trodAll_nil r1
  obtain rfl : args = #[v0, v1] := by cases args; simp_all
  obtain ⟨rfl, rfl⟩ := trodVars_none hV
  have k0 := h0
  have lt0 : ∀ x ∈ p0, x.block < W.heap.size := by obtain ⟨m, hm⟩ := k0; exact DataW.trod_lt m _ _ _ hm
  obtain ⟨dss, hr, hl, hls⟩ := open_work (hval 0 22 v0 rfl rfl) h0
  obtain ⟨vF, vR, f, rows, rfl, hf, hq, lf, lr⟩ := open_tale (hval 1 25 v1 rfl rfl) h1
  have k1 := h1
  have lt1 : ∀ x ∈ p1, x.block < W.heap.size := by obtain ⟨m, hm⟩ := k1; exact DataW.trod_lt m _ _ _ hm
  clear hA0 hval0
  refine (walk v0 dss vF vR f rows W hr hl hls hf hq lf lr).mono fun e W' ⟨he, bel⟩ => ?_
  subst he
  exact ⟨_, rfl, _, _, _, [], _, [], hW', trodAll_mk1 (shut_bool Tryz.underlying4 _), (trodAll_cons_mk (Below.trod laidOut (by kernel_rfl) (of_decide_eq_true (by kernel_rfl)) k0 bel lt0) (trodAll_cons_mk (Below.trod laidOut (by kernel_rfl) (of_decide_eq_true (by kernel_rfl)) k1 bel lt1) trodAll_mk0)), rfl, bel.frame _, fun h => by cases h⟩

theorem over : Rows.fnExactStrictOkRow.holds Tryz.pinned (OpenSpec.ofChange Rows.fnExactStrictOkSpec) :=
  OpenClaim.holds_of_wide 5 Tryz.f5 rfl rfl rfl rfl rfl rfl rfl ⟨rfl, rfl, rfl, rfl, rfl⟩ rfl rfl rfl rfl rfl (by kernel_rfl) Tryz.func5 (by kernel_rfl)
    (of_decide_eq_true (by kernel_rfl)) (by unfold Func.isWrapper; first | (rw [if_pos (by decide +kernel)]; kernel_rfl) | (rw [if_neg (by decide +kernel)]; exact ⟨rfl, rfl⟩))
    (fun os started H enc _ => lifted os started H enc)

#print axioms over
end Go.Proofs.YtgikcfdckddgpabGreat.fnExactStrictOk
namespace Go.Proofs.YtgikcfdckddgpabGreat
theorem fnExactStrictOk_holds : Rows.FnExactStrictOkSaid := fnExactStrictOk.over
end Go.Proofs.YtgikcfdckddgpabGreat
