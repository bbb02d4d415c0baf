/- At every list of lists of deeds and every pair of lists of numbers the program's SlowWeb answers as the specification's does, in memory of its own, and writes into no argument: the law FnExactSlowWeb answers true and its arguments stay. (Written by mktx.py.) -/
import Derived.Test.YtgikcfdckddgpaaGreatRows
import Derived.WalkKit
import Derived.ProofKit
import Derived.OpenShut
import Derived.ShutString
import Derived.ChangeOld
import Derived.Below
import Derived.Test.YtgikcfdckddgpaaGreatQA
import Derived.Test.YtgikcfdckddgpaaGreatMI
import Derived.Test.YtgikcfdckddgpaaGreatNC
import Derived.Test.YtgikcfdckddgpaaGreatMC
import Derived.Test.YtgikcfdckddgpaaGreatNJ
import Derived.Test.YtgikcfdckddgpaaGreatNL
import Derived.Test.YtgikcfdckddgpaaGreatNK
import Derived.Test.YtgikcfdckddgpaaGreatMD
import Derived.Deep.Cut
import Derived.Deep.RegionHeld3
namespace Go.Proofs.YtgikcfdckddgpaaGreat.fnExactSlowWeb
open Go.ChangeShapes Go.WideShapes Go.ChangeAt Go.RowKit
open Go.ChangeMaps (open_string shut_string)
set_option linter.unusedVariables false

theorem own : ownKnob Tryz.prog.godebug = none := by kernel_rfl
theorem laidOut : laidOutB Tryz.prog = true := by kernel_rfl

set_option maxRecDepth 100000 in
set_option maxHeartbeats 8000000 in
theorem walk (v : Value) (dss : List (List Dd)) (vF vR : Value) (f rows : List Int) (w : World) (hr : RdW w v dss) (hl : dss.length ≤ maxLen) (hls : ∀ i, i < dss.length → (dss.getD i []).length ≤ maxLen) (hf : Rd w vF f) (hq : Rd w vR rows) (lf : f.length ≤ maxLen) (lr : rows.length ≤ maxLen) :
    Calls Tryz.prog 8 #[v, .agg #[vF, vR]] w fun e w' => e = .returned (.bool true) ∧ Below w.heap.size w w' := by
  have HF := Lib.hid hf
  have HQ := Lib.hid hq
  obtain ⟨aF, cF, rfl, -⟩ := hf
  obtain ⟨aR, cR, rfl, -⟩ := hq
  go_enter Tryz.func8, Tryz.ntmps8
  go_upto_region 1 with fail
  obtain ⟨wB, hwB⟩ : ∃ W : World, W = w.alloc (.cells #[.slice aF f.length cF, .slice aR rows.length cR] 52) := ⟨_, rfl⟩
  have kB : Keep w wB := by rw [hwB]; exact (Keep.refl w).alloc _
  have sB : wB.heap.size = w.heap.size + 1 := by rw [hwB]; exact heap_size _ _
  have b0 : wB.cell? ⟨w.heap.size, 0, none⟩ = some (.slice aF f.length cF) := by rw [hwB]; exact box_cell (Keep.refl _) 0
  have b1 : wB.cell? ⟨w.heap.size, 1, none⟩ = some (.slice aR rows.length cR) := by rw [hwB]; exact box_cell (Keep.refl _) 1
  rw [← hwB]
  clear hwB
  have lB : w.heap.size < wB.heap.size := by omega
  clear sB
  have hr0 := hr.keep kB
  go_wp2_with fail
  refine (szW_top _ _ _ hr0 _ (by omega) (by omega) hl hls).mono ?_
  rintro e w0 ⟨r, rfl, rfl, hd⟩
  by_cases hneg : r < 0
  · go_wp2
    go_ret
    exact ⟨rfl, kB⟩
  obtain ⟨hsum, hrl⟩ := hd.resolve_left hneg
  have hge : (0 : Int) ≤ r := by omega
  have l1 : dss.length ≤ 1048576 := by omega
  have l2 : ∀ i, i < dss.length → (dss.getD i []).length ≤ 1048576 := fun i hi => by have := lenW_get dss i hi; omega
  have HL : Hid (likeW dss dss = true) := Lib.hid (by unfold likeW; simp)
  clear hd hneg hl hls hr0
  go_wp2_with fail
  refine (szTale_any _ _ _ _ _ r (HF.out.keep kB) (HQ.out.keep kB) hge (by omega) lf lr).mono ?_
  rintro e w1 ⟨r2, rfl, k1, hd⟩
  by_cases hneg : r2 < 0
  · go_wp2
    go_ret
    exact ⟨rfl, kB.trans k1⟩
  have hsum2 := hd.resolve_left hneg
  have hge2 : (0 : Int) ≤ r2 := by omega
  have f1 : f.length ≤ 1048576 := by omega
  have f2 : rows.length ≤ 1048576 := by omega
  have c0 := (k1.cell lB).trans b0
  have c1 := (k1.cell lB).trans b1
  have y1 : w.heap.size < w1.heap.size := Nat.lt_of_lt_of_le lB k1.size
  have K1 := kB.trans k1
  have z1 : w.heap.size < w1.drew.heap.size := y1
  obtain ⟨L, hL⟩ : ∃ L, L = swB dss f rows := ⟨_, rfl⟩
  have HE := Lib.hid hL
  have g1 : L.length ≤ 1048576 := by rw [hL]; have := swB_len dss f rows; omega
  have s1 : lenW dss ≤ 1048576 := by omega
  have CW := fun (W : World) (kW : Keep w W) => toW_any W v dss (hr.keep kW) l1 l2
  have CT := fun (W : World) (kW : Keep w W) => toTale_any W _ _ f rows (HF.out.keep kW) (HQ.out.keep kW) f1 f2
  clear hL hd hneg hsum hsum2 lf lr b0 b1 k1
  go_upto_region 8 with fail
  go_cut [6] from 14 (fun s6 wx => ∃ v6, v6 = s6 ∧ Row wx w1.heap.size v6 L ∧ Keep w1 wx)
  case first =>
    go_wp2_with fail
    go_region_held3 (fun w' => w'.cell? ⟨w.heap.size, 0, none⟩ = some (.slice aF f.length cF) ∧ w'.cell? ⟨w.heap.size, 1, none⟩ = some (.slice aR rows.length cR))
      (first | go_keep | (go_split_ands; refine ⟨?_, ?_⟩ <;> (rw [kk.cell (by assumption)]; assumption)))
      ((first
        | (go_at_call 41; refine (CW _ K1.drew).mono ?_; rintro e wz ⟨v2, rfl, o2, kk⟩; have z2 : w.heap.size < wz.heap.size := Nat.lt_of_lt_of_le z1 kk.size; have K2 := K1.drew.trans kk; have k2 := (Keep.refl w1).drew.trans kk)
        | (go_at_call 42; refine (CT _ K2).mono ?_; clear kk; rintro e wy ⟨uF, uR, rfl, oF, oR, ap, kk⟩; have z3 : w.heap.size < wy.heap.size := Nat.lt_of_lt_of_le z2 kk.size; have o3 := o2.rd.keep kk; have k3 := k2.trans kk)
        | (go_at_call 17; refine (specSlowWeb_any _ _ _ _ _ _ _ o3 oF.rd oR.rd oR.capz l1 l2 f1 f2).mono ?_; clear kk; rw [← HE.out]; rintro e wx ⟨v5, rfl, o5, kk⟩)))
    all_goals
      go_wp2
      go_meet
      case rel => exact ⟨_, rfl, o5.base_le k3.size, k3.trans kk⟩
  case rest =>
    obtain ⟨v6, rfl, o6, kc⟩ := hcut
    obtain ⟨wa, hwa⟩ : ∃ W : World, W = wc := ⟨_, rfl⟩
    subst hwa
    have sa := kc.size
    have Ka := K1.trans kc
    have ya : w.heap.size < wa.heap.size := Nat.lt_of_lt_of_le y1 kc.size
    have d0 := (kc.cell y1).trans c0
    have d1 := (kc.cell y1).trans c1
    clear z1
    go_wp2_with fail
    refine (CW _ Ka).mono ?_
    rintro e w2 ⟨vx, rfl, ox, k2⟩
    have K2 := Ka.trans k2
    have y2 : w.heap.size < w2.heap.size := Nat.lt_of_lt_of_le ya k2.size
    replace d0 := (k2.cell ya).trans d0
    replace d1 := (k2.cell ya).trans d1
    go_wp2_with fail
    refine (CT _ K2).mono ?_
    rintro e w3 ⟨uF, uR, rfl, oF, oR, ap, k3⟩
    have K3 := K2.trans k3
    have y3 : w.heap.size < w3.heap.size := Nat.lt_of_lt_of_le y2 k3.size
    replace d0 := (k3.cell y2).trans d0
    replace d1 := (k3.cell y2).trans d1
    have hcz := oR.capz
    obtain ⟨aU, cU, rfl⟩ := oF.shpL
    obtain ⟨aV, cV, rfl⟩ := oR.shpL
    go_upto_region 11 with fail
    obtain ⟨w4, hw4⟩ : ∃ W : World, W = w3.alloc (taleC (.slice aU f.length cU) (.slice aV rows.length cV)) := ⟨_, rfl⟩
    have e0 : w4.cell? ⟨w3.heap.size, 0, none⟩ = some (.slice aU f.length cU) := by rw [hw4]; exact box_cell (Keep.refl _) 0
    have e1 : w4.cell? ⟨w3.heap.size, 1, none⟩ = some (.slice aV rows.length cV) := by rw [hw4]; exact box_cell (Keep.refl _) 1
    have k4 : Keep w3 w4 := by rw [hw4]; exact (Keep.refl _).alloc _
    have x4 : w3.heap.size < w4.heap.size := by rw [hw4, heap_size]; omega
    rw [← hw4]
    clear hw4
    have K4 := K3.trans k4
    have y4 : w.heap.size < w4.heap.size := Nat.lt_of_lt_of_le y3 k4.size
    have s23 := k3.size
    have s34 := k4.size
    have s2a := k2.size
    have rx := ((ox.rd.keep k3).keep k4)
    have rF := oF.rd.keep k4
    have rR := oR.rd.keep k4
    obtain ⟨X, hX⟩ : ∃ X, X = w3.heap.size := ⟨_, rfl⟩
    have HX := Lib.hid hX
    rw [← hX] at e0 e1 x4 ⊢
    clear hX
    go_wp2_with fail
    refine (implSlowWeb_any _ _ _ _ _ _ _ rx rF rR hcz l1 l2 f1 f2).mono ?_
    rw [← HE.out]
    rintro e w5 ⟨vg, rfl, og, k5⟩
    have k45 := k4.trans k5
    have sv := o6.rd.keep ((k2.trans k3).trans k45)
    go_wp2_with fail
    refine (eq_any _ _ _ _ _ og.rd sv g1).mono ?_
    rintro e w6 ⟨rfl, k6⟩
    have K6 := (K4.trans k5).trans k6
    go_wp2_with fail
    refine (CW _ K6).mono ?_
    rintro e w7 ⟨vz, rfl, oz, k7⟩
    go_wp2_with fail
    refine (eqW_any _ _ _ _ _ (((rx.keep k5).keep k6).keep k7) oz.rd l1 l2).mono ?_
    rw [HL.out]
    rintro e w8 ⟨rfl, k8⟩
    have k58 := (k6.trans k7).trans k8
    have k48 := k5.trans k58
    have K8 := K4.trans k48
    have y8 : w.heap.size < w8.heap.size := Nat.lt_of_lt_of_le y4 k48.size
    have x8 : X < w8.heap.size := Nat.lt_of_lt_of_le x4 k48.size
    replace d0 := ((k4.trans k48).cell y3).trans d0
    replace d1 := ((k4.trans k48).cell y3).trans d1
    have q0 := (k48.cell x4).trans e0
    have q1 := (k48.cell x4).trans e1
    have rF8 := rF.keep k48
    have rR8 := rR.keep k48
    have z8 : w.heap.size < w8.drew.heap.size := y8
    have q8 : X < w8.drew.heap.size := x8
    clear oz rx sv k6 k7 k8
    go_upto_region 16 with fail
    go_cut [49] from 14 (fun s wx => s = .bool false ∧ Keep w8 wx)
    case first =>
      go_wp2_with fail
      go_region_held3 (fun w' => w'.cell? ⟨w.heap.size, 0, none⟩ = some (.slice aF f.length cF) ∧ w'.cell? ⟨w.heap.size, 1, none⟩ = some (.slice aR rows.length cR) ∧ w'.cell? ⟨X, 0, none⟩ = some (.slice aU f.length cU) ∧ w'.cell? ⟨X, 1, none⟩ = some (.slice aV rows.length cV))
        (first | go_keep | (go_split_ands; refine ⟨?_, ?_, ?_, ?_⟩ <;> (rw [kk.cell (by assumption)]; assumption)))
        ((first
          | (go_at_call 42; refine (CT _ K8.drew).mono ?_; rintro e wz ⟨tF, tR, rfl, pF, pR, ap2, kk⟩; have z9 : w.heap.size < wz.heap.size := Nat.lt_of_lt_of_le z8 kk.size; have q9 : X < wz.heap.size := Nat.lt_of_lt_of_le q8 kk.size; have k9 := (Keep.refl w8).drew.trans kk; have rF9 := rF8.keep k9; have rR9 := rR8.keep k9)
          | (go_at_call 45; refine (eqTale_same _ _ _ _ _ _ _ rF9 rR9 pF.rd pR.rd f1 f2).mono ?_; clear kk; rintro e wy ⟨rfl, kk⟩)))
      all_goals
        go_wp2
        go_meet
        case rel => exact ⟨rfl, k9.trans kk⟩
    case rest =>
      obtain ⟨rfl, kd⟩ := hcut
      obtain ⟨wd, hwd⟩ : ∃ W : World, W = wc := ⟨_, rfl⟩
      subst hwd
      have k4d := k48.trans kd
      have k3d := k4.trans k4d
      have kx := k3.trans k3d
      have kad := k2.trans kx
      have K1d := kc.trans kad
      have ryF := oF.row.keep k3d
      have ryR := oR.row.keep k3d
      have hg := (og.keep k58).keep kd
      have r0 := (k4d.cell x4).trans e0
      have r1 := (k4d.cell x4).trans e1
      have xd : X < wd.heap.size := Nat.lt_of_lt_of_le x4 k4d.size
      have hgX : w2.heap.size ≤ X := by rw [HX.out]; exact s23
      clear d0 d1 q0 q1 e0 e1 rF rR rF8 rR8 z8 q8 K8 K6 k58 k48 kd k5 k45
      go_wp2_with fail
      refine (markW_any wd w2 wa.heap.size _ _ dss ox (fun b _ hb => Below.block kx b hb) l1 s1 (by omega) (by omega)).mono ?_
      rintro e w9 ⟨rfl, -, om⟩
      have Kb := kad.only om (Nat.le_refl _)
      have K9 := K1d.only om sa
      replace hg := row_only hg om (by omega)
      replace ryF := row_only ryF om (Nat.le_refl _)
      replace ryR := row_only ryR om (Nat.le_refl _)
      replace r0 := (cell_only om xd hgX).trans r0
      replace r1 := (cell_only om xd hgX).trans r1
      clear om
      go_wp2_with fail
      refine (markTale_any _ _ _ _ _ _ _ ryF ryR ap f1 f2 (by omega) (by omega)).mono ?_
      rintro e w10 ⟨rfl, -, -, wm, wn, m1, m2, m3⟩
      have AF : vg.ownBlock = none ∨ vg.ownBlock ≠ (Value.slice aU f.length cU).ownBlock := apart_of (fun k hk => (oF.row.lt k hk).2) (fun k hk => Nat.le_trans s34 (og.ge k hk))
      have AR : vg.ownBlock = none ∨ vg.ownBlock ≠ (Value.slice aV rows.length cV).ownBlock := apart_of (fun k hk => (oR.row.lt k hk).2) (fun k hk => Nat.le_trans s34 (og.ge k hk))
      replace hg := ((hg.keep m1).kept m2 AF).kept m3 AR
      have Kb2 := ((Kb.trans m1).grown m2 (fun k hk => Nat.le_trans s2a (oF.ge k hk))).grown m3 (fun k hk => Nat.le_trans s2a (oR.ge k hk))
      have K10 := ((K9.trans m1).grown m2 (fun k hk => Nat.le_trans sa (Nat.le_trans s2a (oF.ge k hk)))).grown m3 (fun k hk => Nat.le_trans sa (Nat.le_trans s2a (oR.ge k hk)))
      have dk : ¬ ((1 : Int) + 4 * lenW dss + f.length + rows.length < 0) := by omega
      have sv := o6.rd.keep Kb2
      clear m1 m2 m3 ryF ryR r0 r1 Kb K9
      go_wp2_with fail
      refine (eq_any _ _ _ _ _ hg.rd sv g1).mono ?_
      rintro e w11 ⟨rfl, k11⟩
      replace hg := hg.keep k11
      go_wp2_with fail
      refine (mark_row _ _ _ _ _ hg g1 (by omega) (by omega)).mono ?_
      rintro e w12 ⟨rfl, om2, gg⟩
      have hga : wa.heap.size ≤ w4.heap.size := by omega
      have Kb3 := (Kb2.trans k11).grown gg (fun k hk => Nat.le_trans hga (hg.ge k hk))
      have K12 := (K10.trans k11).grown gg (fun k hk => Nat.le_trans sa (Nat.le_trans hga (hg.ge k hk)))
      have hm := om2.rd
      clear gg hg sv k11 Kb2 K10 om2
      go_wp2_with fail
      refine (held_row _ _ _ _ hm g1 (by omega) (by omega)).mono ?_
      rintro e w13 ⟨rfl, k13⟩
      have nq : ((1 : Int) + L.length != 1 + L.length) = false := by simp
      have dq : ¬ ((1 : Int) + L.length < 0) := by omega
      have K13 := K12.trans k13
      have KW := K1.trans K13
      replace hm := hm.keep k13
      have sv := o6.rd.keep (Kb3.trans k13)
      have t0 := (K13.cell y1).trans c0
      have t1 := (K13.cell y1).trans c1
      have y13 : w.heap.size < w13.heap.size := Nat.lt_of_lt_of_le y1 K13.size
      have z1 : w.heap.size < w13.drew.heap.size := y13
      clear c0 c1 Kb3 K12 k13
      go_upto_region 31 with fail
      go_cut [13] from 14 (fun s6 wx => ∃ v6, v6 = s6 ∧ Row wx w13.heap.size v6 L ∧ Keep w13 wx)
      case first =>
        go_wp2_with fail
        go_region_held3 (fun w' => w'.cell? ⟨w.heap.size, 0, none⟩ = some (.slice aF f.length cF) ∧ w'.cell? ⟨w.heap.size, 1, none⟩ = some (.slice aR rows.length cR))
          (first | go_keep | (go_split_ands; refine ⟨?_, ?_⟩ <;> (rw [kk.cell (by assumption)]; assumption)))
          ((first
            | (go_at_call 41; refine (CW _ KW.drew).mono ?_; rintro e wz ⟨v2, rfl, o2, kk⟩; have z2 : w.heap.size < wz.heap.size := Nat.lt_of_lt_of_le z1 kk.size; have K2 := KW.drew.trans kk; have k2 := (Keep.refl w13).drew.trans kk)
            | (go_at_call 42; refine (CT _ K2).mono ?_; clear kk; rintro e wy ⟨uF, uR, rfl, oF, oR, ap, kk⟩; have z3 : w.heap.size < wy.heap.size := Nat.lt_of_lt_of_le z2 kk.size; have o3 := o2.rd.keep kk; have k3 := k2.trans kk)
            | (go_at_call 12; refine (implSlowWeb_any _ _ _ _ _ _ _ o3 oF.rd oR.rd oR.capz l1 l2 f1 f2).mono ?_; clear kk; rw [← HE.out]; rintro e wx ⟨v5, rfl, o5, kk⟩)))
        all_goals
          go_wp2
          go_meet
          case rel => exact ⟨_, rfl, o5.base_le k3.size, k3.trans kk⟩
      case rest =>
        obtain ⟨vh, rfl, oh, ke⟩ := hcut
        obtain ⟨we, hwe⟩ : ∃ W : World, W = wc := ⟨_, rfl⟩
        subst hwe
        go_wp2_with fail
        refine (eq_any _ _ _ _ _ oh.rd (sv.keep ke) g1).mono ?_
        rintro e w15 ⟨rfl, k15⟩
        go_wp2_with fail
        refine (held_row _ _ _ _ ((hm.keep ke).keep k15) g1 (by omega) (by omega)).mono ?_
        rintro e w16 ⟨rfl, k16⟩
        go_wp2
        go_ret
        exact ⟨rfl, ((KW.trans ke).trans k15).trans k16⟩

set_option maxRecDepth 100000 in
theorem lifted (os : Os) (started : os.Started) (H : Type) (enc : TypeId × Value → H) :
    ReturnsInHanded {} Tryz.checked os 8 .any (Rows.fnExactSlowWebSpec.pre6 enc Tryz.prog Tryz.f8 Rows.fnExactSlowWebRow.domain false) (Rows.fnExactSlowWebSpec.post enc Tryz.prog Tryz.f8 false true false false) := by
  refine returnsInHanded_of_change (C := Tryz.checked) own started (by kernel_rfl) Tryz.func8
    (ChangeSpec.witness6 (enc := enc) (C := Tryz.checked) false ⟨#[], #[.slice none 0 0, .agg #[.slice none 0 0, .slice none 0 0]], []⟩ 8 (by kernel_rfl) (by kernel_rfl) (by kernel_rfl) (by kernel_rfl)) ?_
  intro W base args ds gs before hval0 hW hcnd _

  have hval : ∀ (j : Nat) t v, Tryz.f8.params[j]? = some t → args[j]? = some v → Value.okWide Tryz.prog W .any base t v := hval0
  have hW' := hW
  obtain ⟨p, q, hA0, hV, rfl, hfz, hnd⟩ := hW
  have hA : DataW.TrodAll enc Tryz.prog W 0 (fun _ => true) true Tryz.f8.params.toList args.toList ds p := hA0
  rw [Tryz.params8] at hA hval
  obtain ⟨v0, vs0, d0, ds0, p0, q0, hargs, rfl, rfl, h0, r0⟩ := trodAll_cons hA
  obtain ⟨v1, vs1, d1, ds1, p1, q1, rfl, rfl, rfl, h1, r1⟩ := trodAll_cons r0
  obtain ⟨rfl, rfl, rfl⟩ := trodAll_nil r1
  obtain rfl : args = #[v0, v1] := by cases args; simp_all
  obtain ⟨rfl, rfl⟩ := trodVars_none hV
  have k0 := h0
  have lt0 : ∀ x ∈ p0, x.block < W.heap.size := by obtain ⟨m, hm⟩ := k0; exact DataW.trod_lt m _ _ _ hm
  obtain ⟨dss, hr, hl, hls⟩ := open_work (hval 0 51 v0 rfl rfl) h0
  obtain ⟨vF, vR, f, rows, rfl, hf, hq, lf, lr⟩ := open_tale (hval 1 52 v1 rfl rfl) h1
  have k1 := h1
  have lt1 : ∀ x ∈ p1, x.block < W.heap.size := by obtain ⟨m, hm⟩ := k1; exact DataW.trod_lt m _ _ _ hm
  clear hA0 hval0
  refine (walk v0 dss vF vR f rows W hr hl hls hf hq lf lr).mono fun e W' ⟨he, bel⟩ => ?_
  subst he
  exact ⟨_, rfl, _, _, _, [], _, [], hW', trodAll_mk1 (shut_bool Tryz.underlying4 _), (trodAll_cons_mk (Below.trod laidOut (by kernel_rfl) (of_decide_eq_true (by kernel_rfl)) k0 bel lt0) (trodAll_cons_mk (Below.trod laidOut (by kernel_rfl) (of_decide_eq_true (by kernel_rfl)) k1 bel lt1) trodAll_mk0)), rfl, bel.frame _, fun h => by cases h⟩

theorem over : Rows.fnExactSlowWebRow.holds Tryz.pinned (OpenSpec.ofChange Rows.fnExactSlowWebSpec) :=
  OpenClaim.holds_of_wide 8 Tryz.f8 rfl rfl rfl rfl rfl rfl rfl ⟨rfl, rfl, rfl, rfl, rfl⟩ rfl rfl rfl rfl rfl (by kernel_rfl) Tryz.func8 (by kernel_rfl)
    (of_decide_eq_true (by kernel_rfl)) (by unfold Func.isWrapper; first | (rw [if_pos (by decide +kernel)]; kernel_rfl) | (rw [if_neg (by decide +kernel)]; exact ⟨rfl, rfl⟩))
    (fun os started H enc _ => lifted os started H enc)

#print axioms over
end Go.Proofs.YtgikcfdckddgpaaGreat.fnExactSlowWeb
namespace Go.Proofs.YtgikcfdckddgpaaGreat
theorem fnExactSlowWeb_holds : Rows.FnExactSlowWebSaid := fnExactSlowWeb.over
end Go.Proofs.YtgikcfdckddgpaaGreat
