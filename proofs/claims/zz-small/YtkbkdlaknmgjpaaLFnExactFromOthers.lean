/- At every list of lists of deeds and every list of numbers the program's FromOthers answers as the specification's does, in memory of its own, and writes into no argument: the law FnExactFromOthers answers true and its arguments stay. -/
import Derived.Test.YtkbkdlaknmgjpaaRows
import Derived.WalkKit
import Derived.ProofKit
import Derived.OpenShut
import Derived.ShutString
import Derived.ChangeOld
import Derived.Below
import Derived.Test.YtkbkdlaknmgjpaaMA
import Derived.Test.YtkbkdlaknmgjpaaFoI
import Derived.Test.YtkbkdlaknmgjpaaFromOS
import Derived.Test.YtkbkdlaknmgjpaaMB
import Derived.Test.YtkbkdlaknmgjpaaWorkTo
import Derived.Test.YtkbkdlaknmgjpaaWorkEq
import Derived.Test.YtkbkdlaknmgjpaaWorkMark
import Derived.Test.YtkbkdlaknmgjpaaMarkRow
import Derived.Test.YtkbkdlaknmgjpaaRowOnly
import Derived.Test.YtkbkdlaknmgjpaaEvLen
import Derived.Test.YtkbkdlaknmgjpaaSlices
import Derived.Test.YtkbkdlaknmgjpaaSlicesA
namespace Go.Proofs.Ytkbkdlaknmgjpaa.fnExactFromOthers
open Go.ChangeShapes Go.WideShapes Go.ChangeAt Go.RowKit
open Go.ChangeMaps (open_string shut_string)
set_option linter.unusedVariables false

theorem own : ownKnob Try.prog.godebug = none := by kernel_rfl
theorem laidOut : laidOutB Try.prog = true := by kernel_rfl

set_option maxHeartbeats 8000000 in
theorem walk (v : Value) (dss : List (List Dd)) (vf : Value) (f : List Int) (w : World) (hr : RdW w v dss) (hl : dss.length ≤ maxLen) (hls : ∀ i, i < dss.length → (dss.getD i []).length ≤ maxLen) (hf : Rd w vf f) (hfl : f.length ≤ maxLen) :
    Calls Try.prog 3 #[v, vf] w fun e w' => e = .returned (.bool true) ∧ Below w.heap.size w w' := by
  obtain ⟨af, cf, rfl, hf0⟩ := hf
  have hf : Rd w (.slice af f.length cf) f := ⟨af, cf, rfl, hf0⟩
  clear hf0
  by_cases hbf : 1048576 < f.length
  · have hbi : (1048576 : Int) < (f.length : Int) := by omega
    go_enter Try.func3, Try.ntmps3
    go_wp2
    go_ret
    exact ⟨rfl, Below.refl _ _⟩
  have hfl : f.length ≤ 1048576 := by omega
  have hbi : (f.length : Int) ≤ 1048576 := by omega
  clear hbf
  go_enter Try.func3, Try.ntmps3
  go_wp2_with fail
  refine (szW_any _ _ _ hr _ (by omega) (by omega) hl hls).mono ?_
  rintro e w0 ⟨r, rfl, rfl, hd⟩
  by_cases hneg : r < 0
  · go_wp2
    go_ret
    exact ⟨rfl, Below.refl _ _⟩
  · have hsum : (dss.length + lenW dss : Int) ≤ 1048576 := hd.resolve_left hneg
    have hge : (0 : Int) ≤ r := by omega
    have l1 : dss.length ≤ 1048576 := by omega
    have l2 : ∀ i, i < dss.length → (dss.getD i []).length ≤ 1048576 := fun i hi => by have := lenW_get dss i hi; omega
    have s1 : lenW dss ≤ 1048576 := by omega
    have HL : Hid (likeW dss dss = true) := Lib.hid (by unfold likeW; simp)
    clear hd hneg hsum hl hls
    have HR0 := Lib.hid hr
    have HF0 := Lib.hid hf
    have g1 : (owB dss f).length ≤ 1048576 := by have := owB_len dss f; omega
    obtain ⟨L, hL⟩ : ∃ L, L = owB dss f := ⟨_, rfl⟩
    have HE := Lib.hid hL
    rw [← hL] at g1
    clear hL
    go_wp2_with fail
    refine (toW_any _ _ _ hr l1 l2).mono ?_
    rintro e w1 ⟨v1, rfl, o1, k1⟩
    replace hr := hr.keep k1
    replace hf := hf.keep k1
    have K1 := k1
    go_wp2_with fail
    refine (to_any _ _ _ hf hfl).mono ?_
    rintro e w2 ⟨v2, rfl, q2, k2⟩
    replace hr := hr.keep k2
    replace hf := hf.keep k2
    have K2 := K1.trans k2
    have r1 := o1.rd.keep k2
    have r2 := q2.rd
    go_wp2_with fail
    refine (specFromOthers_any _ _ _ _ _ r1 r2 l1 l2 hfl).mono ?_
    rw [← HE.out]
    rintro e w3 ⟨v3, rfl, o3, k3⟩
    replace hr := hr.keep k3
    replace hf := hf.keep k3
    have K3 := K2.trans k3
    have sv := o3.rd
    go_wp2_with fail
    refine (toW_any _ _ _ hr l1 l2).mono ?_
    rintro e w4 ⟨v4, rfl, ox, k4⟩
    replace hr := hr.keep k4
    replace hf := hf.keep k4
    replace sv := sv.keep k4
    have K4 := K3.trans k4
    have rx := ox.rd
    have kx := Keep.refl w4
    go_wp2_with fail
    refine (to_any _ _ _ hf hfl).mono ?_
    rintro e w5 ⟨v5, rfl, oy, k5⟩
    replace hr := hr.keep k5
    replace hf := hf.keep k5
    replace sv := sv.keep k5
    replace rx := rx.keep k5
    have K5 := K4.trans k5
    replace kx := kx.trans k5
    have ry := oy.row
    have ryd := oy.rd
    go_wp2_with fail
    refine (implFromOthers_any _ _ _ _ _ rx ryd l1 l2 hfl).mono ?_
    rw [← HE.out]
    rintro e w6 ⟨v6, rfl, og, k6⟩
    replace hr := hr.keep k6
    replace hf := hf.keep k6
    replace sv := sv.keep k6
    replace rx := rx.keep k6
    replace ry := ry.keep k6
    replace ryd := ryd.keep k6
    have K6 := K5.trans k6
    replace kx := kx.trans k6
    have hg := og
    go_wp2_with fail
    refine (eq_any _ _ _ _ _ hg.rd sv g1).mono ?_
    rintro e w7 ⟨rfl, k7⟩
    replace hr := hr.keep k7
    replace hf := hf.keep k7
    replace sv := sv.keep k7
    replace rx := rx.keep k7
    replace ry := ry.keep k7
    replace ryd := ryd.keep k7
    replace hg := hg.keep k7
    have K7 := K6.trans k7
    replace kx := kx.trans k7
    go_wp2_with fail
    refine (toW_any _ _ _ hr l1 l2).mono ?_
    rintro e w8 ⟨v8, rfl, oz, k8⟩
    replace hr := hr.keep k8
    replace hf := hf.keep k8
    replace sv := sv.keep k8
    replace rx := rx.keep k8
    replace ry := ry.keep k8
    replace ryd := ryd.keep k8
    replace hg := hg.keep k8
    have K8 := K7.trans k8
    replace kx := kx.trans k8
    go_wp2_with fail
    refine (eqW_any _ _ _ _ _ rx oz.rd l1 l2).mono ?_
    rw [HL.out]
    rintro e w9 ⟨rfl, k9⟩
    replace hr := hr.keep k9
    replace hf := hf.keep k9
    replace sv := sv.keep k9
    replace rx := rx.keep k9
    replace ry := ry.keep k9
    replace ryd := ryd.keep k9
    replace hg := hg.keep k9
    have K9 := K8.trans k9
    replace kx := kx.trans k9
    go_wp2_with fail
    refine (to_any _ _ _ hf hfl).mono ?_
    rintro e w10 ⟨v10, rfl, ow, k10⟩
    replace hr := hr.keep k10
    replace hf := hf.keep k10
    replace sv := sv.keep k10
    replace rx := rx.keep k10
    replace ry := ry.keep k10
    replace ryd := ryd.keep k10
    replace hg := hg.keep k10
    have K10 := K9.trans k10
    replace kx := kx.trans k10
    go_wp2_with fail
    refine (eq_any _ _ _ _ _ ryd ow.rd hfl).mono ?_
    rintro e w11 ⟨rfl, k11⟩
    replace hr := hr.keep k11
    replace hf := hf.keep k11
    replace sv := sv.keep k11
    replace rx := rx.keep k11
    replace ry := ry.keep k11
    replace ryd := ryd.keep k11
    replace hg := hg.keep k11
    have K11 := K10.trans k11
    replace kx := kx.trans k11
    have z0 := K3.size
    have zx := k4.size
    go_wp2_with fail
    refine (markW_any w11 w4 w3.heap.size _ _ dss ox (fun b _ hb => Below.block kx b hb) l1 s1 (by omega) (by omega)).mono ?_
    rintro e w12 ⟨rfl, -, om⟩
    have Kb : Keep w3 w11 := (((((((k4.trans k5).trans k6).trans k7).trans k8).trans k9).trans k10).trans k11)
    have Kb2 := Kb.only om (Nat.le_refl _)
    have K12 := K11.only om z0
    have zy := k5.size
    replace hg := row_only hg om (by omega)
    replace ry := row_only ry om (Nat.le_refl _)
    have hr0 := hr
    have hf0 := hf
    have dk : ¬ ((1 : Int) + 4 * lenW dss < 0) := by omega
    clear hr rx hf ryd sv hr0 hf0
    go_wp2_with fail
    refine (mark_row _ _ _ _ _ ry hfl (by omega) (by omega)).mono ?_
    rintro e w13 ⟨rfl, -, gy⟩
    have A : v6.ownBlock = none ∨ v6.ownBlock ≠ v5.ownBlock := apart_of (fun k hk => (oy.row.lt k hk).2) (fun k hk => og.ge k hk)
    replace hg := hg.kept gy A
    have Kb3 := Kb2.grown gy (fun k hk => Nat.le_trans zx (ry.ge k hk))
    have K13 := K12.grown gy (fun k hk => Nat.le_trans (Nat.le_trans z0 zx) (ry.ge k hk))
    have dk2 : ¬ ((1 : Int) + 4 * lenW dss + f.length < 0) := by omega
    clear gy ry om Kb2
    have Kb2 := Kb3
    have sv := o3.rd.keep Kb2
    have Kq := Kb2
    go_wp2_with fail
    refine (eq_any _ _ _ _ _ hg.rd sv g1).mono ?_
    rintro e w14 ⟨rfl, k14⟩
    replace hg := hg.keep k14
    replace sv := sv.keep k14
    replace Kq := Kq.trans k14
    have K14 := K13.trans k14
    go_wp2_with fail
    refine (mark_row _ _ _ _ _ hg g1 (by omega) (by omega)).mono ?_
    rintro e w15 ⟨rfl, om2, gg⟩
    have Kr := Kq.grown gg (fun k hk => Nat.le_trans (Nat.le_trans zx zy) (hg.ge k hk))
    have K15 := K14.grown gg (fun k hk => Nat.le_trans z0 (Nat.le_trans (Nat.le_trans zx zy) (hg.ge k hk)))
    clear gg hg sv Kq
    have sv := o3.rd.keep Kr
    have Kq := Kr
    have hm := om2.rd
    go_wp2_with fail
    refine (held_row _ _ _ _ hm g1 (by omega) (by omega)).mono ?_
    rintro e w16 ⟨rfl, k16⟩
    replace sv := sv.keep k16
    replace hm := hm.keep k16
    replace Kq := Kq.trans k16
    have K16 := K15.trans k16
    have nq : ((1 : Int) + L.length != 1 + L.length) = false := by simp
    have dq : ¬ ((1 : Int) + L.length < 0) := by omega
    have hr := HR0.out.keep K16
    have hf := HF0.out.keep K16
    go_wp2_with fail
    refine (toW_any _ _ _ hr l1 l2).mono ?_
    rintro e w17 ⟨v17, rfl, ot, k17⟩
    replace sv := sv.keep k17
    replace hm := hm.keep k17
    replace hr := hr.keep k17
    replace hf := hf.keep k17
    replace Kq := Kq.trans k17
    have K17 := K16.trans k17
    have rt := ot.rd
    go_wp2_with fail
    refine (to_any _ _ _ hf hfl).mono ?_
    rintro e w18 ⟨v18, rfl, ou, k18⟩
    replace sv := sv.keep k18
    replace hm := hm.keep k18
    replace hr := hr.keep k18
    replace hf := hf.keep k18
    replace rt := rt.keep k18
    replace Kq := Kq.trans k18
    have K18 := K17.trans k18
    have ru := ou.rd
    go_wp2_with fail
    refine (implFromOthers_any _ _ _ _ _ rt ru l1 l2 hfl).mono ?_
    rw [← HE.out]
    rintro e w19 ⟨v19, rfl, oh, k19⟩
    replace sv := sv.keep k19
    replace hm := hm.keep k19
    replace hr := hr.keep k19
    replace hf := hf.keep k19
    replace rt := rt.keep k19
    replace ru := ru.keep k19
    replace Kq := Kq.trans k19
    have K19 := K18.trans k19
    go_wp2_with fail
    refine (eq_any _ _ _ _ _ oh.rd sv g1).mono ?_
    rintro e w20 ⟨rfl, k20⟩
    replace sv := sv.keep k20
    replace hm := hm.keep k20
    replace hr := hr.keep k20
    replace hf := hf.keep k20
    replace rt := rt.keep k20
    replace ru := ru.keep k20
    replace Kq := Kq.trans k20
    have K20 := K19.trans k20
    go_wp2_with fail
    refine (held_row _ _ _ _ hm g1 (by omega) (by omega)).mono ?_
    rintro e w21 ⟨rfl, k21⟩
    replace sv := sv.keep k21
    replace hm := hm.keep k21
    replace hr := hr.keep k21
    replace hf := hf.keep k21
    replace rt := rt.keep k21
    replace ru := ru.keep k21
    replace Kq := Kq.trans k21
    have K21 := K20.trans k21
    go_wp2
    go_ret
    exact ⟨rfl, K21⟩

set_option maxRecDepth 100000 in
theorem lifted (os : Os) (started : os.Started) (H : Type) (enc : TypeId × Value → H) :
    ReturnsInHanded {} Try.checked os 3 .any (Rows.fnExactFromOthersSpec.pre6 enc Try.prog Try.f3 Rows.fnExactFromOthersRow.domain false) (Rows.fnExactFromOthersSpec.post enc Try.prog Try.f3 false true false false) := by
  refine returnsInHanded_of_change (C := Try.checked) own started (by kernel_rfl) Try.func3
    (ChangeSpec.witness6 (enc := enc) (C := Try.checked) false ⟨#[], #[.slice none 0 0, .slice none 0 0], []⟩ 8 (by kernel_rfl) (by kernel_rfl) (by kernel_rfl) (by kernel_rfl)) ?_
  intro W base args ds gs before hval0 hW hcnd _

  have hval : ∀ (j : Nat) t v, Try.f3.params[j]? = some t → args[j]? = some v → Value.okWide Try.prog W .any base t v := hval0
  have hW' := hW
  obtain ⟨p, q, hA0, hV, rfl, hfz, hnd⟩ := hW
  have hA : DataW.TrodAll enc Try.prog W 0 (fun _ => true) true Try.f3.params.toList args.toList ds p := hA0
  rw [Try.params3] at hA hval
  obtain ⟨v0, vs0, d0, ds0, p0, q0, hargs, rfl, rfl, h0, r0⟩ := trodAll_cons hA
  obtain ⟨v1, vs1, d1, ds1, p1, q1, rfl, rfl, rfl, h1, r1⟩ := trodAll_cons r0
  obtain ⟨rfl, rfl, rfl⟩ := trodAll_nil r1
  obtain rfl : args = #[v0, v1] := by cases args; simp_all
  obtain ⟨rfl, rfl⟩ := trodVars_none hV
  have k0 := h0
  have lt0 : ∀ x ∈ p0, x.block < W.heap.size := by obtain ⟨m, hm⟩ := k0; exact DataW.trod_lt m _ _ _ hm
  obtain ⟨dss, hr, hl, hls⟩ := open_work (hval 0 22 v0 rfl rfl) h0
  obtain ⟨f, hf, hfl⟩ := open_nums (hval 1 23 v1 rfl rfl) h1
  have k1 := h1
  have lt1 : ∀ x ∈ p1, x.block < W.heap.size := by obtain ⟨m, hm⟩ := k1; exact DataW.trod_lt m _ _ _ hm
  clear hA0 hval0
  refine (walk v0 dss v1 f W hr hl hls hf hfl).mono fun e W' ⟨he, bel⟩ => ?_
  subst he
  exact ⟨_, rfl, _, _, _, [], _, [], hW', trodAll_mk1 (shut_bool Try.underlying4 _), (trodAll_cons_mk (Below.trod laidOut (by kernel_rfl) (of_decide_eq_true (by kernel_rfl)) k0 bel lt0) (trodAll_cons_mk (Below.trod laidOut (by kernel_rfl) (of_decide_eq_true (by kernel_rfl)) k1 bel lt1) trodAll_mk0)), rfl, bel.frame _, fun h => by cases h⟩

theorem over : Rows.fnExactFromOthersRow.holds Try.pinned (OpenSpec.ofChange Rows.fnExactFromOthersSpec) :=
  OpenClaim.holds_of_wide 3 Try.f3 rfl rfl rfl rfl rfl rfl rfl ⟨rfl, rfl, rfl, rfl, rfl⟩ rfl rfl rfl rfl rfl (by kernel_rfl) Try.func3 (by kernel_rfl)
    (of_decide_eq_true (by kernel_rfl)) (by unfold Func.isWrapper; first | (rw [if_pos (by decide +kernel)]; kernel_rfl) | (rw [if_neg (by decide +kernel)]; exact ⟨rfl, rfl⟩))
    (fun os started H enc _ => lifted os started H enc)

#print axioms over
end Go.Proofs.Ytkbkdlaknmgjpaa.fnExactFromOthers
namespace Go.Proofs.Ytkbkdlaknmgjpaa
theorem fnExactFromOthers_holds : Rows.FnExactFromOthersSaid := fnExactFromOthers.over
end Go.Proofs.Ytkbkdlaknmgjpaa
