/- At every list of lists of deeds and every list of numbers the program's RowsOk answers as the specification's does: the law FnExactRowsOk answers true and its arguments stay. -/
import Derived.Test.YtkdebpfdiblliaaRows
import Derived.WalkKit
import Derived.ProofKit
import Derived.OpenShut
import Derived.ShutString
import Derived.ChangeOld
import Derived.Below
import Derived.Test.YtkdebpfdiblliaaWorks
import Derived.Test.YtkdebpfdiblliaaOpenNums
import Derived.Test.YtkdebpfdiblliaaRowsI
import Derived.Test.YtkdebpfdiblliaaRowsS
import Derived.Test.YtkdebpfdiblliaaRowsLen
import Derived.Test.YtkdebpfdiblliaaWorkTo
import Derived.Test.YtkdebpfdiblliaaWorkEq
import Derived.Test.YtkdebpfdiblliaaSlices
namespace Go.Proofs.Ytkdebpfdiblliaa.fnExactRowsOk
open Go.ChangeShapes Go.WideShapes Go.ChangeAt Go.RowKit
open Go.ChangeMaps (open_string shut_string)
set_option linter.unusedVariables false

theorem own : ownKnob Try.prog.godebug = none := by kernel_rfl
theorem laidOut : laidOutB Try.prog = true := by kernel_rfl

set_option maxHeartbeats 8000000 in
theorem walk (v : Value) (dss : List (List Dd)) (vf : Value) (f : List Int) (w : World) (hr : RdW w v dss) (hl : dss.length ≤ maxLen) (hls : ∀ i, i < dss.length → (dss.getD i []).length ≤ maxLen) (hf : Rd w vf f) (hfl : f.length ≤ maxLen) :
    Calls Try.prog 4 #[v, vf] w fun e w' => e = .returned (.bool true) ∧ Below w.heap.size w w' := by
  obtain ⟨af, cf, rfl, hf0⟩ := hf
  have hf : Rd w (.slice af f.length cf) f := ⟨af, cf, rfl, hf0⟩
  clear hf0
  by_cases hbf : 1048576 < f.length
  · have hbi : (1048576 : Int) < (f.length : Int) := by omega
    go_enter Try.func4, Try.ntmps4
    go_wp2
    go_ret
    exact ⟨rfl, Below.refl _ _⟩
  have hfl : f.length ≤ 1048576 := by omega
  have hbi : (f.length : Int) ≤ 1048576 := by omega
  clear hbf
  go_enter Try.func4, Try.ntmps4
  go_wp2_with fail
  refine (szW_any _ _ _ hr _ (by omega) (by omega) hl hls).mono ?_
  rintro e w0 ⟨r, rfl, rfl, hd⟩
  by_cases hneg : r < 0
  · go_wp2
    go_ret
    exact ⟨rfl, Below.refl _ _⟩
  · have hsum : (dss.length + lenW dss : Int) ≤ 1048576 := hd.resolve_left hneg
    have hge : (0 : Int) ≤ r := by omega
    have l1 : dss.length ≤ 1048576 := by omega
    have l2 : ∀ i, i < dss.length → (dss.getD i []).length ≤ 1048576 := fun i hi => by have := lenW_get dss i hi; omega
    have s1 : lenW dss ≤ 1048576 := by omega
    have HL : Hid (likeW dss dss = true) := Lib.hid (by unfold likeW; simp)
    clear hd hneg hsum hl hls
    obtain ⟨L, hL⟩ : ∃ L, L = rowsB dss f := ⟨_, rfl⟩
    have HE := Lib.hid hL
    clear hL
    go_wp2_with fail
    refine (toW_any _ _ _ hr l1 l2).mono ?_
    rintro e w1 ⟨v1, rfl, o1, k1⟩
    replace hr := hr.keep k1
    replace hf := hf.keep k1
    have K1 := k1
    go_wp2_with fail
    refine (to_any _ _ _ hf hfl).mono ?_
    rintro e w2 ⟨v2, rfl, q2, k2⟩
    replace hr := hr.keep k2
    replace hf := hf.keep k2
    have K2 := K1.trans k2
    have r1 := o1.rd.keep k2
    have r2 := q2.rd
    go_wp2_with fail
    refine (specRowsOk_any _ _ _ _ _ r1 r2 q2.capz l1 l2 hfl).mono ?_
    rw [← HE.out]
    rintro e w3 ⟨rfl, k3⟩
    replace hr := hr.keep k3
    replace hf := hf.keep k3
    have K3 := K2.trans k3
    go_wp2_with fail
    refine (toW_any _ _ _ hr l1 l2).mono ?_
    rintro e w4 ⟨v4, rfl, ox, k4⟩
    replace hr := hr.keep k4
    replace hf := hf.keep k4
    have K4 := K3.trans k4
    have rx := ox.rd
    have kx := Keep.refl w4
    go_wp2_with fail
    refine (to_any _ _ _ hf hfl).mono ?_
    rintro e w5 ⟨v5, rfl, oy, k5⟩
    replace hr := hr.keep k5
    replace hf := hf.keep k5
    replace rx := rx.keep k5
    have K5 := K4.trans k5
    replace kx := kx.trans k5
    have ry := oy.row
    have ryd := oy.rd
    go_wp2_with fail
    refine (implRowsOk_any _ _ _ _ _ rx ryd oy.capz l1 l2 hfl).mono ?_
    rw [← HE.out]
    rintro e w6 ⟨rfl, k6⟩
    replace hr := hr.keep k6
    replace hf := hf.keep k6
    replace rx := rx.keep k6
    replace ry := ry.keep k6
    replace ryd := ryd.keep k6
    have K6 := K5.trans k6
    replace kx := kx.trans k6
    have eb : (L != L) = false := by simp
    go_wp2_with fail
    refine (toW_any _ _ _ hr l1 l2).mono ?_
    rintro e w7 ⟨v7, rfl, oz, k7⟩
    replace hr := hr.keep k7
    replace hf := hf.keep k7
    replace rx := rx.keep k7
    replace ry := ry.keep k7
    replace ryd := ryd.keep k7
    have K7 := K6.trans k7
    replace kx := kx.trans k7
    go_wp2_with fail
    refine (eqW_any _ _ _ _ _ rx oz.rd l1 l2).mono ?_
    rw [HL.out]
    rintro e w8 ⟨rfl, k8⟩
    replace hr := hr.keep k8
    replace hf := hf.keep k8
    replace rx := rx.keep k8
    replace ry := ry.keep k8
    replace ryd := ryd.keep k8
    have K8 := K7.trans k8
    replace kx := kx.trans k8
    go_wp2_with fail
    refine (to_any _ _ _ hf hfl).mono ?_
    rintro e w9 ⟨v9, rfl, ow, k9⟩
    replace hr := hr.keep k9
    replace hf := hf.keep k9
    replace rx := rx.keep k9
    replace ry := ry.keep k9
    replace ryd := ryd.keep k9
    have K9 := K8.trans k9
    replace kx := kx.trans k9
    go_wp2_with fail
    refine (eq_any _ _ _ _ _ ryd ow.rd hfl).mono ?_
    rintro e w10 ⟨rfl, k10⟩
    replace hr := hr.keep k10
    replace hf := hf.keep k10
    replace rx := rx.keep k10
    replace ry := ry.keep k10
    replace ryd := ryd.keep k10
    have K10 := K9.trans k10
    replace kx := kx.trans k10
    go_wp2
    go_ret
    exact ⟨rfl, K10⟩

set_option maxRecDepth 100000 in
theorem lifted (os : Os) (started : os.Started) (H : Type) (enc : TypeId × Value → H) :
    ReturnsInHanded {} Try.checked os 4 .any (Rows.fnExactRowsOkSpec.pre6 enc Try.prog Try.f4 Rows.fnExactRowsOkRow.domain false) (Rows.fnExactRowsOkSpec.post enc Try.prog Try.f4 false true false false) := by
  refine returnsInHanded_of_change (C := Try.checked) own started (by kernel_rfl) Try.func4
    (ChangeSpec.witness6 (enc := enc) (C := Try.checked) false ⟨#[], #[.slice none 0 0, .slice none 0 0], []⟩ 8 (by kernel_rfl) (by kernel_rfl) (by kernel_rfl) (by kernel_rfl)) ?_
  intro W base args ds gs before hval0 hW hcnd _

  have hval : ∀ (j : Nat) t v, Try.f4.params[j]? = some t → args[j]? = some v → Value.okWide Try.prog W .any base t v := hval0
  have hW' := hW
  obtain ⟨p, q, hA0, hV, rfl, hfz, hnd⟩ := hW
  have hA : DataW.TrodAll enc Try.prog W 0 (fun _ => true) true Try.f4.params.toList args.toList ds p := hA0
  rw [Try.params4] at hA hval
  obtain ⟨v0, vs0, d0, ds0, p0, q0, hargs, rfl, rfl, h0, r0⟩ := trodAll_cons hA
  obtain ⟨v1, vs1, d1, ds1, p1, q1, rfl, rfl, rfl, h1, r1⟩ := trodAll_cons r0
  obtain ⟨rfl, rfl, rfl⟩ := trodAll_nil r1
  obtain rfl : args = #[v0, v1] := by cases args; simp_all
  obtain ⟨rfl, rfl⟩ := trodVars_none hV
  have k0 := h0
  have lt0 : ∀ x ∈ p0, x.block < W.heap.size := by obtain ⟨m, hm⟩ := k0; exact DataW.trod_lt m _ _ _ hm
  obtain ⟨dss, hr, hl, hls⟩ := open_work (hval 0 42 v0 rfl rfl) h0
  obtain ⟨f, hf, hfl⟩ := open_nums (hval 1 27 v1 rfl rfl) h1
  have k1 := h1
  have lt1 : ∀ x ∈ p1, x.block < W.heap.size := by obtain ⟨m, hm⟩ := k1; exact DataW.trod_lt m _ _ _ hm
  clear hA0 hval0
  refine (walk v0 dss v1 f W hr hl hls hf hfl).mono fun e W' ⟨he, bel⟩ => ?_
  subst he
  exact ⟨_, rfl, _, _, _, [], _, [], hW', trodAll_mk1 (shut_bool Try.underlying4 _), (trodAll_cons_mk (Below.trod laidOut (by kernel_rfl) (of_decide_eq_true (by kernel_rfl)) k0 bel lt0) (trodAll_cons_mk (Below.trod laidOut (by kernel_rfl) (of_decide_eq_true (by kernel_rfl)) k1 bel lt1) trodAll_mk0)), rfl, bel.frame _, fun h => by cases h⟩

theorem over : Rows.fnExactRowsOkRow.holds Try.pinned (OpenSpec.ofChange Rows.fnExactRowsOkSpec) :=
  OpenClaim.holds_of_wide 4 Try.f4 rfl rfl rfl rfl rfl rfl rfl ⟨rfl, rfl, rfl, rfl, rfl⟩ rfl rfl rfl rfl rfl (by kernel_rfl) Try.func4 (by kernel_rfl)
    (of_decide_eq_true (by kernel_rfl)) (by unfold Func.isWrapper; first | (rw [if_pos (by decide +kernel)]; kernel_rfl) | (rw [if_neg (by decide +kernel)]; exact ⟨rfl, rfl⟩))
    (fun os started H enc _ => lifted os started H enc)

#print axioms over
end Go.Proofs.Ytkdebpfdiblliaa.fnExactRowsOk
namespace Go.Proofs.Ytkdebpfdiblliaa
theorem fnExactRowsOk_holds : Rows.FnExactRowsOkSaid := fnExactRowsOk.over
end Go.Proofs.Ytkdebpfdiblliaa
