/- At every list of lists of numbers and every list of numbers the program's InEnds answers as the specification's does and writes into no argument: the law FnExactInEnds answers true and its arguments stay. -/
import Derived.Test.YtnmelakgmgenjaaRows
import Derived.WalkKit
import Derived.ProofKit
import Derived.OpenShut
import Derived.ShutString
import Derived.ChangeOld
import Derived.Below
import Derived.Test.YtnmelakgmgenjaaMB
import Derived.Test.YtnmelakgmgenjaaMD
import Derived.Test.YtnmelakgmgenjaaMC
namespace Go.Proofs.Ytnmelakgmgenjaa.fnExactInEnds
open Go.ChangeShapes Go.WideShapes Go.ChangeAt Go.RowKit
open Go.ChangeMaps (open_string shut_string)
set_option linter.unusedVariables false

theorem own : ownKnob Try.prog.godebug = none := by kernel_rfl
theorem laidOut : laidOutB Try.prog = true := by kernel_rfl

set_option maxRecDepth 100000 in
set_option maxHeartbeats 8000000 in
theorem walk (v : Value) (zss : List (List Int)) (vf : Value) (f : List Int) (w : World) (hr : RdL w v zss) (hl : zss.length ≤ maxLen) (hls : ∀ i, i < zss.length → (zss.getD i []).length ≤ maxLen) (hf : Rd w vf f) (hfl : f.length ≤ maxLen) :
    Calls Try.prog 3 #[v, vf] w fun e w' => e = .returned (.bool true) ∧ Below w.heap.size w w' := by
  obtain ⟨af, cf, rfl, hf0⟩ := hf
  have hf : Rd w (.slice af f.length cf) f := ⟨af, cf, rfl, hf0⟩
  clear hf0
  by_cases hbf : 1048576 < f.length
  · have hbi : (1048576 : Int) < (f.length : Int) := by omega
    go_enter Try.func3, Try.ntmps3
    go_wp2
    go_ret
    exact ⟨rfl, Below.refl _ _⟩
  have hfm : f.length ≤ 1048576 := by omega
  have hbi : (f.length : Int) ≤ 1048576 := by omega
  clear hbf
  go_enter Try.func3, Try.ntmps3
  go_wp2_with fail
  refine (szII_top _ _ _ hr _ (by omega) (by omega) hl hls).mono ?_
  rintro e w0 ⟨r, rfl, rfl, hd⟩
  by_cases hneg : r < 0
  · go_wp2
    go_ret
    exact ⟨rfl, Below.refl _ _⟩
  have hsum : (zss.length + lenG zss : Int) ≤ 1048576 := (hd.resolve_left hneg).1
  have hge : (0 : Int) ≤ r := by omega
  have l1 : zss.length ≤ 1048576 := by omega
  have HM := Lib.hid (fun i (hi : i < zss.length) => show (zss.getD i []).length ≤ 1048576 from by have := lenG_get zss i hi; omega)
  clear hd hneg hsum hl hls
  obtain ⟨L, hL⟩ : ∃ L, L = inLL zss f := ⟨_, rfl⟩
  have HE := Lib.hid hL
  have HR := Lib.hid hr
  have HF := Lib.hid hf
  clear hL hr hf
  go_wp2_with fail
  refine (toII_own _ _ _ HR.out l1 HM.out).mono ?_
  rintro e w1 ⟨v1, hs1, rfl, o1, k1⟩
  have K1 : Keep w0 w1 := k1
  have r1 := o1.rdL
  clear o1
  go_wp2_with fail
  refine (to_any _ _ _ (HF.out.keep K1) hfm).mono ?_
  rintro e w2 ⟨v2, rfl, o2, k2⟩
  have K2 := K1.trans k2
  go_wp2_with fail
  refine (specInEnds_any _ _ _ zss f (r1.keep k2) o2.rd (by omega) HM.out).mono ?_
  rw [← HE.out]
  rintro e w3 ⟨rfl, k3⟩
  have K3 := K2.trans k3
  clear o2 r1 k1 k2 k3 K1 K2
  go_wp2_with fail
  refine (toII_own _ _ _ (HR.out.keep K3) l1 HM.out).mono ?_
  rintro e w4 ⟨v4, hs4, rfl, o4, k4⟩
  have K4 := K3.trans k4
  have r4 := o4.rdL
  clear o4
  go_wp2_with fail
  refine (to_any _ _ _ (HF.out.keep K4) hfm).mono ?_
  rintro e w5 ⟨v5, rfl, o5, k5⟩
  have K5 := K4.trans k5
  have r5 := r4.keep k5
  have f5 := o5.rd
  clear o5 r4 k4 k5 K3 K4
  go_wp2_with fail
  refine (implInEnds_any _ _ _ zss f r5 f5 (by omega) HM.out).mono ?_
  rw [← HE.out]
  rintro e w6 ⟨rfl, k6⟩
  have K6 := K5.trans k6
  have r6 := r5.keep k6
  have f6 := f5.keep k6
  have eb : (L != L) = false := by simp
  clear r5 f5 k6 K5
  go_wp2_with fail
  refine (toII_own _ _ _ (HR.out.keep K6) l1 HM.out).mono ?_
  rintro e w7 ⟨v7, hs7, rfl, o7, k7⟩
  have K7 := K6.trans k7
  have r7 := o7.rdL
  have q7 := r6.keep k7
  have f7 := f6.keep k7
  clear o7 r6 f6 k7 K6
  go_wp2_with fail
  refine (eqII_same _ _ _ _ q7 r7 l1 HM.out).mono ?_
  rintro e w8 ⟨rfl, k8⟩
  have K8 := K7.trans k8
  have f8 := f7.keep k8
  clear q7 r7 f7 k8 K7
  go_wp2_with fail
  refine (to_any _ _ _ (HF.out.keep K8) hfm).mono ?_
  rintro e w9 ⟨v9, rfl, o9, k9⟩
  have K9 := K8.trans k9
  have f9 := f8.keep k9
  clear f8 k9 K8
  go_wp2_with fail
  refine (eqI_same _ _ _ _ f9 o9.rd hfm).mono ?_
  rintro e w10 ⟨rfl, k10⟩
  have K10 := K9.trans k10
  clear f9 o9 k10 K9
  go_wp2
  go_ret
  exact ⟨rfl, K10⟩

set_option maxRecDepth 100000 in
theorem lifted (os : Os) (started : os.Started) (H : Type) (enc : TypeId × Value → H) :
    ReturnsInHanded {} Try.checked os 3 .any (Rows.fnExactInEndsSpec.pre6 enc Try.prog Try.f3 Rows.fnExactInEndsRow.domain false) (Rows.fnExactInEndsSpec.post enc Try.prog Try.f3 false true false false) := by
  refine returnsInHanded_of_change (C := Try.checked) own started (by kernel_rfl) Try.func3
    (ChangeSpec.witness6 (enc := enc) (C := Try.checked) false ⟨#[], #[.slice none 0 0, .slice none 0 0], []⟩ 8 (by kernel_rfl) (by kernel_rfl) (by kernel_rfl) (by kernel_rfl)) ?_
  intro W base args ds gs before hval0 hW hcnd _

  have hval : ∀ (j : Nat) t v, Try.f3.params[j]? = some t → args[j]? = some v → Value.okWide Try.prog W .any base t v := hval0
  have hW' := hW
  obtain ⟨p, q, hA0, hV, rfl, hfz, hnd⟩ := hW
  have hA : DataW.TrodAll enc Try.prog W 0 (fun _ => true) true Try.f3.params.toList args.toList ds p := hA0
  rw [Try.params3] at hA hval
  obtain ⟨v0, vs0, d0, ds0, p0, q0, hargs, rfl, rfl, h0, r0⟩ := trodAll_cons hA
  obtain ⟨v1, vs1, d1, ds1, p1, q1, rfl, rfl, rfl, h1, r1⟩ := trodAll_cons r0
  obtain ⟨rfl, rfl, rfl⟩ := trodAll_nil r1
  obtain rfl : args = #[v0, v1] := by cases args; simp_all
  obtain ⟨rfl, rfl⟩ := trodVars_none hV
  have k0 := h0
  have lt0 : ∀ x ∈ p0, x.block < W.heap.size := by obtain ⟨m, hm⟩ := k0; exact DataW.trod_lt m _ _ _ hm
  obtain ⟨zss, hr, hl, hls⟩ := open_lists (hval 0 22 v0 rfl rfl) h0
  obtain ⟨f, hf, hfl⟩ := open_nums (hval 1 23 v1 rfl rfl) h1
  have k1 := h1
  have lt1 : ∀ x ∈ p1, x.block < W.heap.size := by obtain ⟨m, hm⟩ := k1; exact DataW.trod_lt m _ _ _ hm
  clear hA0 hval0
  refine (walk v0 zss v1 f W hr hl hls hf hfl).mono fun e W' ⟨he, bel⟩ => ?_
  subst he
  exact ⟨_, rfl, _, _, _, [], _, [], hW', trodAll_mk1 (shut_bool Try.underlying4 _), (trodAll_cons_mk (Below.trod laidOut (by kernel_rfl) (of_decide_eq_true (by kernel_rfl)) k0 bel lt0) (trodAll_cons_mk (Below.trod laidOut (by kernel_rfl) (of_decide_eq_true (by kernel_rfl)) k1 bel lt1) trodAll_mk0)), rfl, bel.frame _, fun h => by cases h⟩

theorem over : Rows.fnExactInEndsRow.holds Try.pinned (OpenSpec.ofChange Rows.fnExactInEndsSpec) :=
  OpenClaim.holds_of_wide 3 Try.f3 rfl rfl rfl rfl rfl rfl rfl ⟨rfl, rfl, rfl, rfl, rfl⟩ rfl rfl rfl rfl rfl (by kernel_rfl) Try.func3 (by kernel_rfl)
    (of_decide_eq_true (by kernel_rfl)) (by unfold Func.isWrapper; first | (rw [if_pos (by decide +kernel)]; kernel_rfl) | (rw [if_neg (by decide +kernel)]; exact ⟨rfl, rfl⟩))
    (fun os started H enc _ => lifted os started H enc)

#print axioms over
end Go.Proofs.Ytnmelakgmgenjaa.fnExactInEnds
namespace Go.Proofs.Ytnmelakgmgenjaa
theorem fnExactInEnds_holds : Rows.FnExactInEndsSaid := fnExactInEnds.over
end Go.Proofs.Ytnmelakgmgenjaa
