/- At every list of lists of deeds the program's Kept answers as the specification's does, in memory of its own, and writes into no argument: the law FnExactKept answers true and its argument stays. -/
import Derived.Test.YtefdhogmjijkgaaRows
import Derived.WalkKit
import Derived.ProofKit
import Derived.OpenShut
import Derived.ShutString
import Derived.ChangeOld
import Derived.Below
import Derived.Test.YtefdhogmjijkgaaMA
import Derived.Test.YtefdhogmjijkgaaBehindI
import Derived.Test.YtefdhogmjijkgaaLineS
import Derived.Test.YtefdhogmjijkgaaRowOnly
import Derived.Test.YtefdhogmjijkgaaWorkTo
import Derived.Test.YtefdhogmjijkgaaWorkEq
import Derived.Test.YtefdhogmjijkgaaWorkMark
import Derived.Test.YtefdhogmjijkgaaSlicesA
import Derived.Test.YtefdhogmjijkgaaMarkRow
namespace Go.Proofs.Ytefdhogmjijkgaa.fnExactKept
open Go.ChangeShapes Go.WideShapes Go.ChangeAt Go.RowKit
open Go.ChangeMaps (open_string shut_string)
set_option linter.unusedVariables false

theorem own : ownKnob Try.prog.godebug = none := by kernel_rfl
theorem laidOut : laidOutB Try.prog = true := by kernel_rfl

set_option maxHeartbeats 8000000 in
theorem walk (v : Value) (dss : List (List Dd)) (w : World) (hr : RdW w v dss) (hl : dss.length ≤ maxLen) (hls : ∀ i, i < dss.length → (dss.getD i []).length ≤ maxLen) :
    Calls Try.prog 6 #[v] w fun e w' => e = .returned (.bool true) ∧ Below w.heap.size w w' := by
  go_enter Try.func6, Try.ntmps6
  go_wp2_with fail
  refine (szW_any _ _ _ hr _ (by omega) (by omega) hl hls).mono ?_
  rintro e w1 ⟨r, rfl, rfl, hd⟩
  by_cases hneg : r < 0
  · go_wp2
    go_ret
    exact ⟨rfl, Below.refl _ _⟩
  · have hsum : (dss.length + lenW dss : Int) ≤ 1048576 := hd.resolve_left hneg
    have hge : (0 : Int) ≤ r := by omega
    have l1 : dss.length ≤ 1048576 := by omega
    have l2 : ∀ i, i < dss.length → (dss.getD i []).length ≤ 1048576 := fun i hi => by have := lenW_get dss i hi; omega
    have s1 : lenW dss ≤ 1048576 := by omega
    have HL : Hid (likeW dss dss = true) := Lib.hid (by unfold likeW; simp)
    have g1 : (kepL dss (eventsB dss)).length ≤ 1048576 := by
      have g9 := eventsB_len9 dss
      rw [(kep_line (dss := dss) (es := eventsB dss) (by omega)).1.2.1]
      omega
    obtain ⟨L, hL⟩ : ∃ L, L = kepL dss (eventsB dss) := ⟨_, rfl⟩
    have HE := Lib.hid hL
    rw [← hL] at g1
    clear hd hneg hsum hl hls hL
    go_wp2_with fail
    refine (toW_any _ _ _ hr l1 l2).mono ?_
    rintro e w2 ⟨v2, rfl, o2, k2⟩
    go_wp2_with fail
    refine (specKept_any _ _ _ o2.rd l1 l2).mono ?_
    rw [← HE.out]
    rintro e w3 ⟨v3, rfl, o3, k3⟩
    have K3 := k2.trans k3
    go_wp2_with fail
    refine (toW_any _ _ _ (hr.keep K3) l1 l2).mono ?_
    rintro e w4 ⟨v4, rfl, o4, k4⟩
    go_wp2_with fail
    refine (implKept_any _ _ _ o4.rd l1 l2).mono ?_
    rw [← HE.out]
    rintro e w5 ⟨v5, rfl, o5, k5⟩
    have K5 := (K3.trans k4).trans k5
    go_wp2_with fail
    refine (eq_any _ _ _ _ _ o5.rd (o3.rd.keep (k4.trans k5)) g1).mono ?_
    rintro e w6 ⟨rfl, k6⟩
    have K6 := K5.trans k6
    go_wp2_with fail
    refine (toW_any _ _ _ (hr.keep K6) l1 l2).mono ?_
    rintro e w7 ⟨v7, rfl, o7, k7⟩
    have K7 := K6.trans k7
    go_wp2_with fail
    refine (eqW_any _ _ _ _ _ (o4.rd.keep (k5.trans (k6.trans k7))) o7.rd l1 l2).mono ?_
    rw [HL.out]
    rintro e w8 ⟨rfl, k8⟩
    have K8 := K7.trans k8
    have K48 : Keep w4 w8 := (k5.trans k6).trans (k7.trans k8)
    have K58 : Keep w5 w8 := k6.trans (k7.trans k8)
    have K38 : Keep w3 w8 := k4.trans K48
    have G5 : ∀ b, v5.ownBlock = some b → w4.heap.size ≤ b := fun b hb => o5.ge b hb
    have o58 := o5.keep K58
    go_wp2_with fail
    refine (markW_any w8 w4 w3.heap.size _ _ dss o4 (fun b _ hb => Below.block K48 b hb) l1 s1 (by omega) (by omega)).mono ?_
    rintro e w9 ⟨rfl, -, k9⟩
    have K9 := K8.only k9 K3.size
    have K39 := K38.only k9 (Nat.le_refl _)
    have o59 := row_only o58 k9 (Nat.le_refl _)
    have dk : ¬ ((1 : Int) + 4 * lenW dss < 0) := by omega
    clear k9 o58 K38 K48 K58 G5
    go_wp2_with fail
    refine (eq_any _ _ _ _ _ o59.rd (o3.rd.keep K39) g1).mono ?_
    rintro e w10 ⟨rfl, k10⟩
    have oA := o59.keep k10
    go_wp2_with fail
    refine (mark_row _ _ _ _ _ oA g1 (by omega) (by omega)).mono ?_
    rintro e w11 ⟨rfl, o11, k11⟩
    have z34 := k4.size
    have z3 := K3.size
    have K11 := (K9.trans k10).grown k11 (fun k hk => Nat.le_trans (Nat.le_trans z3 z34) (oA.ge k hk))
    have K311 := (K39.trans k10).grown k11 (fun k hk => Nat.le_trans z34 (oA.ge k hk))
    clear k11 oA
    go_wp2_with fail
    refine (held_row _ _ _ _ o11.rd g1 (by omega) (by omega)).mono ?_
    rintro e w12 ⟨rfl, k12⟩
    have K12 := K11.trans k12
    have nq : ((1 : Int) + L.length != 1 + L.length) = false := by simp
    have dq : ¬ ((1 : Int) + L.length < 0) := by omega
    go_wp2_with fail
    refine (toW_any _ _ _ (hr.keep K12) l1 l2).mono ?_
    rintro e w13 ⟨v13, rfl, o13, k13⟩
    go_wp2_with fail
    refine (implKept_any _ _ _ o13.rd l1 l2).mono ?_
    rw [← HE.out]
    rintro e w14 ⟨v14, rfl, o14, k14⟩
    have K1114 := k12.trans (k13.trans k14)
    go_wp2_with fail
    refine (eq_any _ _ _ _ _ o14.rd (o3.rd.keep (K311.trans K1114)) g1).mono ?_
    rintro e w15 ⟨rfl, k15⟩
    go_wp2_with fail
    refine (held_row _ _ _ _ (o11.rd.keep (K1114.trans k15)) g1 (by omega) (by omega)).mono ?_
    rintro e w16 ⟨rfl, k16⟩
    go_wp2
    go_ret
    exact ⟨rfl, ((K11.trans K1114).trans k15).trans k16⟩

set_option maxRecDepth 100000 in
theorem lifted (os : Os) (started : os.Started) (H : Type) (enc : TypeId × Value → H) :
    ReturnsInHanded {} Try.checked os 6 .any (Rows.fnExactKeptSpec.pre6 enc Try.prog Try.f6 Rows.fnExactKeptRow.domain false) (Rows.fnExactKeptSpec.post enc Try.prog Try.f6 false true false false) := by
  refine returnsInHanded_of_change (C := Try.checked) own started (by kernel_rfl) Try.func6
    (ChangeSpec.witness6 (enc := enc) (C := Try.checked) false ⟨#[], #[.slice none 0 0], []⟩ 8 (by kernel_rfl) (by kernel_rfl) (by kernel_rfl) (by kernel_rfl)) ?_
  intro W base args ds gs before hval0 hW hcnd _

  have hval : ∀ (j : Nat) t v, Try.f6.params[j]? = some t → args[j]? = some v → Value.okWide Try.prog W .any base t v := hval0
  have hW' := hW
  obtain ⟨p, q, hA0, hV, rfl, hfz, hnd⟩ := hW
  have hA : DataW.TrodAll enc Try.prog W 0 (fun _ => true) true Try.f6.params.toList args.toList ds p := hA0
  rw [Try.params6] at hA hval
  obtain ⟨v0, vs0, d0, ds0, p0, q0, hargs, rfl, rfl, h0, r0⟩ := trodAll_cons hA
  obtain ⟨rfl, rfl, rfl⟩ := trodAll_nil r0
  obtain rfl : args = #[v0] := by cases args; simp_all
  obtain ⟨rfl, rfl⟩ := trodVars_none hV
  have k0 := h0
  have lt0 : ∀ x ∈ p0, x.block < W.heap.size := by obtain ⟨m, hm⟩ := k0; exact DataW.trod_lt m _ _ _ hm
  obtain ⟨dss, hr, hl, hls⟩ := open_work (hval 0 38 v0 rfl rfl) h0
  clear hA0 hval0
  refine (walk v0 dss W hr hl hls).mono fun e W' ⟨he, bel⟩ => ?_
  subst he
  exact ⟨_, rfl, _, _, _, [], _, [], hW', trodAll_mk1 (shut_bool Try.underlying4 _), (trodAll_cons_mk (Below.trod laidOut (by kernel_rfl) (of_decide_eq_true (by kernel_rfl)) k0 bel lt0) trodAll_mk0), rfl, bel.frame _, fun h => by cases h⟩

theorem over : Rows.fnExactKeptRow.holds Try.pinned (OpenSpec.ofChange Rows.fnExactKeptSpec) :=
  OpenClaim.holds_of_wide 6 Try.f6 rfl rfl rfl rfl rfl rfl rfl ⟨rfl, rfl, rfl, rfl, rfl⟩ rfl rfl rfl rfl rfl (by kernel_rfl) Try.func6 (by kernel_rfl)
    (of_decide_eq_true (by kernel_rfl)) (by unfold Func.isWrapper; first | (rw [if_pos (by decide +kernel)]; kernel_rfl) | (rw [if_neg (by decide +kernel)]; exact ⟨rfl, rfl⟩))
    (fun os started H enc _ => lifted os started H enc)

#print axioms over
end Go.Proofs.Ytefdhogmjijkgaa.fnExactKept
namespace Go.Proofs.Ytefdhogmjijkgaa
theorem fnExactKept_holds : Rows.FnExactKeptSaid := fnExactKept.over
end Go.Proofs.Ytefdhogmjijkgaa
