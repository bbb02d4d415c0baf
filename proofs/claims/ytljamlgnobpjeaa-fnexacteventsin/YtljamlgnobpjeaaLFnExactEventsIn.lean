/- At every list of lists of deeds the program's EventsIn answers as the specification's does: the law FnExactEventsIn answers true and its argument stays. -/
import Derived.Test.YtljamlgnobpjeaaRows
import Derived.WalkKit
import Derived.ProofKit
import Derived.OpenShut
import Derived.ShutString
import Derived.ChangeOld
import Derived.Below
import Derived.Test.YtljamlgnobpjeaaWorks
import Derived.Test.YtljamlgnobpjeaaEventsI
import Derived.Test.YtljamlgnobpjeaaEventsS
import Derived.Test.YtljamlgnobpjeaaWorkTo
import Derived.Test.YtljamlgnobpjeaaWorkEq
namespace Go.Proofs.Ytljamlgnobpjeaa.fnExactEventsIn
open Go.ChangeShapes Go.WideShapes Go.ChangeAt Go.RowKit
open Go.ChangeMaps (open_string shut_string)
set_option linter.unusedVariables false

theorem own : ownKnob Try.prog.godebug = none := by kernel_rfl
theorem laidOut : laidOutB Try.prog = true := by kernel_rfl

set_option maxHeartbeats 8000000 in
theorem walk (v : Value) (dss : List (List Dd)) (w : World) (hr : RdW w v dss) (hl : dss.length ≤ maxLen) (hls : ∀ i, i < dss.length → (dss.getD i []).length ≤ maxLen) :
    Calls Try.prog 5 #[v] w fun e w' => e = .returned (.bool true) ∧ Below w.heap.size w w' := by
  go_enter Try.func5, Try.ntmps5
  go_wp2_with fail
  refine (szW_any _ _ _ hr _ (by omega) (by omega) hl hls).mono ?_
  rintro e w1 ⟨r, rfl, rfl, hd⟩
  by_cases hneg : r < 0
  · go_wp2
    go_ret
    exact ⟨rfl, Below.refl _ _⟩
  · have hsum : (dss.length + lenW dss : Int) ≤ 1048576 := hd.resolve_left hneg
    have hge : (0 : Int) ≤ r := by omega
    have l1 : dss.length ≤ 1048576 := by omega
    have l2 : ∀ i, i < dss.length → (dss.getD i []).length ≤ 1048576 := fun i hi => by have := lenW_get dss i hi; omega
    have HL : Hid (likeW dss dss = true) := Lib.hid (by unfold likeW; simp)
    clear hd hneg hsum hl hls
    go_wp2_with fail
    refine (toW_any _ _ _ hr l1 l2).mono ?_
    rintro e w2 ⟨v2, rfl, o2, k2⟩
    go_wp2_with fail
    refine (specEventsIn_any _ _ _ o2.rd l1 l2).mono ?_
    rintro e w3 ⟨rfl, k3⟩
    have K3 := k2.trans k3
    go_wp2_with fail
    refine (toW_any _ _ _ (hr.keep K3) l1 l2).mono ?_
    rintro e w4 ⟨v4, rfl, o4, k4⟩
    go_wp2_with fail
    refine (implEventsIn_any _ _ _ o4.rd l1 l2).mono ?_
    rintro e w5 ⟨rfl, k5⟩
    have K5 := (K3.trans k4).trans k5
    have eb : (evB dss != evB dss) = false := by simp
    go_wp2_with fail
    refine (toW_any _ _ _ (hr.keep K5) l1 l2).mono ?_
    rintro e w6 ⟨v6, rfl, o6, k6⟩
    go_wp2_with fail
    refine (eqW_any _ _ _ _ _ (o4.rd.keep (k5.trans k6)) o6.rd l1 l2).mono ?_
    rw [HL.out]
    rintro e w7 ⟨rfl, k7⟩
    go_wp2
    go_ret
    exact ⟨rfl, (K5.trans k6).trans k7⟩

set_option maxRecDepth 100000 in
theorem lifted (os : Os) (started : os.Started) (H : Type) (enc : TypeId × Value → H) :
    ReturnsInHanded {} Try.checked os 5 .any (Rows.fnExactEventsInSpec.pre6 enc Try.prog Try.f5 Rows.fnExactEventsInRow.domain false) (Rows.fnExactEventsInSpec.post enc Try.prog Try.f5 false true false false) := by
  refine returnsInHanded_of_change (C := Try.checked) own started (by kernel_rfl) Try.func5
    (ChangeSpec.witness6 (enc := enc) (C := Try.checked) false ⟨#[], #[.slice none 0 0], []⟩ 8 (by kernel_rfl) (by kernel_rfl) (by kernel_rfl) (by kernel_rfl)) ?_
  intro W base args ds gs before hval0 hW hcnd _

  have hval : ∀ (j : Nat) t v, Try.f5.params[j]? = some t → args[j]? = some v → Value.okWide Try.prog W .any base t v := hval0
  have hW' := hW
  obtain ⟨p, q, hA0, hV, rfl, hfz, hnd⟩ := hW
  have hA : DataW.TrodAll enc Try.prog W 0 (fun _ => true) true Try.f5.params.toList args.toList ds p := hA0
  rw [Try.params5] at hA hval
  obtain ⟨v0, vs0, d0, ds0, p0, q0, hargs, rfl, rfl, h0, r0⟩ := trodAll_cons hA
  obtain ⟨rfl, rfl, rfl⟩ := trodAll_nil r0
  obtain rfl : args = #[v0] := by cases args; simp_all
  obtain ⟨rfl, rfl⟩ := trodVars_none hV
  have k0 := h0
  have lt0 : ∀ x ∈ p0, x.block < W.heap.size := by obtain ⟨m, hm⟩ := k0; exact DataW.trod_lt m _ _ _ hm
  obtain ⟨dss, hr, hl, hls⟩ := open_work (hval 0 33 v0 rfl rfl) h0
  clear hA0 hval0
  refine (walk v0 dss W hr hl hls).mono fun e W' ⟨he, bel⟩ => ?_
  subst he
  exact ⟨_, rfl, _, _, _, [], _, [], hW', trodAll_mk1 (shut_bool Try.underlying4 _), (trodAll_cons_mk (Below.trod laidOut (by kernel_rfl) (of_decide_eq_true (by kernel_rfl)) k0 bel lt0) trodAll_mk0), rfl, bel.frame _, fun h => by cases h⟩

theorem over : Rows.fnExactEventsInRow.holds Try.pinned (OpenSpec.ofChange Rows.fnExactEventsInSpec) :=
  OpenClaim.holds_of_wide 5 Try.f5 rfl rfl rfl rfl rfl rfl rfl ⟨rfl, rfl, rfl, rfl, rfl⟩ rfl rfl rfl rfl rfl (by kernel_rfl) Try.func5 (by kernel_rfl)
    (of_decide_eq_true (by kernel_rfl)) (by unfold Func.isWrapper; first | (rw [if_pos (by decide +kernel)]; kernel_rfl) | (rw [if_neg (by decide +kernel)]; exact ⟨rfl, rfl⟩))
    (fun os started H enc _ => lifted os started H enc)

#print axioms over
end Go.Proofs.Ytljamlgnobpjeaa.fnExactEventsIn
namespace Go.Proofs.Ytljamlgnobpjeaa
theorem fnExactEventsIn_holds : Rows.FnExactEventsInSaid := fnExactEventsIn.over
end Go.Proofs.Ytljamlgnobpjeaa
