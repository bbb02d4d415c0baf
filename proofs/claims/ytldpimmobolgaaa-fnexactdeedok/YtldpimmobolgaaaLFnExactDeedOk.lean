/- At every four numbers the program's DeedOk answers as the specification's does: the law FnExactDeedOk answers true and its argument stays; no condition. -/
import Derived.Test.YtldpimmobolgaaaRows
import Derived.WalkKit
import Derived.ProofKit
import Derived.OpenShut
import Derived.ShutString
import Derived.ChangeOld
import Derived.Below
import Derived.Test.YtldpimmobolgaaaOpenDeed
import Derived.Test.YtldpimmobolgaaaDeedOkI
namespace Go.Proofs.Ytldpimmobolgaaa.fnExactDeedOk
open Go.ChangeShapes Go.WideShapes Go.ChangeAt Go.RowKit
open Go.ChangeMaps (open_string shut_string)
set_option linter.unusedVariables false

theorem own : ownKnob Try.prog.godebug = none := by kernel_rfl
theorem laidOut : laidOutB Try.prog = true := by kernel_rfl

set_option maxHeartbeats 8000000 in
theorem walk (k p v g : Int) (wk : (Lit.int .i64 k).wf = true) (wp : (Lit.int .i64 p).wf = true) (wv : (Lit.int .i64 v).wf = true) (wg : (Lit.int .i64 g).wf = true) (w : World) :
    Calls Try.prog 3 #[.agg #[.int .i64 k, .int .i64 p, .int .i64 v, .int .i64 g]] w fun e w' => e = .returned (.bool true) ∧ Below w.heap.size w w' := by
  go_enter Try.func3, Try.ntmps3
  go_wp2_with fail
  refine (toDeed_any _ _ _ _ _).mono ?_
  rintro e w1 ⟨rfl, k1⟩
  go_wp2_with fail
  refine (specDeedOk_any _ _ _ _ _).mono ?_
  rintro e w2 ⟨rfl, k2⟩
  have k12 := k1.trans k2
  obtain ⟨hs, c0, c1, c2, c3⟩ := box_deed k12
  go_wp2_with fail
  refine (toDeed_any _ _ _ _ _).mono ?_
  rintro e w3 ⟨rfl, k3⟩
  go_wp2_with fail
  refine (implDeedOk_any _ _ _ _ _).mono ?_
  rintro e w4 ⟨rfl, k4⟩
  have K4 : Keep w w4 := (((Keep.refl w).alloc _).trans k12).trans (k3.trans k4)
  cases hb : deedB k p v g
  all_goals
    go_wp2
    go_ret
    exact ⟨rfl, K4⟩

set_option maxRecDepth 100000 in
theorem lifted (os : Os) (started : os.Started) (H : Type) (enc : TypeId × Value → H) :
    ReturnsInHanded {} Try.checked os 3 .any (Rows.fnExactDeedOkSpec.pre6 enc Try.prog Try.f3 Rows.fnExactDeedOkRow.domain false) (Rows.fnExactDeedOkSpec.post enc Try.prog Try.f3 false true false false) := by
  refine returnsInHanded_of_change (C := Try.checked) own started (by kernel_rfl) Try.func3
    (ChangeSpec.witness6 (enc := enc) (C := Try.checked) false ⟨#[], #[.agg #[.int .i64 0, .int .i64 0, .int .i64 0, .int .i64 0]], []⟩ 8 (by kernel_rfl) (by kernel_rfl) (by kernel_rfl) (by kernel_rfl)) ?_
  intro W base args ds gs before hval0 hW hcnd _

  have hval : ∀ (j : Nat) t v, Try.f3.params[j]? = some t → args[j]? = some v → Value.okWide Try.prog W .any base t v := hval0
  have hW' := hW
  obtain ⟨p, q, hA0, hV, rfl, hfz, hnd⟩ := hW
  have hA : DataW.TrodAll enc Try.prog W 0 (fun _ => true) true Try.f3.params.toList args.toList ds p := hA0
  rw [Try.params3] at hA hval
  obtain ⟨v0, vs0, d0, ds0, p0, q0, hargs, rfl, rfl, h0, r0⟩ := trodAll_cons hA
  obtain ⟨rfl, rfl, rfl⟩ := trodAll_nil r0
  obtain rfl : args = #[v0] := by cases args; simp_all
  obtain ⟨rfl, rfl⟩ := trodVars_none hV
  have k0 := h0
  have lt0 : ∀ x ∈ p0, x.block < W.heap.size := by obtain ⟨m, hm⟩ := k0; exact DataW.trod_lt m _ _ _ hm
  obtain ⟨k, p, v, g, rfl, wk, wp, wv, wg⟩ := open_deed (hval 0 23 v0 rfl rfl) h0
  clear hA0 hval0
  refine (walk k p v g wk wp wv wg W).mono fun e W' ⟨he, bel⟩ => ?_
  subst he
  exact ⟨_, rfl, _, _, _, [], _, [], hW', trodAll_mk1 (shut_bool Try.underlying4 _), (trodAll_cons_mk (Below.trod laidOut (by kernel_rfl) (of_decide_eq_true (by kernel_rfl)) k0 bel lt0) trodAll_mk0), rfl, bel.frame _, fun h => by cases h⟩

theorem over : Rows.fnExactDeedOkRow.holds Try.pinned (OpenSpec.ofChange Rows.fnExactDeedOkSpec) :=
  OpenClaim.holds_of_wide 3 Try.f3 rfl rfl rfl rfl rfl rfl rfl ⟨rfl, rfl, rfl, rfl, rfl⟩ rfl rfl rfl rfl rfl (by kernel_rfl) Try.func3 (by kernel_rfl)
    (of_decide_eq_true (by kernel_rfl)) (by unfold Func.isWrapper; first | (rw [if_pos (by decide +kernel)]; kernel_rfl) | (rw [if_neg (by decide +kernel)]; exact ⟨rfl, rfl⟩))
    (fun os started H enc _ => lifted os started H enc)

#print axioms over
end Go.Proofs.Ytldpimmobolgaaa.fnExactDeedOk
namespace Go.Proofs.Ytldpimmobolgaaa
theorem fnExactDeedOk_holds : Rows.FnExactDeedOkSaid := fnExactDeedOk.over
end Go.Proofs.Ytldpimmobolgaaa
