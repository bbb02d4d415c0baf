/- At every number the program's Members answers as the specification's does, in new memory that is its own, also behind another call: the law FnExactMembers answers true and its argument stays; no condition. -/
import Derived.Test.YtmigdnceidbppagRows
import Derived.WalkKit
import Derived.ProofKit
import Derived.OpenShut
import Derived.ShutString
import Derived.Below
import Derived.Test.YtmigdnceidbppagMembers
import Derived.Test.YtmigdnceidbppagSlices
namespace Go.Proofs.Ytmigdnceidbppag.fnExactMembers
open Go.ChangeShapes Go.WideShapes Go.ChangeAt Go.RowKit
open Go.ChangeMaps (open_string shut_string)
set_option linter.unusedVariables false

theorem own : ownKnob Try.prog.godebug = none := by kernel_rfl

set_option maxHeartbeats 8000000 in
theorem walk (a0 : Int) (w0 : (Lit.int .i64 a0).wf = true) (w : World) :
    Calls Try.prog 5 #[.int .i64 a0] w fun e w' => e = .returned (.bool true) ∧ Below w.heap.size w w' := by
  have hml := mem_len a0 12
  go_enter Try.func5, Try.ntmps5
  go_wp2_with fail
  refine (specMembers_any _ _).mono ?_
  rintro e w1 ⟨v0, rfl, o0, k1⟩
  go_wp2_with fail
  refine (implMembers_any _ _).mono ?_
  rintro e w2 ⟨v1, rfl, o1, k2⟩
  have hne : v0.ownBlock = none ∨ v0.ownBlock ≠ v1.ownBlock := Own.apart o0 o1
  have z1 := k1.size
  have o0' := o0.keep k2
  clear o0
  go_wp2_with fail
  refine (eq_any _ _ _ _ _ o1.rd o0'.rd (by omega)).mono ?_
  rintro e w3 ⟨rfl, k3⟩
  have o0 := o0'.keep k3
  have o1' := o1.keep k3
  clear o0' o1
  go_wp2_with fail
  refine (mark_any _ _ _ _ _ o1' (by omega) (by omega) (by omega)).mono ?_
  rintro e w4 ⟨rfl, o1, g4⟩
  have K4 : Keep w w4 := ((k1.trans k2).trans k3).grown g4 (fun k hk => Nat.le_trans z1 (o1'.ge k hk))
  have o0' := o0.kept g4 hne
  clear o0 o1' g4 k1 k2 k3 hne
  go_wp2_with fail
  refine (held_any _ _ _ _ o1.rd (by omega) (by omega) (by omega)).mono ?_
  rintro e w5 ⟨rfl, k5⟩
  have o0 := o0'.keep k5
  have o1' := o1.keep k5
  clear o0' o1
  go_wp2_with fail
  refine (implMembers_any _ _).mono ?_
  rintro e w6 ⟨v2, rfl, o2, k6⟩
  have o0' := o0.keep k6
  have o1 := o1'.keep k6
  clear o0 o1'
  go_wp2_with fail
  refine (eq_any _ _ _ _ _ o2.rd o0'.rd (by omega)).mono ?_
  rintro e w7 ⟨rfl, k7⟩
  have o1' := o1.keep k7
  clear o0' o1
  go_wp2_with fail
  refine (held_any _ _ _ _ o1'.rd (by omega) (by omega) (by omega)).mono ?_
  rintro e w8 ⟨rfl, k8⟩
  go_wp2
  go_ret
  exact ⟨rfl, (((K4.trans k5).trans k6).trans k7).trans k8⟩

set_option maxRecDepth 100000 in
theorem lifted (os : Os) (started : os.Started) (H : Type) (enc : TypeId × Value → H) :
    ReturnsInHanded {} Try.checked os 5 .any (Rows.fnExactMembersSpec.pre6 enc Try.prog Try.f5 Rows.fnExactMembersRow.domain false) (Rows.fnExactMembersSpec.post enc Try.prog Try.f5 false true false false) := by
  refine returnsInHanded_of_change (C := Try.checked) own started (by kernel_rfl) Try.func5
    (ChangeSpec.witness6 (enc := enc) (C := Try.checked) false ⟨#[], #[.int .i64 0], []⟩ 8 (by kernel_rfl) (by kernel_rfl) (by kernel_rfl) (by kernel_rfl)) ?_
  intro W base args ds gs before hval0 hW hcnd _
  have hval : ∀ (j : Nat) t v, Try.f5.params[j]? = some t → args[j]? = some v → Value.okWide Try.prog W .any base t v := hval0
  have hW' := hW
  obtain ⟨p, q, hA0, hV, rfl, hfz, hnd⟩ := hW
  have hA : DataW.TrodAll enc Try.prog W 0 (fun _ => true) true Try.f5.params.toList args.toList ds p := hA0
  rw [Try.params5] at hA hval
  obtain ⟨v0, vs0, d0, ds0, p0, q0, hargs, rfl, rfl, h0, r0⟩ := trodAll_cons hA
  obtain ⟨rfl, rfl, rfl⟩ := trodAll_nil r0
  obtain rfl : args = #[v0] := by cases args; simp_all
  obtain ⟨rfl, rfl⟩ := trodVars_none hV
  obtain ⟨a0, rfl, rfl, rfl, w0⟩ := open_int Try.underlying2 (hval 0 2 v0 rfl rfl) h0
  clear hA0 hval0
  simp only [List.append_nil] at hW'
  refine (walk a0 w0 W).mono fun e W' ⟨he, hg⟩ => ?_
  subst he
  exact ⟨_, rfl, _, _, _, [], [], [], hW', trodAll_mk1 (shut_bool Try.underlying4 _), (trodAll_cons_mk (shut_int Try.underlying2 w0) trodAll_mk0), rfl, hg.frame _, fun h => by cases h⟩

theorem over : Rows.fnExactMembersRow.holds Try.pinned (OpenSpec.ofChange Rows.fnExactMembersSpec) :=
  OpenClaim.holds_of_wide 5 Try.f5 rfl rfl rfl rfl rfl rfl rfl ⟨rfl, rfl, rfl, rfl, rfl⟩ rfl rfl rfl rfl rfl (by kernel_rfl) Try.func5 (by kernel_rfl)
    (of_decide_eq_true (by kernel_rfl)) (by unfold Func.isWrapper; first | (rw [if_pos (by decide +kernel)]; kernel_rfl) | (rw [if_neg (by decide +kernel)]; exact ⟨rfl, rfl⟩))
    (fun os started H enc _ => lifted os started H enc)

theorem proved : Rows.FnExactMembersSaid :=
  over
#print axioms proved
end Go.Proofs.Ytmigdnceidbppag.fnExactMembers
namespace Go.Proofs.Ytmigdnceidbppag
theorem fnExactMembers_holds : Rows.FnExactMembersSaid := fnExactMembers.proved
end Go.Proofs.Ytmigdnceidbppag
