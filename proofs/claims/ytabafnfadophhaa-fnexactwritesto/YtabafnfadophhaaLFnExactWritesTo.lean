/- At every list of events and every place the program's WritesTo answers as the specification's does, in memory of its own, and writes into no argument: the law FnExactWritesTo answers true and its argument stays. -/
import Derived.Test.YtabafnfadophhaaRows
import Derived.WalkKit
import Derived.ProofKit
import Derived.OpenShut
import Derived.ShutString
import Derived.ChangeOld
import Derived.Below
import Derived.Test.YtabafnfadophhaaEvOpen
import Derived.Test.YtabafnfadophhaaWritesToI
import Derived.Test.YtabafnfadophhaaWritesToS
import Derived.Test.YtabafnfadophhaaEvTo
import Derived.Test.YtabafnfadophhaaEvEq
import Derived.Test.YtabafnfadophhaaEvMark
import Derived.Test.YtabafnfadophhaaEvLen
import Derived.Test.YtabafnfadophhaaSlicesA
namespace Go.Proofs.Ytabafnfadophhaa.fnExactWritesTo
open Go.ChangeShapes Go.WideShapes Go.ChangeAt Go.RowKit
open Go.ChangeMaps (open_string shut_string)
set_option linter.unusedVariables false

theorem own : ownKnob Try.prog.godebug = none := by kernel_rfl
theorem laidOut : laidOutB Try.prog = true := by kernel_rfl

set_option maxHeartbeats 8000000 in
theorem walk (v : Value) (es : List Ev) (p : Int) (w : World) (hr : RdE w v es) (hl : es.length ≤ maxLen) :
    Calls Try.prog 6 #[v, .int .i64 p] w fun e w' => e = .returned (.bool true) ∧ Below w.heap.size w w' := by
  by_cases hle : (es.length : Int) ≤ 1048576
  · have S := szE_any w v es hr 1048576 (by omega) (by omega) hl
    rw [if_pos hle] at S
    have hx : es.length ≤ 1048576 := by omega
    have gl : (idxB (toE p) es).length ≤ 12 := idxB_len (toE p) es
    clear hl
    generalize hL : (idxB (toE p) es) = L at gl
    have HL := Lib.hid hL
    clear hL
    generalize hR : (1048576 : Int) - es.length = left at S
    have hR0 : 0 ≤ left := by omega
    clear hR
    go_enter Try.func6, Try.ntmps6
    go_wp2_with fail
    refine S.mono ?_
    rintro e w1 ⟨rfl, rfl⟩
    clear S
    go_wp2_with fail
    refine (toE_any _ _ _ hr hx).mono ?_
    rintro e w2 ⟨v2, rfl, o2, k2⟩
    go_wp2_with fail
    refine (specWritesTo_any _ _ _ p o2.rd hx).mono ?_
    rw [HL.out]
    rintro e w3 ⟨v3, rfl, o3, k3⟩
    have K3 := k2.trans k3
    go_wp2_with fail
    refine (toE_any _ _ _ (hr.keep K3) hx).mono ?_
    rintro e w4 ⟨v4, rfl, o4, k4⟩
    go_wp2_with fail
    refine (implWritesTo_any _ _ _ o4.rd hx p).mono ?_
    rw [HL.out]
    rintro e w5 ⟨v5, rfl, o5, k5⟩
    have K5 := (K3.trans k4).trans k5
    go_wp2_with fail
    refine (eq_any _ _ _ _ _ o5.rd (o3.rd.keep (k4.trans k5)) (by omega)).mono ?_
    rintro e w6 ⟨rfl, k6⟩
    have K6 := K5.trans k6
    go_wp2_with fail
    refine (toE_any _ _ _ (hr.keep K6) hx).mono ?_
    rintro e w7 ⟨v7, rfl, o7, k7⟩
    have K7 := K6.trans k7
    go_wp2_with fail
    refine (eqE_same _ _ _ _ (o4.rd.keep (k5.trans (k6.trans k7))) o7.rd hx).mono ?_
    rintro e w8 ⟨rfl, k8⟩
    have K8 := K7.trans k8
    have K48 : Keep w4 w8 := (k5.trans k6).trans (k7.trans k8)
    have K58 : Keep w5 w8 := k6.trans (k7.trans k8)
    have K38 : Keep w3 w8 := k4.trans K48
    have o48 := o4.keep K48
    have o58 := o5.keep K58
    have A45 : v5.ownBlock = none ∨ v5.ownBlock ≠ v4.ownBlock := apart_of (fun k hk => (o4.lt k hk).2) (fun k hk => o5.ge k hk)
    have s3 := K3.size
    go_wp2_with fail
    refine (markE_any _ _ _ _ _ o48 hx (by omega) (by omega)).mono ?_
    rintro e w9 ⟨rfl, -, k9⟩
    have K9 := K8.grown k9 (fun k hk => Nat.le_trans s3 (o48.ge k hk))
    have K39 : Keep w3 w9 := K38.grown k9 (fun k hk => o48.ge k hk)
    have o59 := o58.kept k9 A45
    have dk : ¬ ((1 : Int) + 6 * es.length < 0) := by omega
    clear o48 o58 K38 K48 K58 k9 A45
    go_wp2_with fail
    refine (eq_any _ _ _ _ _ o59.rd (o3.rd.keep K39) (by omega)).mono ?_
    rintro e w10 ⟨rfl, k10⟩
    have oA := o59.keep k10
    go_wp2_with fail
    refine (mark_any _ _ _ _ _ oA (by omega) (by omega) (by omega)).mono ?_
    rintro e w11 ⟨rfl, o11, k11⟩
    have z34 := k4.size
    have K11 := (K9.trans k10).grown k11 (fun k hk => Nat.le_trans (Nat.le_trans s3 z34) (oA.ge k hk))
    have K311 := (K39.trans k10).grown k11 (fun k hk => Nat.le_trans z34 (oA.ge k hk))
    clear k11 oA
    go_wp2_with fail
    refine (held_any _ _ _ _ o11.rd (by omega) (by omega) (by omega)).mono ?_
    rintro e w12 ⟨rfl, k12⟩
    have K12 := K11.trans k12
    have nq : ((1 : Int) + L.length != 1 + L.length) = false := by simp
    have dq : ¬ ((1 : Int) + L.length < 0) := by omega
    go_wp2_with fail
    refine (toE_any _ _ _ (hr.keep K12) hx).mono ?_
    rintro e w13 ⟨v13, rfl, o13, k13⟩
    go_wp2_with fail
    refine (implWritesTo_any _ _ _ o13.rd hx p).mono ?_
    rw [HL.out]
    rintro e w14 ⟨v14, rfl, o14, k14⟩
    have K1114 := k12.trans (k13.trans k14)
    go_wp2_with fail
    refine (eq_any _ _ _ _ _ o14.rd (o3.rd.keep (K311.trans K1114)) (by omega)).mono ?_
    rintro e w15 ⟨rfl, k15⟩
    go_wp2_with fail
    refine (held_any _ _ _ _ (o11.rd.keep (K1114.trans k15)) (by omega) (by omega) (by omega)).mono ?_
    rintro e w16 ⟨rfl, k16⟩
    go_wp2
    go_ret
    exact ⟨rfl, ((K11.trans K1114).trans k15).trans k16⟩
  · have S := szE_any w v es hr 1048576 (by omega) (by omega) hl
    rw [if_neg hle] at S
    go_enter Try.func6, Try.ntmps6
    go_wp2_with fail
    refine S.mono ?_
    rintro e w1 ⟨rfl, rfl⟩
    go_wp2
    go_ret
    exact ⟨rfl, Below.refl _ _⟩

set_option maxRecDepth 100000 in
theorem lifted (os : Os) (started : os.Started) (H : Type) (enc : TypeId × Value → H) :
    ReturnsInHanded {} Try.checked os 6 .any (Rows.fnExactWritesToSpec.pre6 enc Try.prog Try.f6 Rows.fnExactWritesToRow.domain false) (Rows.fnExactWritesToSpec.post enc Try.prog Try.f6 false true false false) := by
  refine returnsInHanded_of_change (C := Try.checked) own started (by kernel_rfl) Try.func6
    (ChangeSpec.witness6 (enc := enc) (C := Try.checked) false ⟨#[], #[.slice none 0 0, .int .i64 0], []⟩ 8 (by kernel_rfl) (by kernel_rfl) (by kernel_rfl) (by kernel_rfl)) ?_
  intro W base args ds gs before hval0 hW hcnd _

  have hval : ∀ (j : Nat) t v, Try.f6.params[j]? = some t → args[j]? = some v → Value.okWide Try.prog W .any base t v := hval0
  have hW' := hW
  obtain ⟨p, q, hA0, hV, rfl, hfz, hnd⟩ := hW
  have hA : DataW.TrodAll enc Try.prog W 0 (fun _ => true) true Try.f6.params.toList args.toList ds p := hA0
  rw [Try.params6] at hA hval
  obtain ⟨v0, vs0, d0, ds0, p0, q0, hargs, rfl, rfl, h0, r0⟩ := trodAll_cons hA
  obtain ⟨v1, vs1, d1, ds1, p1, q1, rfl, rfl, rfl, h1, r1⟩ := trodAll_cons r0
  obtain ⟨rfl, rfl, rfl⟩ := trodAll_nil r1
  obtain rfl : args = #[v0, v1] := by cases args; simp_all
  obtain ⟨rfl, rfl⟩ := trodVars_none hV
  have k0 := h0
  have lt0 : ∀ x ∈ p0, x.block < W.heap.size := by obtain ⟨m, hm⟩ := k0; exact DataW.trod_lt m _ _ _ hm
  obtain ⟨es, hr, hl⟩ := open_events (hval 0 51 v0 rfl rfl) h0
  obtain ⟨p, rfl⟩ := okWide_int Try.underlying2 (hval 1 2 v1 rfl rfl)
  have k1 := h1
  have lt1 : ∀ x ∈ p1, x.block < W.heap.size := by obtain ⟨m, hm⟩ := k1; exact DataW.trod_lt m _ _ _ hm
  clear hA0 hval0
  refine (walk v0 es p W hr hl).mono fun e W' ⟨he, bel⟩ => ?_
  subst he
  exact ⟨_, rfl, _, _, _, [], _, [], hW', trodAll_mk1 (shut_bool Try.underlying4 _), (trodAll_cons_mk (Below.trod laidOut (by kernel_rfl) (of_decide_eq_true (by kernel_rfl)) k0 bel lt0) (trodAll_cons_mk (Below.trod laidOut (by kernel_rfl) (of_decide_eq_true (by kernel_rfl)) k1 bel lt1) trodAll_mk0)), rfl, bel.frame _, fun h => by cases h⟩

theorem over : Rows.fnExactWritesToRow.holds Try.pinned (OpenSpec.ofChange Rows.fnExactWritesToSpec) :=
  OpenClaim.holds_of_wide 6 Try.f6 rfl rfl rfl rfl rfl rfl rfl ⟨rfl, rfl, rfl, rfl, rfl⟩ rfl rfl rfl rfl rfl (by kernel_rfl) Try.func6 (by kernel_rfl)
    (of_decide_eq_true (by kernel_rfl)) (by unfold Func.isWrapper; first | (rw [if_pos (by decide +kernel)]; kernel_rfl) | (rw [if_neg (by decide +kernel)]; exact ⟨rfl, rfl⟩))
    (fun os started H enc _ => lifted os started H enc)

#print axioms over
end Go.Proofs.Ytabafnfadophhaa.fnExactWritesTo
namespace Go.Proofs.Ytabafnfadophhaa
theorem fnExactWritesTo_holds : Rows.FnExactWritesToSaid := fnExactWritesTo.over
end Go.Proofs.Ytabafnfadophhaa
