/- At every list of lists of deeds the program's Waited answers as the specification's does, in memory of its own, and writes into no argument: the law FnExactWaited answers true and its argument stays. -/
import Derived.Test.YtljamlgnobpjeabRows
import Derived.WalkKit
import Derived.ProofKit
import Derived.OpenShut
import Derived.ShutString
import Derived.ChangeOld
import Derived.Below
import Derived.Test.YtljamlgnobpjeabWorks
import Derived.Test.YtljamlgnobpjeabWaitI
import Derived.Test.YtljamlgnobpjeabWaitLaw
import Derived.Test.YtljamlgnobpjeabWaitS
import Derived.Test.YtljamlgnobpjeabWorkTo
import Derived.Test.YtljamlgnobpjeabWorkEq
import Derived.Test.YtljamlgnobpjeabWorkMark
namespace Go.Proofs.Ytljamlgnobpjeab.fnExactWaited
open Go.ChangeShapes Go.WideShapes Go.ChangeAt Go.RowKit
open Go.ChangeMaps (open_string shut_string)
set_option linter.unusedVariables false

theorem own : ownKnob Try.prog.godebug = none := by kernel_rfl
theorem laidOut : laidOutB Try.prog = true := by kernel_rfl

set_option maxHeartbeats 8000000 in
theorem walk (v : Value) (dss : List (List Dd)) (w : World) (hr : RdW w v dss) (hl : dss.length ≤ maxLen) (hls : ∀ i, i < dss.length → (dss.getD i []).length ≤ maxLen) :
    Calls Try.prog 3 #[v] w fun e w' => e = .returned (.bool true) ∧ Below w.heap.size w w' := by
  go_enter Try.func3, Try.ntmps3
  go_wp2_with fail
  refine (szW_any _ _ _ hr _ (by omega) (by omega) hl hls).mono ?_
  rintro e w1 ⟨r, rfl, rfl, hd⟩
  by_cases hneg : r < 0
  · go_wp2
    go_ret
    exact ⟨rfl, Below.refl _ _⟩
  · have hsum : (dss.length + lenW dss : Int) ≤ 1048576 := hd.resolve_left hneg
    have hge : (0 : Int) ≤ r := by omega
    have l1 : dss.length ≤ 1048576 := by omega
    have l2 : ∀ i, i < dss.length → (dss.getD i []).length ≤ 1048576 := fun i hi => by have := lenW_get dss i hi; omega
    have s1 : lenW dss ≤ 1048576 := by omega
    have HL : ∀ x : List (List Dd), Hid (likeW x x = true) := fun x => Lib.hid (by unfold likeW; simp)
    obtain ⟨g1, g3, g2⟩ := waitB_small dss
    clear hd hneg hsum hl hls
    go_wp2_with fail
    refine (toW_any _ _ _ hr l1 l2).mono ?_
    rintro e w2 ⟨v2, rfl, o2, k2⟩
    go_wp2_with fail
    refine (specWaited_any _ _ _ o2.rd l1 l2).mono ?_
    rintro e w3 ⟨v3, rfl, o3, k3⟩
    have K3 := k2.trans k3
    go_wp2_with fail
    refine (toW_any _ _ _ (hr.keep K3) l1 l2).mono ?_
    rintro e w4 ⟨v4, rfl, o4, k4⟩
    go_wp2_with fail
    refine (implWaited_any _ _ _ o4.rd l1 l2).mono ?_
    rintro e w5 ⟨v5, rfl, o5, k5⟩
    have K5 := (K3.trans k4).trans k5
    go_wp2_with fail
    refine (eqW_any _ _ _ _ _ o5.rd (o3.rd.keep (k4.trans k5)) g1 g2).mono ?_
    rw [(HL _).out]
    rintro e w6 ⟨rfl, k6⟩
    have K6 := K5.trans k6
    go_wp2_with fail
    refine (toW_any _ _ _ (hr.keep K6) l1 l2).mono ?_
    rintro e w7 ⟨v7, rfl, o7, k7⟩
    have K7 := K6.trans k7
    go_wp2_with fail
    refine (eqW_any _ _ _ _ _ (o4.rd.keep (k5.trans (k6.trans k7))) o7.rd l1 l2).mono ?_
    rw [(HL _).out]
    rintro e w8 ⟨rfl, k8⟩
    have K8 := K7.trans k8
    have K48 : Keep w4 w8 := (k5.trans k6).trans (k7.trans k8)
    have K58 : Keep w5 w8 := k6.trans (k7.trans k8)
    have K38 : Keep w3 w8 := k4.trans K48
    go_wp2_with fail
    refine (markW_any w8 w4 w3.heap.size _ _ dss o4 (fun b _ hb => Below.block K48 b hb) l1 s1 (by omega) (by omega)).mono ?_
    rintro e w9 ⟨rfl, -, k9⟩
    have K9 := K8.only k9 K3.size
    have K39 := K38.only k9 (Nat.le_refl _)
    have o59 := (o5.keep K58).only k9 (Nat.le_refl _)
    have s59 : ∀ b, w4.heap.size ≤ b → b < w5.heap.size → w9.heap[b]? = w5.heap[b]? := fun b hb1 hb2 => (k9.block b (Nat.lt_of_lt_of_le hb2 K58.size) (.inr hb1)).trans (Below.block K58 b hb2)
    have dk : ¬ ((1 : Int) + 4 * lenW dss < 0) := by omega
    go_wp2_with fail
    refine (eqW_any _ _ _ _ _ o59.rd (o3.rd.keep K39) g1 g2).mono ?_
    rw [(HL _).out]
    rintro e w10 ⟨rfl, k10⟩
    go_wp2_with fail
    refine (markW_any w10 w5 w4.heap.size _ _ (waitB dss) o5 (fun b hb1 hb2 => (Below.block k10 b (Nat.lt_of_lt_of_le (Nat.lt_of_lt_of_le hb2 K58.size) k9.size)).trans (s59 b hb1 hb2)) g1 g3 (by omega) (by omega)).mono ?_
    rintro e w11 ⟨rfl, o11, k11⟩
    have z34 := k4.size
    have K11 := (K9.trans k10).only k11 (Nat.le_trans K3.size z34)
    have K311 := (K39.trans k10).only k11 z34
    go_wp2_with fail
    refine (heldW_any _ _ _ _ o11.rd g1 g3 (by omega) (by omega)).mono ?_
    rintro e w12 ⟨rfl, k12⟩
    have K12 := K11.trans k12
    have nq : ((1 : Int) + 4 * lenW (waitB dss) != 1 + 4 * lenW (waitB dss)) = false := by simp
    have dq : ¬ ((1 : Int) + 4 * lenW (waitB dss) < 0) := by omega
    go_wp2_with fail
    refine (toW_any _ _ _ (hr.keep K12) l1 l2).mono ?_
    rintro e w13 ⟨v13, rfl, o13, k13⟩
    go_wp2_with fail
    refine (implWaited_any _ _ _ o13.rd l1 l2).mono ?_
    rintro e w14 ⟨v14, rfl, o14, k14⟩
    have K1114 := k12.trans (k13.trans k14)
    go_wp2_with fail
    refine (eqW_any _ _ _ _ _ o14.rd (o3.rd.keep (K311.trans K1114)) g1 g2).mono ?_
    rw [(HL _).out]
    rintro e w15 ⟨rfl, k15⟩
    go_wp2_with fail
    refine (heldW_any _ _ _ _ (o11.rd.keep (K1114.trans k15)) g1 g3 (by omega) (by omega)).mono ?_
    rintro e w16 ⟨rfl, k16⟩
    go_wp2
    go_ret
    exact ⟨rfl, ((K11.trans K1114).trans k15).trans k16⟩

set_option maxRecDepth 100000 in
theorem lifted (os : Os) (started : os.Started) (H : Type) (enc : TypeId × Value → H) :
    ReturnsInHanded {} Try.checked os 3 .any (Rows.fnExactWaitedSpec.pre6 enc Try.prog Try.f3 Rows.fnExactWaitedRow.domain false) (Rows.fnExactWaitedSpec.post enc Try.prog Try.f3 false true false false) := by
  refine returnsInHanded_of_change (C := Try.checked) own started (by kernel_rfl) Try.func3
    (ChangeSpec.witness6 (enc := enc) (C := Try.checked) false ⟨#[], #[.slice none 0 0], []⟩ 8 (by kernel_rfl) (by kernel_rfl) (by kernel_rfl) (by kernel_rfl)) ?_
  intro W base args ds gs before hval0 hW hcnd _

  have hval : ∀ (j : Nat) t v, Try.f3.params[j]? = some t → args[j]? = some v → Value.okWide Try.prog W .any base t v := hval0
  have hW' := hW
  obtain ⟨p, q, hA0, hV, rfl, hfz, hnd⟩ := hW
  have hA : DataW.TrodAll enc Try.prog W 0 (fun _ => true) true Try.f3.params.toList args.toList ds p := hA0
  rw [Try.params3] at hA hval
  obtain ⟨v0, vs0, d0, ds0, p0, q0, hargs, rfl, rfl, h0, r0⟩ := trodAll_cons hA
  obtain ⟨rfl, rfl, rfl⟩ := trodAll_nil r0
  obtain rfl : args = #[v0] := by cases args; simp_all
  obtain ⟨rfl, rfl⟩ := trodVars_none hV
  have k0 := h0
  have lt0 : ∀ x ∈ p0, x.block < W.heap.size := by obtain ⟨m, hm⟩ := k0; exact DataW.trod_lt m _ _ _ hm
  obtain ⟨dss, hr, hl, hls⟩ := open_work (hval 0 22 v0 rfl rfl) h0
  clear hA0 hval0
  refine (walk v0 dss W hr hl hls).mono fun e W' ⟨he, bel⟩ => ?_
  subst he
  exact ⟨_, rfl, _, _, _, [], _, [], hW', trodAll_mk1 (shut_bool Try.underlying4 _), (trodAll_cons_mk (Below.trod laidOut (by kernel_rfl) (of_decide_eq_true (by kernel_rfl)) k0 bel lt0) trodAll_mk0), rfl, bel.frame _, fun h => by cases h⟩

theorem over : Rows.fnExactWaitedRow.holds Try.pinned (OpenSpec.ofChange Rows.fnExactWaitedSpec) :=
  OpenClaim.holds_of_wide 3 Try.f3 rfl rfl rfl rfl rfl rfl rfl ⟨rfl, rfl, rfl, rfl, rfl⟩ rfl rfl rfl rfl rfl (by kernel_rfl) Try.func3 (by kernel_rfl)
    (of_decide_eq_true (by kernel_rfl)) (by unfold Func.isWrapper; first | (rw [if_pos (by decide +kernel)]; kernel_rfl) | (rw [if_neg (by decide +kernel)]; exact ⟨rfl, rfl⟩))
    (fun os started H enc _ => lifted os started H enc)

#print axioms over
end Go.Proofs.Ytljamlgnobpjeab.fnExactWaited
namespace Go.Proofs.Ytljamlgnobpjeab
theorem fnExactWaited_holds : Rows.FnExactWaitedSaid := fnExactWaited.over
end Go.Proofs.Ytljamlgnobpjeab
