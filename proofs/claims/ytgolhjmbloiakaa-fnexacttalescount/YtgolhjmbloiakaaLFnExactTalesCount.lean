/- At every list of lists of deeds the program's TalesCount answers as the specification's does: the law FnExactTalesCount answers true and its argument stays. -/
import Derived.Test.YtgolhjmbloiakaaRows
import Derived.WalkKit
import Derived.ProofKit
import Derived.OpenShut
import Derived.ShutString
import Derived.ChangeOld
import Derived.Below
import Derived.Test.YtgolhjmbloiakaaMA
import Derived.Test.YtgolhjmbloiakaaTcI
import Derived.Test.YtgolhjmbloiakaaTaleAtS
import Derived.Test.YtgolhjmbloiakaaWorkTo
import Derived.Test.YtgolhjmbloiakaaWorkEq
namespace Go.Proofs.Ytgolhjmbloiakaa.fnExactTalesCount
open Go.ChangeShapes Go.WideShapes Go.ChangeAt Go.RowKit
open Go.ChangeMaps (open_string shut_string)
set_option linter.unusedVariables false

theorem own : ownKnob Try.prog.godebug = none := by kernel_rfl
theorem laidOut : laidOutB Try.prog = true := by kernel_rfl

set_option maxHeartbeats 8000000 in
theorem walk (v : Value) (dss : List (List Dd)) (w : World) (hr : RdW w v dss) (hl : dss.length ≤ maxLen) (hls : ∀ i, i < dss.length → (dss.getD i []).length ≤ maxLen) :
    Calls Try.prog 7 #[v] w fun e w' => e = .returned (.bool true) ∧ Below w.heap.size w w' := by
  go_enter Try.func7, Try.ntmps7
  go_wp2_with fail
  refine (szW_any _ _ _ hr _ (by omega) (by omega) hl hls).mono ?_
  rintro e w0 ⟨r, rfl, rfl, hd⟩
  by_cases hneg : r < 0
  · go_wp2
    go_ret
    exact ⟨rfl, Below.refl _ _⟩
  · have hsum : (dss.length + lenW dss : Int) ≤ 1048576 := hd.resolve_left hneg
    have hge : (0 : Int) ≤ r := by omega
    have l1 : dss.length ≤ 1048576 := by omega
    have l2 : ∀ i, i < dss.length → (dss.getD i []).length ≤ 1048576 := fun i hi => by have := lenW_get dss i hi; omega
    have s1 : lenW dss ≤ 1048576 := by omega
    have HL : Hid (likeW dss dss = true) := Lib.hid (by unfold likeW; simp)
    clear hd hneg hsum hl hls
    obtain ⟨L, hL⟩ : ∃ L, L = tcB dss := ⟨_, rfl⟩
    have HE := Lib.hid hL
    clear hL
    go_wp2_with fail
    refine (toW_any _ _ _ hr l1 l2).mono ?_
    rintro e w1 ⟨v1, rfl, o1, k1⟩
    replace hr := hr.keep k1
    have K1 := k1
    go_wp2_with fail
    refine (specTalesCount_any _ _ _ o1.rd l1 l2).mono ?_
    rw [← HE.out]
    rintro e w2 ⟨rfl, k2⟩
    replace hr := hr.keep k2
    have K2 := K1.trans k2
    go_wp2_with fail
    refine (toW_any _ _ _ hr l1 l2).mono ?_
    rintro e w3 ⟨v3, rfl, ox, k3⟩
    replace hr := hr.keep k3
    have K3 := K2.trans k3
    have rx := ox.rd
    have kx := Keep.refl w3
    go_wp2_with fail
    refine (implTalesCount_any _ _ _ rx l1 l2).mono ?_
    rw [← HE.out]
    rintro e w4 ⟨rfl, k4⟩
    replace hr := hr.keep k4
    replace rx := rx.keep k4
    have K4 := K3.trans k4
    replace kx := kx.trans k4
    have eb : (L != L) = false := by simp
    go_wp2_with fail
    refine (toW_any _ _ _ hr l1 l2).mono ?_
    rintro e w5 ⟨v5, rfl, oz, k5⟩
    replace hr := hr.keep k5
    replace rx := rx.keep k5
    have K5 := K4.trans k5
    replace kx := kx.trans k5
    go_wp2_with fail
    refine (eqW_any _ _ _ _ _ rx oz.rd l1 l2).mono ?_
    rw [HL.out]
    rintro e w6 ⟨rfl, k6⟩
    replace hr := hr.keep k6
    replace rx := rx.keep k6
    have K6 := K5.trans k6
    replace kx := kx.trans k6
    go_wp2
    go_ret
    exact ⟨rfl, K6⟩

set_option maxRecDepth 100000 in
theorem lifted (os : Os) (started : os.Started) (H : Type) (enc : TypeId × Value → H) :
    ReturnsInHanded {} Try.checked os 7 .any (Rows.fnExactTalesCountSpec.pre6 enc Try.prog Try.f7 Rows.fnExactTalesCountRow.domain false) (Rows.fnExactTalesCountSpec.post enc Try.prog Try.f7 false true false false) := by
  refine returnsInHanded_of_change (C := Try.checked) own started (by kernel_rfl) Try.func7
    (ChangeSpec.witness6 (enc := enc) (C := Try.checked) false ⟨#[], #[.slice none 0 0], []⟩ 8 (by kernel_rfl) (by kernel_rfl) (by kernel_rfl) (by kernel_rfl)) ?_
  intro W base args ds gs before hval0 hW hcnd _

  have hval : ∀ (j : Nat) t v, Try.f7.params[j]? = some t → args[j]? = some v → Value.okWide Try.prog W .any base t v := hval0
  have hW' := hW
  obtain ⟨p, q, hA0, hV, rfl, hfz, hnd⟩ := hW
  have hA : DataW.TrodAll enc Try.prog W 0 (fun _ => true) true Try.f7.params.toList args.toList ds p := hA0
  rw [Try.params7] at hA hval
  obtain ⟨v0, vs0, d0, ds0, p0, q0, hargs, rfl, rfl, h0, r0⟩ := trodAll_cons hA
  obtain ⟨rfl, rfl, rfl⟩ := trodAll_nil r0
  obtain rfl : args = #[v0] := by cases args; simp_all
  obtain ⟨rfl, rfl⟩ := trodVars_none hV
  have k0 := h0
  have lt0 : ∀ x ∈ p0, x.block < W.heap.size := by obtain ⟨m, hm⟩ := k0; exact DataW.trod_lt m _ _ _ hm
  obtain ⟨dss, hr, hl, hls⟩ := open_work (hval 0 38 v0 rfl rfl) h0
  clear hA0 hval0
  refine (walk v0 dss W hr hl hls).mono fun e W' ⟨he, bel⟩ => ?_
  subst he
  exact ⟨_, rfl, _, _, _, [], _, [], hW', trodAll_mk1 (shut_bool Try.underlying4 _), (trodAll_cons_mk (Below.trod laidOut (by kernel_rfl) (of_decide_eq_true (by kernel_rfl)) k0 bel lt0) trodAll_mk0), rfl, bel.frame _, fun h => by cases h⟩

theorem over : Rows.fnExactTalesCountRow.holds Try.pinned (OpenSpec.ofChange Rows.fnExactTalesCountSpec) :=
  OpenClaim.holds_of_wide 7 Try.f7 rfl rfl rfl rfl rfl rfl rfl ⟨rfl, rfl, rfl, rfl, rfl⟩ rfl rfl rfl rfl rfl (by kernel_rfl) Try.func7 (by kernel_rfl)
    (of_decide_eq_true (by kernel_rfl)) (by unfold Func.isWrapper; first | (rw [if_pos (by decide +kernel)]; kernel_rfl) | (rw [if_neg (by decide +kernel)]; exact ⟨rfl, rfl⟩))
    (fun os started H enc _ => lifted os started H enc)

#print axioms over
end Go.Proofs.Ytgolhjmbloiakaa.fnExactTalesCount
namespace Go.Proofs.Ytgolhjmbloiakaa
theorem fnExactTalesCount_holds : Rows.FnExactTalesCountSaid := fnExactTalesCount.over
end Go.Proofs.Ytgolhjmbloiakaa
