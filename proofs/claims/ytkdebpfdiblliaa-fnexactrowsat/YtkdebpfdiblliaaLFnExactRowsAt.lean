/- At every list of lists of deeds and every number the program's RowsAt answers as the specification's does, in memory of its own, and writes into no argument: the law FnExactRowsAt answers true and its argument stays. -/
import Derived.Test.YtkdebpfdiblliaaRows
import Derived.WalkKit
import Derived.ProofKit
import Derived.OpenShut
import Derived.ShutString
import Derived.ChangeOld
import Derived.Below
import Derived.Test.YtkdebpfdiblliaaWorks
import Derived.Test.YtkdebpfdiblliaaRowsI
import Derived.Test.YtkdebpfdiblliaaRowsS
import Derived.Test.YtkdebpfdiblliaaRowsLen
import Derived.Test.YtkdebpfdiblliaaWorkTo
import Derived.Test.YtkdebpfdiblliaaWorkEq
import Derived.Test.YtkdebpfdiblliaaWorkMark
import Derived.Test.YtkdebpfdiblliaaMarkRow
import Derived.Test.YtkdebpfdiblliaaRowOnly
import Derived.Test.YtkdebpfdiblliaaEvLen
import Derived.Test.YtkdebpfdiblliaaSlicesA
namespace Go.Proofs.Ytkdebpfdiblliaa.fnExactRowsAt
open Go.ChangeShapes Go.WideShapes Go.ChangeAt Go.RowKit
open Go.ChangeMaps (open_string shut_string)
set_option linter.unusedVariables false

theorem own : ownKnob Try.prog.godebug = none := by kernel_rfl
theorem laidOut : laidOutB Try.prog = true := by kernel_rfl

set_option maxHeartbeats 8000000 in
theorem walk (v : Value) (dss : List (List Dd)) (p : Int) (w : World) (hr : RdW w v dss) (hl : dss.length ≤ maxLen) (hls : ∀ i, i < dss.length → (dss.getD i []).length ≤ maxLen) :
    Calls Try.prog 6 #[v, .int .i64 p] w fun e w' => e = .returned (.bool true) ∧ Below w.heap.size w w' := by
  go_enter Try.func6, Try.ntmps6
  go_wp2_with fail
  refine (szW_any _ _ _ hr _ (by omega) (by omega) hl hls).mono ?_
  rintro e w0 ⟨r, rfl, rfl, hd⟩
  by_cases hneg : r < 0
  · go_wp2
    go_ret
    exact ⟨rfl, Below.refl _ _⟩
  · have hsum : (dss.length + lenW dss : Int) ≤ 1048576 := hd.resolve_left hneg
    have hge : (0 : Int) ≤ r := by omega
    have l1 : dss.length ≤ 1048576 := by omega
    have l2 : ∀ i, i < dss.length → (dss.getD i []).length ≤ 1048576 := fun i hi => by have := lenW_get dss i hi; omega
    have s1 : lenW dss ≤ 1048576 := by omega
    have HL : Hid (likeW dss dss = true) := Lib.hid (by unfold likeW; simp)
    clear hd hneg hsum hl hls
    have HR0 := Lib.hid hr
    have g1 : (ratB dss p).length ≤ 1048576 := by have := ratB_len dss p; omega
    obtain ⟨L, hL⟩ : ∃ L, L = ratB dss p := ⟨_, rfl⟩
    have HE := Lib.hid hL
    rw [← hL] at g1
    clear hL
    go_wp2_with fail
    refine (toW_any _ _ _ hr l1 l2).mono ?_
    rintro e w1 ⟨v1, rfl, o1, k1⟩
    replace hr := hr.keep k1
    have K1 := k1
    go_wp2_with fail
    refine (specRowsAt_own _ _ _ p o1.rd l1 l2).mono ?_
    rw [← HE.out]
    rintro e w2 ⟨v2, rfl, o3, k2⟩
    replace hr := hr.keep k2
    have K2 := K1.trans k2
    have sv := o3.rd
    go_wp2_with fail
    refine (toW_any _ _ _ hr l1 l2).mono ?_
    rintro e w3 ⟨v3, rfl, ox, k3⟩
    replace hr := hr.keep k3
    replace sv := sv.keep k3
    have K3 := K2.trans k3
    have rx := ox.rd
    have kx := Keep.refl w3
    go_wp2_with fail
    refine (implRowsAt_any _ _ _ p rx l1 l2).mono ?_
    rw [← HE.out]
    rintro e w4 ⟨v4, rfl, og, k4⟩
    replace hr := hr.keep k4
    replace sv := sv.keep k4
    replace rx := rx.keep k4
    have K4 := K3.trans k4
    replace kx := kx.trans k4
    have hg := og
    go_wp2_with fail
    refine (eq_any _ _ _ _ _ hg.rd sv g1).mono ?_
    rintro e w5 ⟨rfl, k5⟩
    replace hr := hr.keep k5
    replace sv := sv.keep k5
    replace rx := rx.keep k5
    replace hg := hg.keep k5
    have K5 := K4.trans k5
    replace kx := kx.trans k5
    go_wp2_with fail
    refine (toW_any _ _ _ hr l1 l2).mono ?_
    rintro e w6 ⟨v6, rfl, oz, k6⟩
    replace hr := hr.keep k6
    replace sv := sv.keep k6
    replace rx := rx.keep k6
    replace hg := hg.keep k6
    have K6 := K5.trans k6
    replace kx := kx.trans k6
    go_wp2_with fail
    refine (eqW_any _ _ _ _ _ rx oz.rd l1 l2).mono ?_
    rw [HL.out]
    rintro e w7 ⟨rfl, k7⟩
    replace hr := hr.keep k7
    replace sv := sv.keep k7
    replace rx := rx.keep k7
    replace hg := hg.keep k7
    have K7 := K6.trans k7
    replace kx := kx.trans k7
    have z0 := K2.size
    have zx := k3.size
    go_wp2_with fail
    refine (markW_any w7 w3 w2.heap.size _ _ dss ox (fun b _ hb => Below.block kx b hb) l1 s1 (by omega) (by omega)).mono ?_
    rintro e w8 ⟨rfl, -, om⟩
    have Kb : Keep w2 w7 := ((((k3.trans k4).trans k5).trans k6).trans k7)
    have Kb2 := Kb.only om (Nat.le_refl _)
    have K8 := K7.only om z0
    replace hg := row_only hg om (by omega)
    have hr0 := hr
    have dk : ¬ ((1 : Int) + 4 * lenW dss < 0) := by omega
    clear hr rx sv hr0
    clear om
    have sv := o3.rd.keep Kb2
    have Kq := Kb2
    go_wp2_with fail
    refine (eq_any _ _ _ _ _ hg.rd sv g1).mono ?_
    rintro e w9 ⟨rfl, k9⟩
    replace hg := hg.keep k9
    replace sv := sv.keep k9
    replace Kq := Kq.trans k9
    have K9 := K8.trans k9
    go_wp2_with fail
    refine (mark_row _ _ _ _ _ hg g1 (by omega) (by omega)).mono ?_
    rintro e w10 ⟨rfl, om2, gg⟩
    have Kr := Kq.grown gg (fun k hk => Nat.le_trans zx (hg.ge k hk))
    have K10 := K9.grown gg (fun k hk => Nat.le_trans z0 (Nat.le_trans zx (hg.ge k hk)))
    clear gg hg sv Kq
    have sv := o3.rd.keep Kr
    have Kq := Kr
    have hm := om2.rd
    go_wp2_with fail
    refine (held_row _ _ _ _ hm g1 (by omega) (by omega)).mono ?_
    rintro e w11 ⟨rfl, k11⟩
    replace sv := sv.keep k11
    replace hm := hm.keep k11
    replace Kq := Kq.trans k11
    have K11 := K10.trans k11
    have nq : ((1 : Int) + L.length != 1 + L.length) = false := by simp
    have dq : ¬ ((1 : Int) + L.length < 0) := by omega
    have hr := HR0.out.keep K11
    go_wp2_with fail
    refine (toW_any _ _ _ hr l1 l2).mono ?_
    rintro e w12 ⟨v12, rfl, ot, k12⟩
    replace sv := sv.keep k12
    replace hm := hm.keep k12
    replace hr := hr.keep k12
    replace Kq := Kq.trans k12
    have K12 := K11.trans k12
    have rt := ot.rd
    go_wp2_with fail
    refine (implRowsAt_any _ _ _ p rt l1 l2).mono ?_
    rw [← HE.out]
    rintro e w13 ⟨v13, rfl, oh, k13⟩
    replace sv := sv.keep k13
    replace hm := hm.keep k13
    replace hr := hr.keep k13
    replace rt := rt.keep k13
    replace Kq := Kq.trans k13
    have K13 := K12.trans k13
    go_wp2_with fail
    refine (eq_any _ _ _ _ _ oh.rd sv g1).mono ?_
    rintro e w14 ⟨rfl, k14⟩
    replace sv := sv.keep k14
    replace hm := hm.keep k14
    replace hr := hr.keep k14
    replace rt := rt.keep k14
    replace Kq := Kq.trans k14
    have K14 := K13.trans k14
    go_wp2_with fail
    refine (held_row _ _ _ _ hm g1 (by omega) (by omega)).mono ?_
    rintro e w15 ⟨rfl, k15⟩
    replace sv := sv.keep k15
    replace hm := hm.keep k15
    replace hr := hr.keep k15
    replace rt := rt.keep k15
    replace Kq := Kq.trans k15
    have K15 := K14.trans k15
    go_wp2
    go_ret
    exact ⟨rfl, K15⟩

set_option maxRecDepth 100000 in
theorem lifted (os : Os) (started : os.Started) (H : Type) (enc : TypeId × Value → H) :
    ReturnsInHanded {} Try.checked os 6 .any (Rows.fnExactRowsAtSpec.pre6 enc Try.prog Try.f6 Rows.fnExactRowsAtRow.domain false) (Rows.fnExactRowsAtSpec.post enc Try.prog Try.f6 false true false false) := by
  refine returnsInHanded_of_change (C := Try.checked) own started (by kernel_rfl) Try.func6
    (ChangeSpec.witness6 (enc := enc) (C := Try.checked) false ⟨#[], #[.slice none 0 0, .int .i64 0], []⟩ 8 (by kernel_rfl) (by kernel_rfl) (by kernel_rfl) (by kernel_rfl)) ?_
  intro W base args ds gs before hval0 hW hcnd _

  have hval : ∀ (j : Nat) t v, Try.f6.params[j]? = some t → args[j]? = some v → Value.okWide Try.prog W .any base t v := hval0
  have hW' := hW
  obtain ⟨p, q, hA0, hV, rfl, hfz, hnd⟩ := hW
  have hA : DataW.TrodAll enc Try.prog W 0 (fun _ => true) true Try.f6.params.toList args.toList ds p := hA0
  rw [Try.params6] at hA hval
  obtain ⟨v0, vs0, d0, ds0, p0, q0, hargs, rfl, rfl, h0, r0⟩ := trodAll_cons hA
  obtain ⟨v1, vs1, d1, ds1, p1, q1, rfl, rfl, rfl, h1, r1⟩ := trodAll_cons r0
  obtain ⟨rfl, rfl, rfl⟩ := trodAll_nil r1
  obtain rfl : args = #[v0, v1] := by cases args; simp_all
  obtain ⟨rfl, rfl⟩ := trodVars_none hV
  have k0 := h0
  have lt0 : ∀ x ∈ p0, x.block < W.heap.size := by obtain ⟨m, hm⟩ := k0; exact DataW.trod_lt m _ _ _ hm
  obtain ⟨dss, hr, hl, hls⟩ := open_work (hval 0 42 v0 rfl rfl) h0
  obtain ⟨p, rfl⟩ := okWide_int Try.underlying2 (hval 1 2 v1 rfl rfl)
  have k1 := h1
  have lt1 : ∀ x ∈ p1, x.block < W.heap.size := by obtain ⟨m, hm⟩ := k1; exact DataW.trod_lt m _ _ _ hm
  clear hA0 hval0
  refine (walk v0 dss p W hr hl hls).mono fun e W' ⟨he, bel⟩ => ?_
  subst he
  exact ⟨_, rfl, _, _, _, [], _, [], hW', trodAll_mk1 (shut_bool Try.underlying4 _), (trodAll_cons_mk (Below.trod laidOut (by kernel_rfl) (of_decide_eq_true (by kernel_rfl)) k0 bel lt0) (trodAll_cons_mk (Below.trod laidOut (by kernel_rfl) (of_decide_eq_true (by kernel_rfl)) k1 bel lt1) trodAll_mk0)), rfl, bel.frame _, fun h => by cases h⟩

theorem over : Rows.fnExactRowsAtRow.holds Try.pinned (OpenSpec.ofChange Rows.fnExactRowsAtSpec) :=
  OpenClaim.holds_of_wide 6 Try.f6 rfl rfl rfl rfl rfl rfl rfl ⟨rfl, rfl, rfl, rfl, rfl⟩ rfl rfl rfl rfl rfl (by kernel_rfl) Try.func6 (by kernel_rfl)
    (of_decide_eq_true (by kernel_rfl)) (by unfold Func.isWrapper; first | (rw [if_pos (by decide +kernel)]; kernel_rfl) | (rw [if_neg (by decide +kernel)]; exact ⟨rfl, rfl⟩))
    (fun os started H enc _ => lifted os started H enc)

#print axioms over
end Go.Proofs.Ytkdebpfdiblliaa.fnExactRowsAt
namespace Go.Proofs.Ytkdebpfdiblliaa
theorem fnExactRowsAt_holds : Rows.FnExactRowsAtSaid := fnExactRowsAt.over
end Go.Proofs.Ytkdebpfdiblliaa
