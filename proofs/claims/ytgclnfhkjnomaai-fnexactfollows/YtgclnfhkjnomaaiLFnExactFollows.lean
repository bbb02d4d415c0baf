/- At every two lists the program's Follows answers as the specification's does and writes nothing into them: the law FnExactFollows answers true and its arguments stay; no condition. -/
import Derived.Test.YtgclnfhkjnomaaiRows
import Derived.WalkKit
import Derived.ProofKit
import Derived.OpenShut
import Derived.ShutString
import Derived.ChangeOld
import Derived.Below
import Derived.Test.YtgclnfhkjnomaaiFollowsS
import Derived.Test.YtgclnfhkjnomaaiFollowsI
import Derived.Test.YtgclnfhkjnomaaiSlices
namespace Go.Proofs.Ytgclnfhkjnomaai.fnExactFollows
open Go.ChangeShapes Go.WideShapes Go.ChangeAt Go.RowKit
open Go.ChangeMaps (open_string shut_string)
set_option linter.unusedVariables false

theorem own : ownKnob Try.prog.godebug = none := by kernel_rfl
theorem laidOut : laidOutB Try.prog = true := by kernel_rfl

/-- WHAT THE WALK IS TOLD OF A SLICE OF INTEGERS THAT CAME IN: it is nil; or it leads to a row of 'cap' cells, the numbers 'zs' (the first 'len' are its elements, the rest its spare room), each fitting its kind. -/
def IsRow (k : IntKind) (w : World) (a : Option Addr) (len cap : Nat) (zs : List Int) : Prop :=
  (a = none ∧ len = 0 ∧ cap = 0 ∧ zs = []) ∨
  ∃ x, a = some x ∧ len ≤ cap ∧ cap ≤ maxLen ∧ zs.length = cap ∧ (∀ i, i < zs.length → w.cell? (x.add i) = some (.int k (zs.getD i 0))) ∧ ∀ n ∈ zs, (Lit.int k n).wf = true

set_option maxHeartbeats 8000000 in
theorem walk (a0 : Option Addr) (len0 cap0 : Nat) (z0 : List Int) (a1 : Option Addr) (len1 cap1 : Nat) (z1 : List Int) (w : World) (w0 : IsRow .i64 w a0 len0 cap0 z0) (w1 : IsRow .i64 w a1 len1 cap1 z1) :
    Calls Try.prog 5 #[.slice a0 len0 cap0, .slice a1 len1 cap1] w fun e w' => e = .returned (.bool true) ∧ Below w.heap.size w w' := by
  by_cases hbig0 : 1048576 < len0
  · go_enter Try.func5, Try.ntmps5
    go_wp2
    go_ret
    exact ⟨rfl, Below.refl _ _⟩
  · by_cases hbig1 : 1048576 < len1
    · go_enter Try.func5, Try.ntmps5
      go_wp2
      go_ret
      exact ⟨rfl, Below.refl _ _⟩
    · obtain ⟨zs, hzl, hrd⟩ : ∃ zs : List Int, zs.length = len0 ∧ Rd w (.slice a0 len0 cap0) zs := rd_of_row w0
      obtain ⟨ys, hyl, hrd'⟩ : ∃ ys : List Int, ys.length = len1 ∧ Rd w (.slice a1 len1 cap1) ys := rd_of_row w1
      have hn : zs.length ≤ 1048576 := by omega
      have hm : ys.length ≤ 1048576 := by omega
      clear w0 w1
      go_enter Try.func5, Try.ntmps5
      go_wp2_with fail
      refine (to_any _ _ _ hrd hn).mono ?_
      rintro e u1 ⟨v1, rfl, o1, k1⟩
      have a1' := hrd.keep k1
      have b1' := hrd'.keep k1
      clear hrd hrd'
      go_wp2_with fail
      refine (to_any _ _ _ b1' hm).mono ?_
      rintro e u2 ⟨v2, rfl, o2, k2⟩
      have a2' := a1'.keep k2
      have b2' := b1'.keep k2
      have o1' := o1.keep k2
      clear a1' b1' o1
      go_wp2_with fail
      refine (specFollows_any _ _ _ _ _ o1'.rd o2.rd hn hm).mono ?_
      rintro e u2' ⟨rfl, rfl⟩
      clear o1' o2
      go_wp2_with fail
      refine (to_any _ _ _ a2' hn).mono ?_
      rintro e u3 ⟨v3, rfl, o3, k3⟩
      have a3' := a2'.keep k3
      have b3' := b2'.keep k3
      clear a2' b2'
      go_wp2_with fail
      refine (to_any _ _ _ b3' hm).mono ?_
      rintro e u4 ⟨v4, rfl, o4, k4⟩
      have a4' := a3'.keep k4
      have b4' := b3'.keep k4
      have o3' := o3.keep k4
      clear a3' b3' o3
      go_wp2_with fail
      refine (implFollows_any _ _ _ _ _ o3'.rd o4.rd hn hm).mono ?_
      rintro e u4' ⟨rfl, rfl⟩
      cases hw : followsB zs ys
      all_goals
        go_wp2_with fail
        refine (to_any _ _ _ a4' hn).mono ?_
        rintro e u5 ⟨v5, rfl, o5, k5⟩
        have o3k := o3'.keep k5
        have o4k := o4.keep k5
        have b5' := b4'.keep k5
        go_wp2_with fail
        refine (eq_any _ _ _ _ _ o3k.rd o5.rd hn).mono ?_
        rintro e u6 ⟨rfl, k6⟩
        have o4l := o4k.keep k6
        have b6' := b5'.keep k6
        go_wp2_with fail
        refine (to_any _ _ _ b6' hm).mono ?_
        rintro e u7 ⟨v7, rfl, o7, k7⟩
        have o4m := o4l.keep k7
        go_wp2_with fail
        refine (eq_any _ _ _ _ _ o4m.rd o7.rd hm).mono ?_
        rintro e u8 ⟨rfl, k8⟩
        go_wp2
        go_ret
        exact ⟨rfl, ((((((k1.trans k2).trans k3).trans k4).trans k5).trans k6).trans k7).trans k8⟩

set_option maxRecDepth 100000 in
theorem lifted (os : Os) (started : os.Started) (H : Type) (enc : TypeId × Value → H) :
    ReturnsInHanded {} Try.checked os 5 .any (Rows.fnExactFollowsSpec.pre6 enc Try.prog Try.f5 Rows.fnExactFollowsRow.domain false) (Rows.fnExactFollowsSpec.post enc Try.prog Try.f5 false true false false) := by
  refine returnsInHanded_of_change (C := Try.checked) own started (by kernel_rfl) Try.func5
    (ChangeSpec.witness6 (enc := enc) (C := Try.checked) false ⟨#[], #[.slice none 0 0, .slice none 0 0], []⟩ 8 (by kernel_rfl) (by kernel_rfl) (by kernel_rfl) (by kernel_rfl)) ?_
  intro W base args ds gs before hval0 hW hcnd _
  have hval : ∀ (j : Nat) t v, Try.f5.params[j]? = some t → args[j]? = some v → Value.okWide Try.prog W .any base t v := hval0
  have hW' := hW
  obtain ⟨p, q, hA0, hV, rfl, hfz, hnd⟩ := hW
  have hA : DataW.TrodAll enc Try.prog W 0 (fun _ => true) true Try.f5.params.toList args.toList ds p := hA0
  rw [Try.params5] at hA hval
  obtain ⟨v0, vs0, d0, ds0, p0, q0, hargs, rfl, rfl, h0, r0⟩ := trodAll_cons hA
  obtain ⟨v1, vs1, d1, ds1, p1, q1, rfl, rfl, rfl, h1, r1⟩ := trodAll_cons r0
  obtain ⟨rfl, rfl, rfl⟩ := trodAll_nil r1
  obtain rfl : args = #[v0, v1] := by cases args; simp_all
  obtain ⟨rfl, rfl⟩ := trodVars_none hV
  obtain ⟨a0, len0, cap0, rfl⟩ := okWide_slice Try.underlying22 (hval 0 22 v0 rfl rfl)
  have k0 := h0
  have lt0 : ∀ x ∈ p0, x.block < W.heap.size := by obtain ⟨m, hm⟩ := k0; exact DataW.trod_lt m _ _ _ hm
  obtain ⟨z0, w0⟩ : ∃ zs, IsRow .i64 W a0 len0 cap0 zs := by
    obtain ⟨fuel, hf⟩ := h0
    rcases open_ints Try.underlying22 Try.underlying2 (by kernel_rfl) hf with ⟨hcs, _⟩ | ⟨x, l, c, zs, hcs, _, hl, hm, hz, _, hcell, hwz⟩
    · simp [Value.cells] at hcs
      obtain ⟨rfl, rfl, rfl⟩ := hcs
      exact ⟨[], .inl ⟨rfl, rfl, rfl, rfl⟩⟩
    · simp [Value.cells] at hcs
      obtain ⟨rfl, rfl, rfl⟩ := hcs
      exact ⟨zs, .inr ⟨_, rfl, hl, hm, by simpa using hz, hcell, hwz⟩⟩
  obtain ⟨a1, len1, cap1, rfl⟩ := okWide_slice Try.underlying22 (hval 1 22 v1 rfl rfl)
  have k1 := h1
  have lt1 : ∀ x ∈ p1, x.block < W.heap.size := by obtain ⟨m, hm⟩ := k1; exact DataW.trod_lt m _ _ _ hm
  obtain ⟨z1, w1⟩ : ∃ zs, IsRow .i64 W a1 len1 cap1 zs := by
    obtain ⟨fuel, hf⟩ := h1
    rcases open_ints Try.underlying22 Try.underlying2 (by kernel_rfl) hf with ⟨hcs, _⟩ | ⟨x, l, c, zs, hcs, _, hl, hm, hz, _, hcell, hwz⟩
    · simp [Value.cells] at hcs
      obtain ⟨rfl, rfl, rfl⟩ := hcs
      exact ⟨[], .inl ⟨rfl, rfl, rfl, rfl⟩⟩
    · simp [Value.cells] at hcs
      obtain ⟨rfl, rfl, rfl⟩ := hcs
      exact ⟨zs, .inr ⟨_, rfl, hl, hm, by simpa using hz, hcell, hwz⟩⟩
  clear hA0 hval0
  refine (walk a0 len0 cap0 z0 a1 len1 cap1 z1 W w0 w1).mono fun e W' ⟨he, bel⟩ => ?_
  subst he
  exact ⟨_, rfl, _, _, _, [], _, [], hW', trodAll_mk1 (shut_bool Try.underlying4 _), (trodAll_cons_mk (Below.trod laidOut (by kernel_rfl) (of_decide_eq_true (by kernel_rfl)) k0 bel lt0) (trodAll_cons_mk (Below.trod laidOut (by kernel_rfl) (of_decide_eq_true (by kernel_rfl)) k1 bel lt1) trodAll_mk0)), rfl, bel.frame _, fun h => by cases h⟩

theorem over : Rows.fnExactFollowsRow.holds Try.pinned (OpenSpec.ofChange Rows.fnExactFollowsSpec) :=
  OpenClaim.holds_of_wide 5 Try.f5 rfl rfl rfl rfl rfl rfl rfl ⟨rfl, rfl, rfl, rfl, rfl⟩ rfl rfl rfl rfl rfl (by kernel_rfl) Try.func5 (by kernel_rfl)
    (of_decide_eq_true (by kernel_rfl)) (by unfold Func.isWrapper; first | (rw [if_pos (by decide +kernel)]; kernel_rfl) | (rw [if_neg (by decide +kernel)]; exact ⟨rfl, rfl⟩))
    (fun os started H enc _ => lifted os started H enc)

theorem proved : Rows.FnExactFollowsSaid := over
#print axioms proved
end Go.Proofs.Ytgclnfhkjnomaai.fnExactFollows
namespace Go.Proofs.Ytgclnfhkjnomaai
theorem fnExactFollows_holds : Rows.FnExactFollowsSaid := fnExactFollows.proved
end Go.Proofs.Ytgclnfhkjnomaai
