/- At every list the program's Sorted answers as the specification's does, in new memory that is its own, and writes nothing into what is handed in: the law FnExactSorted answers true and its arguments stay; no condition. -/
import Derived.Test.YtgclnfhkjnomaaiRows
import Derived.WalkKit
import Derived.ProofKit
import Derived.OpenShut
import Derived.ShutString
import Derived.ChangeOld
import Derived.Below
import Derived.Test.YtgclnfhkjnomaaiSortedS
import Derived.Test.YtgclnfhkjnomaaiSortedI
import Derived.Test.YtgclnfhkjnomaaiMarkRow
import Derived.Test.YtgclnfhkjnomaaiExactAid
namespace Go.Proofs.Ytgclnfhkjnomaai.fnExactSorted
open Go.ChangeShapes Go.WideShapes Go.ChangeAt Go.RowKit
open Go.ChangeMaps (open_string shut_string)
set_option linter.unusedVariables false

theorem own : ownKnob Try.prog.godebug = none := by kernel_rfl
theorem laidOut : laidOutB Try.prog = true := by kernel_rfl

/-- WHAT THE WALK IS TOLD OF A SLICE OF INTEGERS THAT CAME IN: it is nil; or it leads to a row of 'cap' cells, the numbers 'zs' (the first 'len' are its elements, the rest its spare room), each fitting its kind. -/
def IsRow (k : IntKind) (w : World) (a : Option Addr) (len cap : Nat) (zs : List Int) : Prop :=
  (a = none ∧ len = 0 ∧ cap = 0 ∧ zs = []) ∨
  ∃ x, a = some x ∧ len ≤ cap ∧ cap ≤ maxLen ∧ zs.length = cap ∧ (∀ i, i < zs.length → w.cell? (x.add i) = some (.int k (zs.getD i 0))) ∧ ∀ n ∈ zs, (Lit.int k n).wf = true

set_option maxHeartbeats 8000000 in
theorem walk (a0 : Option Addr) (len0 cap0 : Nat) (z0 : List Int) (w : World) (w0 : IsRow .i64 w a0 len0 cap0 z0) :
    Calls Try.prog 3 #[.slice a0 len0 cap0] w fun e w' => e = .returned (.bool true) ∧ Below w.heap.size w w' := by
  by_cases hbig0 : 1048576 < len0
  · go_enter Try.func3, Try.ntmps3
    go_wp2
    go_ret
    exact ⟨rfl, Below.refl _ _⟩
  · obtain ⟨zs, hzl, hrd⟩ : ∃ zs : List Int, zs.length = len0 ∧ Rd w (.slice a0 len0 cap0) zs := rd_of_row w0
    have hn : zs.length ≤ 1048576 := by omega
    clear w0
    have hl12 := sortedL_len zs
    go_enter Try.func3, Try.ntmps3
    have hA := hrd.old
    clear hrd
    go_wp2_with fail
    refine (to_any _ _ _ hA.rd hn).mono ?_
    rintro e u4 ⟨v1, rfl, o2, k3⟩
    have hs5 := o2.row
    clear o2
    have sz_s := Nat.le_refl w.heap.size
    have ha6 := hA.keep k3
    clear hA
    have K7 := k3
    go_wp2_with fail
    refine (specSorted_any _ _ _ hs5.rd hn).mono ?_
    rintro e u11 ⟨v8, rfl, hq9, k10⟩
    have ap_s_q := Row.apart hs5 hq9
    have ap_q_s := Row.apart' hs5 hq9
    have sz_q := K7.size
    have ha12 := ha6.keep k10
    have hs13 := hs5.keep k10
    clear ha6 hs5
    have K14 := K7.trans k10
    go_wp2_with fail
    refine (to_any _ _ _ ha12.rd hn).mono ?_
    rintro e u18 ⟨v15, rfl, o16, k17⟩
    have hx19 := o16.row
    clear o16
    have ap_q_x := Row.apart hq9 hx19
    have ap_x_q := Row.apart' hq9 hx19
    have sz_x := K14.size
    have ha20 := ha12.keep k17
    have hq21 := hq9.keep k17
    clear ha12 hq9
    have K22 := K14.trans k17
    go_wp2_with fail
    refine (implSorted_any _ _ _ hx19.rd hn).mono ?_
    rintro e u26 ⟨v23, rfl, hg24, k25⟩
    have ap_q_g := Row.apart hq21 hg24
    have ap_g_q := Row.apart' hq21 hg24
    have ap_x_g := Row.apart hx19 hg24
    have ap_g_x := Row.apart' hx19 hg24
    have sz_g := K22.size
    have ha27 := ha20.keep k25
    have hq28 := hq21.keep k25
    have hx29 := hx19.keep k25
    clear ha20 hq21 hx19
    have K30 := K22.trans k25
    go_wp2_with fail
    refine (eq_any _ _ _ _ _ hg24.rd hq28.rd (by omega)).mono ?_
    rintro e u32 ⟨rfl, k31⟩
    have ha33 := ha27.keep k31
    have hq34 := hq28.keep k31
    have hx35 := hx29.keep k31
    have hg36 := hg24.keep k31
    clear ha27 hq28 hx29 hg24
    have K37 := K30.trans k31
    go_wp2_with fail
    refine (to_any _ _ _ ha33.rd hn).mono ?_
    rintro e u41 ⟨v38, rfl, o39, k40⟩
    have hc42 := o39.row
    clear o39
    have ap_q_c := Row.apart hq34 hc42
    have ap_c_q := Row.apart' hq34 hc42
    have ap_x_c := Row.apart hx35 hc42
    have ap_c_x := Row.apart' hx35 hc42
    have ap_g_c := Row.apart hg36 hc42
    have ap_c_g := Row.apart' hg36 hc42
    have sz_c := K37.size
    have ha43 := ha33.keep k40
    have hq44 := hq34.keep k40
    have hx45 := hx35.keep k40
    have hg46 := hg36.keep k40
    clear ha33 hq34 hx35 hg36
    have K47 := K37.trans k40
    go_wp2_with fail
    refine (eq_any _ _ _ _ _ hx45.rd hc42.rd hn).mono ?_
    rintro e u49 ⟨rfl, k48⟩
    have ha50 := ha43.keep k48
    have hq51 := hq44.keep k48
    have hx52 := hx45.keep k48
    have hg53 := hg46.keep k48
    have hc54 := hc42.keep k48
    clear ha43 hq44 hx45 hg46 hc42
    have K55 := K47.trans k48
    go_wp2_with fail
    refine (mark_row _ _ _ _ _ hx52 hn (by omega) (by omega)).mono ?_
    rintro e u58 ⟨rfl, hx57, g56⟩
    have K59 := K55.grown g56 (fun k hk => Nat.le_trans sz_x (hx52.ge k hk))
    have ha60 := ha50.stay g56 (fun k hk => Nat.le_trans sz_x (hx52.ge k hk))
    have hq61 := hq51.kept g56 ap_q_x
    have hg62 := hg53.kept g56 ap_g_x
    clear hx52 ha50 hq51 hg53 g56
    go_wp2_with fail
    refine (eq_any _ _ _ _ _ hg62.rd hq61.rd (by omega)).mono ?_
    rintro e u64 ⟨rfl, k63⟩
    have ha65 := ha60.keep k63
    have hq66 := hq61.keep k63
    have hx67 := hx57.keep k63
    have hg68 := hg62.keep k63
    clear ha60 hq61 hx57 hg62
    have K69 := K59.trans k63
    go_wp2_with fail
    refine (mark_row _ _ _ _ _ hg68 (by omega) (by omega) (by omega)).mono ?_
    rintro e u72 ⟨rfl, hg71, g70⟩
    have K73 := K69.grown g70 (fun k hk => Nat.le_trans sz_g (hg68.ge k hk))
    have ha74 := ha65.stay g70 (fun k hk => Nat.le_trans sz_g (hg68.ge k hk))
    have hq75 := hq66.kept g70 ap_q_g
    clear hg68 ha65 hq66 g70
    go_wp2_with fail
    refine (held_row _ _ _ _ hg71.rd (by omega) (by omega) (by omega)).mono ?_
    rintro e u77 ⟨rfl, k76⟩
    have ha78 := ha74.keep k76
    have hq79 := hq75.keep k76
    have hg80 := hg71.keep k76
    clear ha74 hq75 hg71
    have K81 := K73.trans k76
    go_wp2_with fail
    refine (to_any _ _ _ ha78.rd hn).mono ?_
    rintro e u85 ⟨v82, rfl, o83, k84⟩
    have he86 := o83.row
    clear o83
    have ap_q_e := Row.apart hq79 he86
    have ap_e_q := Row.apart' hq79 he86
    have ap_g_e := Row.apart hg80 he86
    have ap_e_g := Row.apart' hg80 he86
    have sz_e := K81.size
    have ha87 := ha78.keep k84
    have hq88 := hq79.keep k84
    have hg89 := hg80.keep k84
    clear ha78 hq79 hg80
    have K90 := K81.trans k84
    go_wp2_with fail
    refine (implSorted_any _ _ _ he86.rd hn).mono ?_
    rintro e u94 ⟨v91, rfl, hz92, k93⟩
    have ap_q_z := Row.apart hq88 hz92
    have ap_z_q := Row.apart' hq88 hz92
    have ap_g_z := Row.apart hg89 hz92
    have ap_z_g := Row.apart' hg89 hz92
    have ap_e_z := Row.apart he86 hz92
    have ap_z_e := Row.apart' he86 hz92
    have sz_z := K90.size
    have ha95 := ha87.keep k93
    have hq96 := hq88.keep k93
    have hg97 := hg89.keep k93
    have he98 := he86.keep k93
    clear ha87 hq88 hg89 he86
    have K99 := K90.trans k93
    go_wp2_with fail
    refine (eq_any _ _ _ _ _ hz92.rd hq96.rd (by omega)).mono ?_
    rintro e u101 ⟨rfl, k100⟩
    have ha102 := ha95.keep k100
    have hq103 := hq96.keep k100
    have hg104 := hg97.keep k100
    have he105 := he98.keep k100
    have hz106 := hz92.keep k100
    clear ha95 hq96 hg97 he98 hz92
    have K107 := K99.trans k100
    go_wp2_with fail
    refine (held_row _ _ _ _ hg104.rd (by omega) (by omega) (by omega)).mono ?_
    rintro e u109 ⟨rfl, k108⟩
    have ha110 := ha102.keep k108
    have hq111 := hq103.keep k108
    have hg112 := hg104.keep k108
    have he113 := he105.keep k108
    have hz114 := hz106.keep k108
    clear ha102 hq103 hg104 he105 hz106
    have K115 := K107.trans k108
    go_wp2
    go_ret
    exact ⟨rfl, K115⟩

set_option maxRecDepth 100000 in
theorem lifted (os : Os) (started : os.Started) (H : Type) (enc : TypeId × Value → H) :
    ReturnsInHanded {} Try.checked os 3 .any (Rows.fnExactSortedSpec.pre6 enc Try.prog Try.f3 Rows.fnExactSortedRow.domain false) (Rows.fnExactSortedSpec.post enc Try.prog Try.f3 false true false false) := by
  refine returnsInHanded_of_change (C := Try.checked) own started (by kernel_rfl) Try.func3
    (ChangeSpec.witness6 (enc := enc) (C := Try.checked) false ⟨#[], #[.slice none 0 0], []⟩ 8 (by kernel_rfl) (by kernel_rfl) (by kernel_rfl) (by kernel_rfl)) ?_
  intro W base args ds gs before hval0 hW hcnd _
  have hval : ∀ (j : Nat) t v, Try.f3.params[j]? = some t → args[j]? = some v → Value.okWide Try.prog W .any base t v := hval0
  have hW' := hW
  obtain ⟨p, q, hA0, hV, rfl, hfz, hnd⟩ := hW
  have hA : DataW.TrodAll enc Try.prog W 0 (fun _ => true) true Try.f3.params.toList args.toList ds p := hA0
  rw [Try.params3] at hA hval
  obtain ⟨v0, vs0, d0, ds0, p0, q0, hargs, rfl, rfl, h0, r0⟩ := trodAll_cons hA
  obtain ⟨rfl, rfl, rfl⟩ := trodAll_nil r0
  obtain rfl : args = #[v0] := by cases args; simp_all
  obtain ⟨rfl, rfl⟩ := trodVars_none hV
  obtain ⟨a0, len0, cap0, rfl⟩ := okWide_slice Try.underlying22 (hval 0 22 v0 rfl rfl)
  have k0 := h0
  have lt0 : ∀ x ∈ p0, x.block < W.heap.size := by obtain ⟨m, hm⟩ := k0; exact DataW.trod_lt m _ _ _ hm
  obtain ⟨z0, w0⟩ : ∃ zs, IsRow .i64 W a0 len0 cap0 zs := by
    obtain ⟨fuel, hf⟩ := h0
    rcases open_ints Try.underlying22 Try.underlying2 (by kernel_rfl) hf with ⟨hcs, _⟩ | ⟨x, l, c, zs, hcs, _, hl, hm, hz, _, hcell, hwz⟩
    · simp [Value.cells] at hcs
      obtain ⟨rfl, rfl, rfl⟩ := hcs
      exact ⟨[], .inl ⟨rfl, rfl, rfl, rfl⟩⟩
    · simp [Value.cells] at hcs
      obtain ⟨rfl, rfl, rfl⟩ := hcs
      exact ⟨zs, .inr ⟨_, rfl, hl, hm, by simpa using hz, hcell, hwz⟩⟩
  clear hA0 hval0
  refine (walk a0 len0 cap0 z0 W w0).mono fun e W' ⟨he, bel⟩ => ?_
  subst he
  exact ⟨_, rfl, _, _, _, [], _, [], hW', trodAll_mk1 (shut_bool Try.underlying4 _), (trodAll_cons_mk (Below.trod laidOut (by kernel_rfl) (of_decide_eq_true (by kernel_rfl)) k0 bel lt0) trodAll_mk0), rfl, bel.frame _, fun h => by cases h⟩

theorem over : Rows.fnExactSortedRow.holds Try.pinned (OpenSpec.ofChange Rows.fnExactSortedSpec) :=
  OpenClaim.holds_of_wide 3 Try.f3 rfl rfl rfl rfl rfl rfl rfl ⟨rfl, rfl, rfl, rfl, rfl⟩ rfl rfl rfl rfl rfl (by kernel_rfl) Try.func3 (by kernel_rfl)
    (of_decide_eq_true (by kernel_rfl)) (by unfold Func.isWrapper; first | (rw [if_pos (by decide +kernel)]; kernel_rfl) | (rw [if_neg (by decide +kernel)]; exact ⟨rfl, rfl⟩))
    (fun os started H enc _ => lifted os started H enc)

theorem proved : Rows.FnExactSortedSaid := over
#print axioms proved
end Go.Proofs.Ytgclnfhkjnomaai.fnExactSorted
namespace Go.Proofs.Ytgclnfhkjnomaai
theorem fnExactSorted_holds : Rows.FnExactSortedSaid := fnExactSorted.proved
end Go.Proofs.Ytgclnfhkjnomaai
