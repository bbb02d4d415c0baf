/- At every list the program's Lifted answers as the specification's does, in new memory that is its own, and writes nothing into what is handed in: the law FnExactLifted answers true and its arguments stay; no condition. -/
import Derived.Test.YtgclnfhkjnomaaiRows
import Derived.WalkKit
import Derived.ProofKit
import Derived.OpenShut
import Derived.ShutString
import Derived.ChangeOld
import Derived.Below
import Derived.Test.YtgclnfhkjnomaaiLiftS
import Derived.Test.YtgclnfhkjnomaaiLiftedI
import Derived.Test.YtgclnfhkjnomaaiMarkRow
import Derived.Test.YtgclnfhkjnomaaiExactAid
namespace Go.Proofs.Ytgclnfhkjnomaai.fnExactLifted
open Go.ChangeShapes Go.WideShapes Go.ChangeAt Go.RowKit
open Go.ChangeMaps (open_string shut_string)
set_option linter.unusedVariables false

theorem own : ownKnob Try.prog.godebug = none := by kernel_rfl
theorem laidOut : laidOutB Try.prog = true := by kernel_rfl

/-- WHAT THE WALK IS TOLD OF A SLICE OF INTEGERS THAT CAME IN: it is nil; or it leads to a row of 'cap' cells, the numbers 'zs' (the first 'len' are its elements, the rest its spare room), each fitting its kind. -/
def IsRow (k : IntKind) (w : World) (a : Option Addr) (len cap : Nat) (zs : List Int) : Prop :=
  (a = none ∧ len = 0 ∧ cap = 0 ∧ zs = []) ∨
  ∃ x, a = some x ∧ len ≤ cap ∧ cap ≤ maxLen ∧ zs.length = cap ∧ (∀ i, i < zs.length → w.cell? (x.add i) = some (.int k (zs.getD i 0))) ∧ ∀ n ∈ zs, (Lit.int k n).wf = true

set_option maxHeartbeats 8000000 in
theorem walk (a0 : Option Addr) (len0 cap0 : Nat) (z0 : List Int) (a1 : Option Addr) (len1 cap1 : Nat) (z1 : List Int) (w : World) (w0 : IsRow .i64 w a0 len0 cap0 z0) (w1 : IsRow .i64 w a1 len1 cap1 z1) :
    Calls Try.prog 4 #[.slice a0 len0 cap0, .slice a1 len1 cap1] w fun e w' => e = .returned (.bool true) ∧ Below w.heap.size w w' := by
  by_cases hbig0 : 1048576 < len0
  · go_enter Try.func4, Try.ntmps4
    go_wp2
    go_ret
    exact ⟨rfl, Below.refl _ _⟩
  · by_cases hbig1 : 1048576 < len1
    · go_enter Try.func4, Try.ntmps4
      go_wp2
      go_ret
      exact ⟨rfl, Below.refl _ _⟩
    · obtain ⟨zs, hzl, hrd⟩ : ∃ zs : List Int, zs.length = len0 ∧ Rd w (.slice a0 len0 cap0) zs := rd_of_row w0
      obtain ⟨ys, hyl, hrd1⟩ : ∃ ys : List Int, ys.length = len1 ∧ Rd w (.slice a1 len1 cap1) ys := rd_of_row w1
      have hn : zs.length ≤ 1048576 := by omega
      have hm : ys.length ≤ 1048576 := by omega
      clear w0 w1
      have hl12 := liftL_len zs ys
      go_enter Try.func4, Try.ntmps4
      have hA := hrd.old
      have hB := hrd1.old
      clear hrd hrd1
      go_wp2_with fail
      refine (to_any _ _ _ hA.rd hn).mono ?_
      rintro e u4 ⟨v1, rfl, o2, k3⟩
      have hs5 := o2.row
      clear o2
      have sz_s := Nat.le_refl w.heap.size
      have ha6 := hA.keep k3
      have hb7 := hB.keep k3
      clear hA hB
      have K8 := k3
      go_wp2_with fail
      refine (to_any _ _ _ hb7.rd hm).mono ?_
      rintro e u12 ⟨v9, rfl, o10, k11⟩
      have ht13 := o10.row
      clear o10
      have ap_s_t := Row.apart hs5 ht13
      have ap_t_s := Row.apart' hs5 ht13
      have sz_t := K8.size
      have ha14 := ha6.keep k11
      have hb15 := hb7.keep k11
      have hs16 := hs5.keep k11
      clear ha6 hb7 hs5
      have K17 := K8.trans k11
      go_wp2_with fail
      refine (specLifted_any _ _ _ _ _ hs16.rd ht13.rd hn hm).mono ?_
      rintro e u21 ⟨v18, rfl, hq19, k20⟩
      have ap_s_q := Row.apart hs16 hq19
      have ap_q_s := Row.apart' hs16 hq19
      have ap_t_q := Row.apart ht13 hq19
      have ap_q_t := Row.apart' ht13 hq19
      have sz_q := K17.size
      have ha22 := ha14.keep k20
      have hb23 := hb15.keep k20
      have hs24 := hs16.keep k20
      have ht25 := ht13.keep k20
      clear ha14 hb15 hs16 ht13
      have K26 := K17.trans k20
      go_wp2_with fail
      refine (to_any _ _ _ ha22.rd hn).mono ?_
      rintro e u30 ⟨v27, rfl, o28, k29⟩
      have hx31 := o28.row
      clear o28
      have ap_q_x := Row.apart hq19 hx31
      have ap_x_q := Row.apart' hq19 hx31
      have sz_x := K26.size
      have ha32 := ha22.keep k29
      have hb33 := hb23.keep k29
      have hq34 := hq19.keep k29
      clear ha22 hb23 hq19
      have K35 := K26.trans k29
      go_wp2_with fail
      refine (to_any _ _ _ hb33.rd hm).mono ?_
      rintro e u39 ⟨v36, rfl, o37, k38⟩
      have hy40 := o37.row
      clear o37
      have ap_q_y := Row.apart hq34 hy40
      have ap_y_q := Row.apart' hq34 hy40
      have ap_x_y := Row.apart hx31 hy40
      have ap_y_x := Row.apart' hx31 hy40
      have sz_y := K35.size
      have ha41 := ha32.keep k38
      have hb42 := hb33.keep k38
      have hq43 := hq34.keep k38
      have hx44 := hx31.keep k38
      clear ha32 hb33 hq34 hx31
      have K45 := K35.trans k38
      go_wp2_with fail
      refine (implLifted_any _ _ _ _ _ hx44.rd hy40.rd hn hm).mono ?_
      rintro e u49 ⟨v46, rfl, hg47, k48⟩
      have ap_q_g := Row.apart hq43 hg47
      have ap_g_q := Row.apart' hq43 hg47
      have ap_x_g := Row.apart hx44 hg47
      have ap_g_x := Row.apart' hx44 hg47
      have ap_y_g := Row.apart hy40 hg47
      have ap_g_y := Row.apart' hy40 hg47
      have sz_g := K45.size
      have ha50 := ha41.keep k48
      have hb51 := hb42.keep k48
      have hq52 := hq43.keep k48
      have hx53 := hx44.keep k48
      have hy54 := hy40.keep k48
      clear ha41 hb42 hq43 hx44 hy40
      have K55 := K45.trans k48
      go_wp2_with fail
      refine (eq_any _ _ _ _ _ hg47.rd hq52.rd (by omega)).mono ?_
      rintro e u57 ⟨rfl, k56⟩
      have ha58 := ha50.keep k56
      have hb59 := hb51.keep k56
      have hq60 := hq52.keep k56
      have hx61 := hx53.keep k56
      have hy62 := hy54.keep k56
      have hg63 := hg47.keep k56
      clear ha50 hb51 hq52 hx53 hy54 hg47
      have K64 := K55.trans k56
      go_wp2_with fail
      refine (to_any _ _ _ ha58.rd hn).mono ?_
      rintro e u68 ⟨v65, rfl, o66, k67⟩
      have hc69 := o66.row
      clear o66
      have ap_q_c := Row.apart hq60 hc69
      have ap_c_q := Row.apart' hq60 hc69
      have ap_x_c := Row.apart hx61 hc69
      have ap_c_x := Row.apart' hx61 hc69
      have ap_y_c := Row.apart hy62 hc69
      have ap_c_y := Row.apart' hy62 hc69
      have ap_g_c := Row.apart hg63 hc69
      have ap_c_g := Row.apart' hg63 hc69
      have sz_c := K64.size
      have ha70 := ha58.keep k67
      have hb71 := hb59.keep k67
      have hq72 := hq60.keep k67
      have hx73 := hx61.keep k67
      have hy74 := hy62.keep k67
      have hg75 := hg63.keep k67
      clear ha58 hb59 hq60 hx61 hy62 hg63
      have K76 := K64.trans k67
      go_wp2_with fail
      refine (eq_any _ _ _ _ _ hx73.rd hc69.rd hn).mono ?_
      rintro e u78 ⟨rfl, k77⟩
      have ha79 := ha70.keep k77
      have hb80 := hb71.keep k77
      have hq81 := hq72.keep k77
      have hx82 := hx73.keep k77
      have hy83 := hy74.keep k77
      have hg84 := hg75.keep k77
      have hc85 := hc69.keep k77
      clear ha70 hb71 hq72 hx73 hy74 hg75 hc69
      have K86 := K76.trans k77
      go_wp2_with fail
      refine (to_any _ _ _ hb80.rd hm).mono ?_
      rintro e u90 ⟨v87, rfl, o88, k89⟩
      have hd91 := o88.row
      clear o88
      have ap_q_d := Row.apart hq81 hd91
      have ap_d_q := Row.apart' hq81 hd91
      have ap_x_d := Row.apart hx82 hd91
      have ap_d_x := Row.apart' hx82 hd91
      have ap_y_d := Row.apart hy83 hd91
      have ap_d_y := Row.apart' hy83 hd91
      have ap_g_d := Row.apart hg84 hd91
      have ap_d_g := Row.apart' hg84 hd91
      have sz_d := K86.size
      have ha92 := ha79.keep k89
      have hb93 := hb80.keep k89
      have hq94 := hq81.keep k89
      have hx95 := hx82.keep k89
      have hy96 := hy83.keep k89
      have hg97 := hg84.keep k89
      clear ha79 hb80 hq81 hx82 hy83 hg84
      have K98 := K86.trans k89
      go_wp2_with fail
      refine (eq_any _ _ _ _ _ hy96.rd hd91.rd hm).mono ?_
      rintro e u100 ⟨rfl, k99⟩
      have ha101 := ha92.keep k99
      have hb102 := hb93.keep k99
      have hq103 := hq94.keep k99
      have hx104 := hx95.keep k99
      have hy105 := hy96.keep k99
      have hg106 := hg97.keep k99
      have hd107 := hd91.keep k99
      clear ha92 hb93 hq94 hx95 hy96 hg97 hd91
      have K108 := K98.trans k99
      go_wp2_with fail
      refine (mark_row _ _ _ _ _ hx104 hn (by omega) (by omega)).mono ?_
      rintro e u111 ⟨rfl, hx110, g109⟩
      have K112 := K108.grown g109 (fun k hk => Nat.le_trans sz_x (hx104.ge k hk))
      have ha113 := ha101.stay g109 (fun k hk => Nat.le_trans sz_x (hx104.ge k hk))
      have hb114 := hb102.stay g109 (fun k hk => Nat.le_trans sz_x (hx104.ge k hk))
      have hq115 := hq103.kept g109 ap_q_x
      have hy116 := hy105.kept g109 ap_y_x
      have hg117 := hg106.kept g109 ap_g_x
      clear hx104 ha101 hb102 hq103 hy105 hg106 g109
      go_wp2_with fail
      refine (mark_row _ _ _ _ _ hy116 hm (by omega) (by omega)).mono ?_
      rintro e u120 ⟨rfl, hy119, g118⟩
      have K121 := K112.grown g118 (fun k hk => Nat.le_trans sz_y (hy116.ge k hk))
      have ha122 := ha113.stay g118 (fun k hk => Nat.le_trans sz_y (hy116.ge k hk))
      have hb123 := hb114.stay g118 (fun k hk => Nat.le_trans sz_y (hy116.ge k hk))
      have hq124 := hq115.kept g118 ap_q_y
      have hx125 := hx110.kept g118 ap_x_y
      have hg126 := hg117.kept g118 ap_g_y
      clear hy116 ha113 hb114 hq115 hx110 hg117 g118
      go_wp2_with fail
      refine (eq_any _ _ _ _ _ hg126.rd hq124.rd (by omega)).mono ?_
      rintro e u128 ⟨rfl, k127⟩
      have ha129 := ha122.keep k127
      have hb130 := hb123.keep k127
      have hq131 := hq124.keep k127
      have hx132 := hx125.keep k127
      have hy133 := hy119.keep k127
      have hg134 := hg126.keep k127
      clear ha122 hb123 hq124 hx125 hy119 hg126
      have K135 := K121.trans k127
      go_wp2_with fail
      refine (mark_row _ _ _ _ _ hg134 (by omega) (by omega) (by omega)).mono ?_
      rintro e u138 ⟨rfl, hg137, g136⟩
      have K139 := K135.grown g136 (fun k hk => Nat.le_trans sz_g (hg134.ge k hk))
      have ha140 := ha129.stay g136 (fun k hk => Nat.le_trans sz_g (hg134.ge k hk))
      have hb141 := hb130.stay g136 (fun k hk => Nat.le_trans sz_g (hg134.ge k hk))
      have hq142 := hq131.kept g136 ap_q_g
      clear hg134 ha129 hb130 hq131 g136
      go_wp2_with fail
      refine (held_row _ _ _ _ hg137.rd (by omega) (by omega) (by omega)).mono ?_
      rintro e u144 ⟨rfl, k143⟩
      have ha145 := ha140.keep k143
      have hb146 := hb141.keep k143
      have hq147 := hq142.keep k143
      have hg148 := hg137.keep k143
      clear ha140 hb141 hq142 hg137
      have K149 := K139.trans k143
      go_wp2_with fail
      refine (to_any _ _ _ ha145.rd hn).mono ?_
      rintro e u153 ⟨v150, rfl, o151, k152⟩
      have he154 := o151.row
      clear o151
      have ap_q_e := Row.apart hq147 he154
      have ap_e_q := Row.apart' hq147 he154
      have ap_g_e := Row.apart hg148 he154
      have ap_e_g := Row.apart' hg148 he154
      have sz_e := K149.size
      have ha155 := ha145.keep k152
      have hb156 := hb146.keep k152
      have hq157 := hq147.keep k152
      have hg158 := hg148.keep k152
      clear ha145 hb146 hq147 hg148
      have K159 := K149.trans k152
      go_wp2_with fail
      refine (to_any _ _ _ hb156.rd hm).mono ?_
      rintro e u163 ⟨v160, rfl, o161, k162⟩
      have hf164 := o161.row
      clear o161
      have ap_q_f := Row.apart hq157 hf164
      have ap_f_q := Row.apart' hq157 hf164
      have ap_g_f := Row.apart hg158 hf164
      have ap_f_g := Row.apart' hg158 hf164
      have ap_e_f := Row.apart he154 hf164
      have ap_f_e := Row.apart' he154 hf164
      have sz_f := K159.size
      have ha165 := ha155.keep k162
      have hb166 := hb156.keep k162
      have hq167 := hq157.keep k162
      have hg168 := hg158.keep k162
      have he169 := he154.keep k162
      clear ha155 hb156 hq157 hg158 he154
      have K170 := K159.trans k162
      go_wp2_with fail
      refine (implLifted_any _ _ _ _ _ he169.rd hf164.rd hn hm).mono ?_
      rintro e u174 ⟨v171, rfl, hz172, k173⟩
      have ap_q_z := Row.apart hq167 hz172
      have ap_z_q := Row.apart' hq167 hz172
      have ap_g_z := Row.apart hg168 hz172
      have ap_z_g := Row.apart' hg168 hz172
      have ap_e_z := Row.apart he169 hz172
      have ap_z_e := Row.apart' he169 hz172
      have ap_f_z := Row.apart hf164 hz172
      have ap_z_f := Row.apart' hf164 hz172
      have sz_z := K170.size
      have ha175 := ha165.keep k173
      have hb176 := hb166.keep k173
      have hq177 := hq167.keep k173
      have hg178 := hg168.keep k173
      have he179 := he169.keep k173
      have hf180 := hf164.keep k173
      clear ha165 hb166 hq167 hg168 he169 hf164
      have K181 := K170.trans k173
      go_wp2_with fail
      refine (eq_any _ _ _ _ _ hz172.rd hq177.rd (by omega)).mono ?_
      rintro e u183 ⟨rfl, k182⟩
      have ha184 := ha175.keep k182
      have hb185 := hb176.keep k182
      have hq186 := hq177.keep k182
      have hg187 := hg178.keep k182
      have he188 := he179.keep k182
      have hf189 := hf180.keep k182
      have hz190 := hz172.keep k182
      clear ha175 hb176 hq177 hg178 he179 hf180 hz172
      have K191 := K181.trans k182
      go_wp2_with fail
      refine (held_row _ _ _ _ hg187.rd (by omega) (by omega) (by omega)).mono ?_
      rintro e u193 ⟨rfl, k192⟩
      have ha194 := ha184.keep k192
      have hb195 := hb185.keep k192
      have hq196 := hq186.keep k192
      have hg197 := hg187.keep k192
      have he198 := he188.keep k192
      have hf199 := hf189.keep k192
      have hz200 := hz190.keep k192
      clear ha184 hb185 hq186 hg187 he188 hf189 hz190
      have K201 := K191.trans k192
      go_wp2
      go_ret
      exact ⟨rfl, K201⟩

set_option maxRecDepth 100000 in
theorem lifted (os : Os) (started : os.Started) (H : Type) (enc : TypeId × Value → H) :
    ReturnsInHanded {} Try.checked os 4 .any (Rows.fnExactLiftedSpec.pre6 enc Try.prog Try.f4 Rows.fnExactLiftedRow.domain false) (Rows.fnExactLiftedSpec.post enc Try.prog Try.f4 false true false false) := by
  refine returnsInHanded_of_change (C := Try.checked) own started (by kernel_rfl) Try.func4
    (ChangeSpec.witness6 (enc := enc) (C := Try.checked) false ⟨#[], #[.slice none 0 0, .slice none 0 0], []⟩ 8 (by kernel_rfl) (by kernel_rfl) (by kernel_rfl) (by kernel_rfl)) ?_
  intro W base args ds gs before hval0 hW hcnd _
  have hval : ∀ (j : Nat) t v, Try.f4.params[j]? = some t → args[j]? = some v → Value.okWide Try.prog W .any base t v := hval0
  have hW' := hW
  obtain ⟨p, q, hA0, hV, rfl, hfz, hnd⟩ := hW
  have hA : DataW.TrodAll enc Try.prog W 0 (fun _ => true) true Try.f4.params.toList args.toList ds p := hA0
  rw [Try.params4] at hA hval
  obtain ⟨v0, vs0, d0, ds0, p0, q0, hargs, rfl, rfl, h0, r0⟩ := trodAll_cons hA
  obtain ⟨v1, vs1, d1, ds1, p1, q1, rfl, rfl, rfl, h1, r1⟩ := trodAll_cons r0
  obtain ⟨rfl, rfl, rfl⟩ := trodAll_nil r1
  obtain rfl : args = #[v0, v1] := by cases args; simp_all
  obtain ⟨rfl, rfl⟩ := trodVars_none hV
  obtain ⟨a0, len0, cap0, rfl⟩ := okWide_slice Try.underlying22 (hval 0 22 v0 rfl rfl)
  have k0 := h0
  have lt0 : ∀ x ∈ p0, x.block < W.heap.size := by obtain ⟨m, hm⟩ := k0; exact DataW.trod_lt m _ _ _ hm
  obtain ⟨z0, w0⟩ : ∃ zs, IsRow .i64 W a0 len0 cap0 zs := by
    obtain ⟨fuel, hf⟩ := h0
    rcases open_ints Try.underlying22 Try.underlying2 (by kernel_rfl) hf with ⟨hcs, _⟩ | ⟨x, l, c, zs, hcs, _, hl, hm, hz, _, hcell, hwz⟩
    · simp [Value.cells] at hcs
      obtain ⟨rfl, rfl, rfl⟩ := hcs
      exact ⟨[], .inl ⟨rfl, rfl, rfl, rfl⟩⟩
    · simp [Value.cells] at hcs
      obtain ⟨rfl, rfl, rfl⟩ := hcs
      exact ⟨zs, .inr ⟨_, rfl, hl, hm, by simpa using hz, hcell, hwz⟩⟩
  obtain ⟨a1, len1, cap1, rfl⟩ := okWide_slice Try.underlying22 (hval 1 22 v1 rfl rfl)
  have k1 := h1
  have lt1 : ∀ x ∈ p1, x.block < W.heap.size := by obtain ⟨m, hm⟩ := k1; exact DataW.trod_lt m _ _ _ hm
  obtain ⟨z1, w1⟩ : ∃ zs, IsRow .i64 W a1 len1 cap1 zs := by
    obtain ⟨fuel, hf⟩ := h1
    rcases open_ints Try.underlying22 Try.underlying2 (by kernel_rfl) hf with ⟨hcs, _⟩ | ⟨x, l, c, zs, hcs, _, hl, hm, hz, _, hcell, hwz⟩
    · simp [Value.cells] at hcs
      obtain ⟨rfl, rfl, rfl⟩ := hcs
      exact ⟨[], .inl ⟨rfl, rfl, rfl, rfl⟩⟩
    · simp [Value.cells] at hcs
      obtain ⟨rfl, rfl, rfl⟩ := hcs
      exact ⟨zs, .inr ⟨_, rfl, hl, hm, by simpa using hz, hcell, hwz⟩⟩
  clear hA0 hval0
  refine (walk a0 len0 cap0 z0 a1 len1 cap1 z1 W w0 w1).mono fun e W' ⟨he, bel⟩ => ?_
  subst he
  exact ⟨_, rfl, _, _, _, [], _, [], hW', trodAll_mk1 (shut_bool Try.underlying4 _), (trodAll_cons_mk (Below.trod laidOut (by kernel_rfl) (of_decide_eq_true (by kernel_rfl)) k0 bel lt0) (trodAll_cons_mk (Below.trod laidOut (by kernel_rfl) (of_decide_eq_true (by kernel_rfl)) k1 bel lt1) trodAll_mk0)), rfl, bel.frame _, fun h => by cases h⟩

theorem over : Rows.fnExactLiftedRow.holds Try.pinned (OpenSpec.ofChange Rows.fnExactLiftedSpec) :=
  OpenClaim.holds_of_wide 4 Try.f4 rfl rfl rfl rfl rfl rfl rfl ⟨rfl, rfl, rfl, rfl, rfl⟩ rfl rfl rfl rfl rfl (by kernel_rfl) Try.func4 (by kernel_rfl)
    (of_decide_eq_true (by kernel_rfl)) (by unfold Func.isWrapper; first | (rw [if_pos (by decide +kernel)]; kernel_rfl) | (rw [if_neg (by decide +kernel)]; exact ⟨rfl, rfl⟩))
    (fun os started H enc _ => lifted os started H enc)

theorem proved : Rows.FnExactLiftedSaid := over
#print axioms proved
end Go.Proofs.Ytgclnfhkjnomaai.fnExactLifted
namespace Go.Proofs.Ytgclnfhkjnomaai
theorem fnExactLifted_holds : Rows.FnExactLiftedSaid := fnExactLifted.proved
end Go.Proofs.Ytgclnfhkjnomaai
