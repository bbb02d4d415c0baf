/- Whatever bytes the inputs are drawn from, what the program's chapter 1 answers there is what the specification answers, members rise, a gathered set has just the list's numbers and the members of a set gather to it: the law FnSets answers true and its argument stays; no condition. -/
import Derived.Test.YtmigdnceidbppaaRows
import Derived.WalkKit
import Derived.ProofKit
import Derived.OpenShut
import Derived.ShutString
import Derived.ChangeOld
import Derived.Below
import Derived.Test.YtmigdnceidbppaaMembers
import Derived.Test.YtmigdnceidbppaaGathered
import Derived.Test.YtmigdnceidbppaaDraw
import Derived.Test.YtmigdnceidbppaaLawAid
import Derived.Test.YtmigdnceidbppaaSetMath
namespace Go.Proofs.Ytmigdnceidbppaa.fnSets
open Go.ChangeShapes Go.WideShapes Go.ChangeAt Go.RowKit
open Go.ChangeMaps (open_string shut_string)
set_option linter.unusedVariables false

theorem own : ownKnob Try.prog.godebug = none := by kernel_rfl
theorem laidOut : laidOutB Try.prog = true := by kernel_rfl

/-- WHAT THE WALK IS TOLD OF A SLICE OF INTEGERS THAT CAME IN: it is nil; or it leads to a row of 'cap' cells, the numbers 'zs' (the first 'len' are its elements, the rest its spare room), each fitting its kind. -/
def IsRow (k : IntKind) (w : World) (a : Option Addr) (len cap : Nat) (zs : List Int) : Prop :=
  (a = none ∧ len = 0 ∧ cap = 0 ∧ zs = []) ∨
  ∃ x, a = some x ∧ len ≤ cap ∧ cap ≤ maxLen ∧ zs.length = cap ∧ (∀ i, i < zs.length → w.cell? (x.add i) = some (.int k (zs.getD i 0))) ∧ ∀ n ∈ zs, (Lit.int k n).wf = true

set_option maxHeartbeats 8000000 in
theorem walk (a0 : Option Addr) (len0 cap0 : Nat) (z0 : List Int) (w : World) (w0 : IsRow .u8 w a0 len0 cap0 z0) :
    Calls Try.prog 3 #[.slice a0 len0 cap0] w fun e w' => e = .returned (.bool true) ∧ Below w.heap.size w w' := by
  by_cases hbig : 4096 < len0
  · have hb : decide (4096 < len0) = true := by simpa using hbig
    go_enter Try.func3, Try.ntmps3
    go_wp2_with (go_at_call 7; refine (big_any _ _ _ _).mono ?_; rintro e w' ⟨rfl, rfl⟩)
    go_ret
    exact ⟨rfl, Below.refl _ _⟩
  · obtain ⟨zs, hzl, hrb⟩ := rdb_of_row (by omega) w0
    subst hzl
    have hb : decide (4096 < zs.length) = false := by simpa using hbig
    clear w0
    go_enter Try.func3, Try.ntmps3
    go_wp2_with fail
    refine (big_any _ _ _ _).mono ?_
    rintro e w1 ⟨rfl, rfl⟩
    go_wp2_with fail
    refine (drawMembers_any _ _ _ _ hrb).mono ?_
    rintro e w2 ⟨s, rfl, k2⟩
    have hml := mem_len s 12
    have rb2 := hrb.up k2
    go_wp2_with fail
    refine (implMembers_any _ _).mono ?_
    rintro e w3 ⟨vm, rfl, om, k3⟩
    obtain ⟨am, cm, hvm, _⟩ := om.rd
    subst hvm
    have rb3 := rb2.up k3
    go_wp2_with fail
    refine (drawGathered_any _ _ _ _ rb3).mono ?_
    rintro e w4 ⟨vl, l, rfl, ol, hl8, k4⟩
    have rb4 := rb3.up k4
    have om4 := om.keep k4
    clear om rb2 rb3
    go_wp2_with fail
    refine (implGathered_any _ _ _ ol.rd (by omega)).mono ?_
    rintro e w4' ⟨rfl, rfl⟩
    go_wp2_with fail
    refine (drawSetOk_any _ _ _ _ rb4).mono ?_
    rintro e w5 ⟨n, t, rfl, k5⟩
    have rb5 := rb4.up k5
    have om5 := om4.keep k5
    have ol5 := ol.keep k5
    clear rb4 om4 ol
    go_wp2_with fail
    refine (drawInSet_any _ _ _ _ rb5).mono ?_
    rintro e w6 ⟨u, i, rfl, k6⟩
    have om6 := om5.keep k6
    have ol6 := ol5.keep k6
    clear rb5 om5 ol5
    go_wp2_with fail
    refine (specMembers_any _ _).mono ?_
    rintro e w7 ⟨vs, rfl, os7, k7⟩
    have om7 := om6.keep k7
    have ol7 := ol6.keep k7
    clear om6 ol6
    go_wp2_with fail
    refine (like_any _ _ _ _ _ om7.rd os7.rd (by omega)).mono ?_
    rintro e w8 ⟨rfl, k8⟩
    have om8 := om7.keep k8
    have ol8 := ol7.keep k8
    have K8 : Keep w1 w8 := (((((k2.trans k3).trans k4).trans k5).trans k6).trans k7).trans k8
    clear om7 ol7 os7 k2 k3 k4 k5 k6 k7 k8 hrb
    have heq : decide (mem s 12 = mem s 12) = true := by simp
    go_wp2_with fail
    refine (specGathered_any _ _ _ ol8.rd (by omega)).mono ?_
    rintro e w8' ⟨rfl, rfl⟩
    go_wp2_with fail
    refine (implSetOk_any _ _ _).mono ?_
    rintro e w8' ⟨rfl, rfl⟩
    go_wp2_with fail
    refine (specSetOk_any _ _ _).mono ?_
    rintro e w8' ⟨rfl, rfl⟩
    go_wp2_with fail
    refine (implInSet_any _ _ _).mono ?_
    rintro e w8' ⟨rfl, rfl⟩
    go_wp2_with fail
    refine (specInSet_any _ _ _).mono ?_
    rintro e w8' ⟨rfl, rfl⟩
    go_wp2_with fail
    refine (rises_any _ _ _ om8.rd (by omega) (mem_step s 12)).mono ?_
    rintro e w9 ⟨rfl, k9⟩
    have om9 := om8.keep k9
    have ol9 := ol8.keep k9
    have K9 := K8.trans k9
    clear om8 ol8 K8 k9
    by_cases hg : 0 ≤ gath l
    · have hhas := gath_has l hg
      go_wp2_with fail
      go_loopw [11] (fun i wr => ∃ k : Nat, k ≤ 12 ∧ i = .int .i64 k ∧ Own wr w2.heap.size (.slice am (mem s 12).length cm) (mem s 12) ∧ Own wr w3.heap.size vl l ∧ Keep w1 wr) (fun i _ => 12 - (intOf i).toNat)
      case atStart => exact ⟨0, by omega, rfl, om9, ol9, K9⟩
      case round =>
        clear om9 ol9 K9
        obtain ⟨k, hk, rfl, om9, ol9, K9⟩ := hrel
        by_cases hlt : k < 12
        · have hk1 := hhas k hlt
          clear hhas
          cases hq : hasB (k : Int) l
          all_goals
            rw [hq] at hk1
            go_wp2_with fail
            refine (implInSet_any _ _ _).mono ?_
            rintro e w9' ⟨rfl, rfl⟩
            go_wp2_with fail
            refine (has_list _ _ _ _ ol9.rd (by omega)).mono ?_
            rintro e w9' ⟨rfl, rfl⟩
            go_wp2
            go_roundw
            case rel => exact ⟨k + 1, by omega, by go_num, om9, ol9, K9⟩
            case measure => simp [intOf]; omega
        · clear hhas
          cases hs : inB s 0 4095
          · have hm0 : (((mem s 12).length : Int) == 0) = true := by rw [mem_out s hs]; rfl
            simp only [inB, decide_eq_false_iff_not] at hs
            by_cases hs0 : s < 0
            · go_wp2
              go_ret
              exact ⟨rfl, K9⟩
            · have hs1 : 4095 < s := by omega
              clear hs
              go_wp2
              go_ret
              exact ⟨rfl, K9⟩
          · have hgm : (gath (mem s 12) == s) = true := by rw [gath_mem s hs]; simp
            have hok : okB 12 s = true := by
              simp only [inB, decide_eq_true_eq] at hs
              unfold okB; simp; omega
            simp only [inB, decide_eq_true_eq] at hs
            obtain ⟨s0, s1⟩ := hs
            go_wp2_with fail
            refine (implGathered_any _ _ _ om9.rd (by omega)).mono ?_
            rintro e w9' ⟨rfl, rfl⟩
            go_wp2_with fail
            refine (implSetOk_any _ _ _).mono ?_
            rintro e w9' ⟨rfl, rfl⟩
            go_wp2
            go_ret
            exact ⟨rfl, K9⟩
    · have hg' : gath l < 0 := by omega
      clear hg
      cases hs : inB s 0 4095
      · have hm0 : (((mem s 12).length : Int) == 0) = true := by rw [mem_out s hs]; rfl
        simp only [inB, decide_eq_false_iff_not] at hs
        by_cases hs0 : s < 0
        · go_wp2
          go_ret
          exact ⟨rfl, K9⟩
        · have hs1 : 4095 < s := by omega
          clear hs
          go_wp2
          go_ret
          exact ⟨rfl, K9⟩
      · have hgm : (gath (mem s 12) == s) = true := by rw [gath_mem s hs]; simp
        have hok : okB 12 s = true := by
          simp only [inB, decide_eq_true_eq] at hs
          unfold okB; simp; omega
        simp only [inB, decide_eq_true_eq] at hs
        obtain ⟨s0, s1⟩ := hs
        go_wp2_with fail
        refine (implGathered_any _ _ _ om9.rd (by omega)).mono ?_
        rintro e w9' ⟨rfl, rfl⟩
        go_wp2_with fail
        refine (implSetOk_any _ _ _).mono ?_
        rintro e w9' ⟨rfl, rfl⟩
        go_wp2
        go_ret
        exact ⟨rfl, K9⟩

set_option maxRecDepth 100000 in
theorem lifted (os : Os) (started : os.Started) (H : Type) (enc : TypeId × Value → H) :
    ReturnsInHanded {} Try.checked os 3 .any (Rows.fnSetsSpec.pre6 enc Try.prog Try.f3 Rows.fnSetsRow.domain false) (Rows.fnSetsSpec.post enc Try.prog Try.f3 false true false false) := by
  refine returnsInHanded_of_change (C := Try.checked) own started (by kernel_rfl) Try.func3
    (ChangeSpec.witness6 (enc := enc) (C := Try.checked) false ⟨#[], #[.slice none 0 0], []⟩ 8 (by kernel_rfl) (by kernel_rfl) (by kernel_rfl) (by kernel_rfl)) ?_
  intro W base args ds gs before hval0 hW hcnd _
  have hval : ∀ (j : Nat) t v, Try.f3.params[j]? = some t → args[j]? = some v → Value.okWide Try.prog W .any base t v := hval0
  have hW' := hW
  obtain ⟨p, q, hA0, hV, rfl, hfz, hnd⟩ := hW
  have hA : DataW.TrodAll enc Try.prog W 0 (fun _ => true) true Try.f3.params.toList args.toList ds p := hA0
  rw [Try.params3] at hA hval
  obtain ⟨v0, vs0, d0, ds0, p0, q0, hargs, rfl, rfl, h0, r0⟩ := trodAll_cons hA
  obtain ⟨rfl, rfl, rfl⟩ := trodAll_nil r0
  obtain rfl : args = #[v0] := by cases args; simp_all
  obtain ⟨rfl, rfl⟩ := trodVars_none hV
  obtain ⟨a0, len0, cap0, rfl⟩ := okWide_slice Try.underlying22 (hval 0 22 v0 rfl rfl)
  have k0 := h0
  have lt0 : ∀ x ∈ p0, x.block < W.heap.size := by obtain ⟨m, hm⟩ := k0; exact DataW.trod_lt m _ _ _ hm
  obtain ⟨z0, w0⟩ : ∃ zs, IsRow .u8 W a0 len0 cap0 zs := by
    obtain ⟨fuel, hf⟩ := h0
    rcases open_ints Try.underlying22 Try.underlying5 (by kernel_rfl) hf with ⟨hcs, _⟩ | ⟨x, l, c, zs, hcs, _, hl, hm, hz, _, hcell, hwz⟩
    · simp [Value.cells] at hcs
      obtain ⟨rfl, rfl, rfl⟩ := hcs
      exact ⟨[], .inl ⟨rfl, rfl, rfl, rfl⟩⟩
    · simp [Value.cells] at hcs
      obtain ⟨rfl, rfl, rfl⟩ := hcs
      exact ⟨zs, .inr ⟨_, rfl, hl, hm, by simpa using hz, hcell, hwz⟩⟩
  clear hA0 hval0
  refine (walk a0 len0 cap0 z0 W w0).mono fun e W' ⟨he, bel⟩ => ?_
  subst he
  exact ⟨_, rfl, _, _, _, [], _, [], hW', trodAll_mk1 (shut_bool Try.underlying4 _), (trodAll_cons_mk (Below.trod laidOut (by kernel_rfl) (of_decide_eq_true (by kernel_rfl)) k0 bel lt0) trodAll_mk0), rfl, bel.frame _, fun h => by cases h⟩

theorem over : Rows.fnSetsRow.holds Try.pinned (OpenSpec.ofChange Rows.fnSetsSpec) :=
  OpenClaim.holds_of_wide 3 Try.f3 rfl rfl rfl rfl rfl rfl rfl ⟨rfl, rfl, rfl, rfl, rfl⟩ rfl rfl rfl rfl rfl (by kernel_rfl) Try.func3 (by kernel_rfl)
    (of_decide_eq_true (by kernel_rfl)) (by unfold Func.isWrapper; first | (rw [if_pos (by decide +kernel)]; kernel_rfl) | (rw [if_neg (by decide +kernel)]; exact ⟨rfl, rfl⟩))
    (fun os started H enc _ => lifted os started H enc)

theorem proved : Rows.FnSetsSaid := over
#print axioms proved
end Go.Proofs.Ytmigdnceidbppaa.fnSets
namespace Go.Proofs.Ytmigdnceidbppaa
theorem fnSets_holds : Rows.FnSetsSaid := fnSets.proved
end Go.Proofs.Ytmigdnceidbppaa
