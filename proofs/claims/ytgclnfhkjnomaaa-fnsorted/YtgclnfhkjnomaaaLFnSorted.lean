/- Whatever bytes the webs and lists are drawn from, the program's Sorted, Round and Follows answer as the specification does; what is sorted follows, just where it does not go round, and one stands ahead of a lesser one only where a line goes between them: the law FnSorted answers true and its argument stays; no condition. -/
import Derived.Test.YtgclnfhkjnomaaaRows
import Derived.WalkKit
import Derived.ProofKit
import Derived.OpenShut
import Derived.ShutString
import Derived.ChangeOld
import Derived.Below
import Derived.Test.YtgclnfhkjnomaaaSortedI
import Derived.Test.YtgclnfhkjnomaaaSortDraw
import Derived.Test.YtgclnfhkjnomaaaRoundS
import Derived.Test.YtgclnfhkjnomaaaFollowsS
import Derived.Test.YtgclnfhkjnomaaaFollowsI
import Derived.Test.YtgclnfhkjnomaaaSortLaw
import Derived.Test.YtgclnfhkjnomaaaLawA
namespace Go.Proofs.Ytgclnfhkjnomaaa.fnSorted
open Go.ChangeShapes Go.WideShapes Go.ChangeAt Go.RowKit
open Go.ChangeMaps (open_string shut_string)
set_option linter.unusedVariables false

theorem own : ownKnob Try.prog.godebug = none := by kernel_rfl
theorem laidOut : laidOutB Try.prog = true := by kernel_rfl

/-- WHAT THE WALK IS TOLD OF A SLICE OF INTEGERS THAT CAME IN: it is nil; or it leads to a row of 'cap' cells, the numbers 'zs' (the first 'len' are its elements, the rest its spare room), each fitting its kind. -/
def IsRow (k : IntKind) (w : World) (a : Option Addr) (len cap : Nat) (zs : List Int) : Prop :=
  (a = none ∧ len = 0 ∧ cap = 0 ∧ zs = []) ∨
  ∃ x, a = some x ∧ len ≤ cap ∧ cap ≤ maxLen ∧ zs.length = cap ∧ (∀ i, i < zs.length → w.cell? (x.add i) = some (.int k (zs.getD i 0))) ∧ ∀ n ∈ zs, (Lit.int k n).wf = true

set_option maxRecDepth 100000 in
set_option maxHeartbeats 8000000 in
theorem walk (a0 : Option Addr) (len0 cap0 : Nat) (z0 : List Int) (w : World) (w0 : IsRow .u8 w a0 len0 cap0 z0) :
    Calls Try.prog 7 #[.slice a0 len0 cap0] w fun e w' => e = .returned (.bool true) ∧ Below w.heap.size w w' := by
  by_cases hbig : 4096 < len0
  · have hb : decide (4096 < len0) = true := by simpa using hbig
    go_enter Try.func7, Try.ntmps7
    go_wp2_with (go_at_call 8; refine (big_any _ _ _ _).mono ?_; rintro e w' ⟨rfl, rfl⟩)
    go_ret
    exact ⟨rfl, Below.refl _ _⟩
  · obtain ⟨zs, hzl, hrb⟩ := rdb_of_row (by omega) w0
    subst hzl
    have hb : decide (4096 < zs.length) = false := by simpa using hbig
    clear w0 hbig
    go_enter Try.func7, Try.ntmps7
    go_wp2_with fail
    refine (big_any _ _ _ _).mono ?_
    rintro e w1 ⟨rfl, rfl⟩
    go_wp2_with fail
    refine (drawSorted_any _ _ _ _ hrb).mono ?_
    rintro e w2 ⟨vr, l, rfl, rr2, hl, k2⟩
    have s0 := rr2.rd
    obtain ⟨ar, cr, rfl, _⟩ := s0
    have hL12 := sortedL_len l
    go_wp2_with fail
    refine (implSorted_any _ _ _ rr2.rd (by omega)).mono ?_
    rintro e w3 ⟨vl, rfl, rl3, k3⟩
    have rr3 := rr2.keep k3
    have hl3 := rl3.rd
    have K3 := k2.trans k3
    have hrb3 := hrb.up K3
    clear rr2 k2 k3 rl3 hrb
    have s1 := hl3
    obtain ⟨al, cl, rfl, _⟩ := s1
    go_wp2_with fail
    refine (drawFollows_any _ _ _ _ hrb3).mono ?_
    rintro e w4 ⟨vq, vt, lq, lt, rfl, rq4, rt4, hlq, hlt, k4⟩
    have rr4 := rr3.keep k4
    have hl4 := hl3.keep k4
    have hq4 := rq4.rd
    have ht4 := rt4.rd
    have K4 := K3.trans k4
    clear rr3 hl3 K3 k4 hrb3 rq4 rt4
    have s2 := hq4
    obtain ⟨aq, cq, rfl, _⟩ := s2
    have s3 := ht4
    obtain ⟨at', ct', rfl, _⟩ := s3
    go_wp2_with fail
    refine (specSorted_any _ _ _ rr4.rd (by omega)).mono ?_
    rintro e w5 ⟨vx, rfl, rx5, k5⟩
    have rr5 := rr4.keep k5
    have hl5 := hl4.keep k5
    have hq5 := hq4.keep k5
    have ht5 := ht4.keep k5
    have K5 := K4.trans k5
    clear rr4 hl4 hq4 ht4 K4 k5
    have e0 : decide (sortedL l = sortedL l) = true := by simp
    go_wp2_with fail
    refine (like_any _ _ _ _ _ hl5 rx5.rd (by omega)).mono ?_
    rintro e w6 ⟨rfl, k6⟩
    have rr6 := rr5.keep k6
    have hl6 := hl5.keep k6
    have hq6 := hq5.keep k6
    have ht6 := ht5.keep k6
    have K6 := K5.trans k6
    clear rr5 hl5 hq5 ht5 K5 k6 rx5
    go_wp2_with fail
    refine (implRound_any _ _ _ rr6.rd (by omega)).mono ?_
    rintro e w7 ⟨rfl, k7⟩
    have rr7 := rr6.keep k7
    have hl7 := hl6.keep k7
    have hq7 := hq6.keep k7
    have ht7 := ht6.keep k7
    have K7 := K6.trans k7
    clear rr6 hl6 hq6 ht6 K6 k7 e0
    go_wp2_with fail
    refine (specRound_any _ _ _ _ rr7 (by omega)).mono ?_
    rintro e w8 ⟨rfl, k8⟩
    have rr8 := rr7.keep k8
    have hl8 := hl7.keep k8
    have hq8 := hq7.keep k8
    have ht8 := ht7.keep k8
    have K8 := K7.trans k8
    clear rr7 hl7 hq7 ht7 K7 k8
    go_wp2_with fail
    refine (implFollows_any _ _ _ _ _ hq8 ht8 (by omega) (by omega)).mono ?_
    rintro e w9 ⟨rfl, rfl⟩
    go_wp2_with fail
    refine (specFollows_any _ _ _ _ _ hq8 ht8 (by omega) (by omega)).mono ?_
    rintro e w10 ⟨rfl, rfl⟩
    clear hq8 ht8
    have hr8 := rr8.rd
    clear rr8
    cases hweb : webB l
    · have HO : Hid (sortedO l = none) := sorted_bad hweb
      have hB : sortedB l = false := sortedB_none HO.out
      have hR : roundB l = false := round_bad hweb
      have h0 : (((sortedL l).length : Int) == 0) = true := by rw [sortedL_none HO.out]; rfl
      go_wp2_with fail
      refine (specWebOk_any _ _ _ hr8 (by omega)).mono ?_
      rintro e w11 ⟨rfl, rfl⟩
      go_wp2_with fail
      refine (implRound_any _ _ _ hr8 (by omega)).mono ?_
      rintro e w12 ⟨rfl, k12⟩
      go_wp2
      go_ret
      exact ⟨rfl, K8.trans k12⟩
    · cases hR : roundB l
      · have hB : sortedB l = true := by rw [sorted_iff (web_iff.1 hweb), hR]; rfl
        have HF : Hid ((∀ x ∈ sortedL l, ∃ j : Nat, x = j ∧ j < l.length) ∧ (∀ p, p + 1 < (sortedL l).length → (sortedL l).getD (p + 1) 0 < (sortedL l).getD p 0 → inSetB (l.getD ((sortedL l).getD p 0).toNat 0) ((sortedL l).getD (p + 1) 0) = true) ∧ followsB l (sortedL l) = true) := sorted_facts hweb hB
        generalize sortedL l = L at *
        go_wp2_with fail
        refine (specWebOk_any _ _ _ hr8 (by omega)).mono ?_
        rintro e w11 ⟨rfl, rfl⟩
        go_wp2_with fail
        refine (implRound_any _ _ _ hr8 (by omega)).mono ?_
        rintro e w12 ⟨rfl, k12⟩
        have hr9 := hr8.keep k12
        have hl9 := hl8.keep k12
        have K9 := K8.trans k12
        clear hr8 hl8 K8 k12
        have rr9 := hr9
        have rl9 := hl9
        obtain ⟨ar', cr', hv, hrc⟩ := hr9
        cases hv
        obtain ⟨al', cl', hv, hlc⟩ := hl9
        cases hv
        go_wp2_with fail
        clear hweb hR hB
        go_loopw [10] (fun i wr => ∃ k : Nat, 1 ≤ k ∧ k ≤ 13 ∧ i = .int .i64 k ∧ Keep w12 wr) (fun i _ => 14 - (intOf i).toNat)
        case atStart => exact ⟨1, by omega, by omega, rfl, Keep.refl _⟩
        case round =>
          obtain ⟨k, hk1, hk13, rfl, hK⟩ := hrel
          by_cases hkl : k < L.length
          · rcases hlc with h | ⟨b1, o1, rfl, hb1, hc1⟩
            · exfalso; rw [h] at hkl; simp at hkl
            obtain ⟨m, hm1, hm2⟩ : ∃ m : Nat, (k : Int) - 1 = (m : Int) ∧ k = m + 1 := ⟨k - 1, by omega, by omega⟩
            have hml : m + 1 < L.length := by omega
            have HLow := HF.out.1 _ (getD_mem (show m < L.length by omega))
            obtain ⟨j, hj, hjl⟩ := HLow
            rcases hrc with h | ⟨b2, o2, rfl, hb2, hc2⟩
            · exfalso; rw [h] at hjl; simp at hjl
            have HI := HF.out.2.1 m hml
            rw [hj, show ((j : Int)).toNat = j from by omega] at HI
            rw [← hm2] at HI
            have d0 := (hK.cell hb1).trans (hc1 k hkl)
            have d1 := (hK.cell hb1).trans (hc1 m (by omega))
            have d2 := (hK.cell hb2).trans (hc2 j hjl)
            rw [hj] at d1
            obtain ⟨x, hx⟩ : ∃ x, x = L.getD k 0 := ⟨_, rfl⟩
            obtain ⟨z, hz⟩ : ∃ z, z = l.getD j 0 := ⟨_, rfl⟩
            rw [← hx] at d0 HI
            rw [← hz] at d2 HI
            have HII : Hid (x < (j : Int) → inSetB z x = true) := HI
            clear hc1 hc2 hx hz hj HI hm2
            have i1 : (0 : Int) ≤ (m : Int) := Int.natCast_nonneg _
            have i2 : (m : Int) < (L.length : Int) := by omega
            have i3 : (k : Int) < (L.length : Int) := by omega
            have i6 : (0 : Int) ≤ (k : Int) := Int.natCast_nonneg _
            have i4 : (0 : Int) ≤ (j : Int) := Int.natCast_nonneg _
            have i5 : (j : Int) < (l.length : Int) := by omega
            cases hxj : decide (x < (j : Int)) with
            | true =>
              have hin := HII.out (of_decide_eq_true hxj)
              go_wp2
              go_quiet ((go_at_call 20; refine Calls.quiet_of_same (implInSet_any _ _ _)))
              have hK2 := hK.drewN nq
              go_wp2
              go_roundw
              case rel => exact ⟨k + 1, by omega, by omega, by go_num, hK2⟩
              case measure => simp [intOf]; omega
            | false =>
              go_wp2
              go_quiet (fail)
              have hK2 := hK.drewN nq
              go_wp2
              go_roundw
              case rel => exact ⟨k + 1, by omega, by omega, by go_num, hK2⟩
              case measure => simp [intOf]; omega
          · have hf : followsB l L = true := HF.out.2.2
            go_wp2_with fail
            refine (implFollows_any _ _ _ _ _ (rr9.keep hK) (rl9.keep hK) (by omega) (by omega)).mono ?_
            rintro e w13 ⟨rfl, rfl⟩
            go_wp2
            go_ret
            exact ⟨rfl, K9.trans hK⟩
      · have hB : sortedB l = false := by rw [sorted_iff (web_iff.1 hweb), hR]; rfl
        have HO : Hid (sortedO l = none) := sorted_of_b hB
        have h0 : (((sortedL l).length : Int) == 0) = true := by rw [sortedL_none HO.out]; rfl
        go_wp2_with fail
        refine (specWebOk_any _ _ _ hr8 (by omega)).mono ?_
        rintro e w11 ⟨rfl, rfl⟩
        go_wp2_with fail
        refine (implRound_any _ _ _ hr8 (by omega)).mono ?_
        rintro e w12 ⟨rfl, k12⟩
        go_wp2
        go_ret
        exact ⟨rfl, K8.trans k12⟩

set_option maxRecDepth 100000 in
theorem lifted (os : Os) (started : os.Started) (H : Type) (enc : TypeId × Value → H) :
    ReturnsInHanded {} Try.checked os 7 .any (Rows.fnSortedSpec.pre6 enc Try.prog Try.f7 Rows.fnSortedRow.domain false) (Rows.fnSortedSpec.post enc Try.prog Try.f7 false true false false) := by
  refine returnsInHanded_of_change (C := Try.checked) own started (by kernel_rfl) Try.func7
    (ChangeSpec.witness6 (enc := enc) (C := Try.checked) false ⟨#[], #[.slice none 0 0], []⟩ 8 (by kernel_rfl) (by kernel_rfl) (by kernel_rfl) (by kernel_rfl)) ?_
  intro W base args ds gs before hval0 hW hcnd _
  have hval : ∀ (j : Nat) t v, Try.f7.params[j]? = some t → args[j]? = some v → Value.okWide Try.prog W .any base t v := hval0
  have hW' := hW
  obtain ⟨p, q, hA0, hV, rfl, hfz, hnd⟩ := hW
  have hA : DataW.TrodAll enc Try.prog W 0 (fun _ => true) true Try.f7.params.toList args.toList ds p := hA0
  rw [Try.params7] at hA hval
  obtain ⟨v0, vs0, d0, ds0, p0, q0, hargs, rfl, rfl, h0, r0⟩ := trodAll_cons hA
  obtain ⟨rfl, rfl, rfl⟩ := trodAll_nil r0
  obtain rfl : args = #[v0] := by cases args; simp_all
  obtain ⟨rfl, rfl⟩ := trodVars_none hV
  obtain ⟨a0, len0, cap0, rfl⟩ := okWide_slice Try.underlying22 (hval 0 22 v0 rfl rfl)
  have k0 := h0
  have lt0 : ∀ x ∈ p0, x.block < W.heap.size := by obtain ⟨m, hm⟩ := k0; exact DataW.trod_lt m _ _ _ hm
  obtain ⟨z0, w0⟩ : ∃ zs, IsRow .u8 W a0 len0 cap0 zs := by
    obtain ⟨fuel, hf⟩ := h0
    rcases open_ints Try.underlying22 Try.underlying5 (by kernel_rfl) hf with ⟨hcs, _⟩ | ⟨x, l, c, zs, hcs, _, hl, hm, hz, _, hcell, hwz⟩
    · simp [Value.cells] at hcs
      obtain ⟨rfl, rfl, rfl⟩ := hcs
      exact ⟨[], .inl ⟨rfl, rfl, rfl, rfl⟩⟩
    · simp [Value.cells] at hcs
      obtain ⟨rfl, rfl, rfl⟩ := hcs
      exact ⟨zs, .inr ⟨_, rfl, hl, hm, by simpa using hz, hcell, hwz⟩⟩
  clear hA0 hval0
  refine (walk a0 len0 cap0 z0 W w0).mono fun e W' ⟨he, bel⟩ => ?_
  subst he
  exact ⟨_, rfl, _, _, _, [], _, [], hW', trodAll_mk1 (shut_bool Try.underlying4 _), (trodAll_cons_mk (Below.trod laidOut (by kernel_rfl) (of_decide_eq_true (by kernel_rfl)) k0 bel lt0) trodAll_mk0), rfl, bel.frame _, fun h => by cases h⟩

theorem over : Rows.fnSortedRow.holds Try.pinned (OpenSpec.ofChange Rows.fnSortedSpec) :=
  OpenClaim.holds_of_wide 7 Try.f7 rfl rfl rfl rfl rfl rfl rfl ⟨rfl, rfl, rfl, rfl, rfl⟩ rfl rfl rfl rfl rfl (by kernel_rfl) Try.func7 (by kernel_rfl)
    (of_decide_eq_true (by kernel_rfl)) (by unfold Func.isWrapper; first | (rw [if_pos (by decide +kernel)]; kernel_rfl) | (rw [if_neg (by decide +kernel)]; exact ⟨rfl, rfl⟩))
    (fun os started H enc _ => lifted os started H enc)

theorem proved : Rows.FnSortedSaid := over
#print axioms proved
end Go.Proofs.Ytgclnfhkjnomaaa.fnSorted
namespace Go.Proofs.Ytgclnfhkjnomaaa
theorem fnSorted_holds : Rows.FnSortedSaid := fnSorted.proved
end Go.Proofs.Ytgclnfhkjnomaaa
