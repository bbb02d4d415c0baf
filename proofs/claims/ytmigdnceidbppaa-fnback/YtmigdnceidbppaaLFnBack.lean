/- Whatever bytes the web is drawn from, the program's Back answers as the specification does; each line goes the other way, turned round twice the web is as it was: the law FnBack answers true and its argument stays; no condition. -/
import Derived.Test.YtmigdnceidbppaaRows
import Derived.WalkKit
import Derived.ProofKit
import Derived.OpenShut
import Derived.ShutString
import Derived.ChangeOld
import Derived.Below
import Derived.Test.YtmigdnceidbppaaBackI
import Derived.Test.YtmigdnceidbppaaBackS
import Derived.Test.YtmigdnceidbppaaWebDraw
import Derived.Test.YtmigdnceidbppaaWithin
import Derived.Test.YtmigdnceidbppaaExactAid
import Derived.Test.YtmigdnceidbppaaWebMath
namespace Go.Proofs.Ytmigdnceidbppaa.fnBack
open Go.ChangeShapes Go.WideShapes Go.ChangeAt Go.RowKit
open Go.ChangeMaps (open_string shut_string)
set_option linter.unusedVariables false

theorem own : ownKnob Try.prog.godebug = none := by kernel_rfl
theorem laidOut : laidOutB Try.prog = true := by kernel_rfl

/-- WHAT THE WALK IS TOLD OF A SLICE OF INTEGERS THAT CAME IN: it is nil; or it leads to a row of 'cap' cells, the numbers 'zs' (the first 'len' are its elements, the rest its spare room), each fitting its kind. -/
def IsRow (k : IntKind) (w : World) (a : Option Addr) (len cap : Nat) (zs : List Int) : Prop :=
  (a = none ∧ len = 0 ∧ cap = 0 ∧ zs = []) ∨
  ∃ x, a = some x ∧ len ≤ cap ∧ cap ≤ maxLen ∧ zs.length = cap ∧ (∀ i, i < zs.length → w.cell? (x.add i) = some (.int k (zs.getD i 0))) ∧ ∀ n ∈ zs, (Lit.int k n).wf = true

set_option maxHeartbeats 8000000 in
theorem walk (a0 : Option Addr) (len0 cap0 : Nat) (z0 : List Int) (w : World) (w0 : IsRow .u8 w a0 len0 cap0 z0) :
    Calls Try.prog 5 #[.slice a0 len0 cap0] w fun e w' => e = .returned (.bool true) ∧ Below w.heap.size w w' := by
  by_cases hbig : 4096 < len0
  · have hb : decide (4096 < len0) = true := by simpa using hbig
    go_enter Try.func5, Try.ntmps5
    go_wp2_with (go_at_call 7; refine (big_any _ _ _ _).mono ?_; rintro e w' ⟨rfl, rfl⟩)
    go_ret
    exact ⟨rfl, Below.refl _ _⟩
  · obtain ⟨zs, hzl, hrb⟩ := rdb_of_row (by omega) w0
    subst hzl
    have hb : decide (4096 < zs.length) = false := by simpa using hbig
    clear w0 hbig
    go_enter Try.func5, Try.ntmps5
    go_wp2_with fail
    refine (big_any _ _ _ _).mono ?_
    rintro e w1 ⟨rfl, rfl⟩
    go_wp2_with fail
    refine (drawBack_any _ _ _ _ hrb).mono ?_
    rintro e w2 ⟨vr, l, rfl, rr, hl, k2⟩
    clear hrb
    have hr := rr.rd
    clear rr
    have s0 := hr
    obtain ⟨ar, cr, rfl, _⟩ := s0
    have hx12 := backL_len l
    go_wp2_with fail
    refine (implBack_any _ _ _ hr (by omega)).mono ?_
    rintro e u4 ⟨v1, rfl, r2, k3⟩
    have hr5 := hr.keep k3
    have K6 := k2.trans k3
    clear hr k2 k3
    have hx7 := r2.rd
    clear r2
    have s8 := hx7
    obtain ⟨ax, cx, rfl, _⟩ := s8
    go_wp2_with fail
    refine (specBack_any _ _ _ hr5 (by omega)).mono ?_
    rintro e u12 ⟨v9, rfl, r10, k11⟩
    have hr13 := hr5.keep k11
    have hx14 := hx7.keep k11
    have K15 := K6.trans k11
    clear hr5 hx7 K6 k11
    have hq16 := r10.rd
    clear r10
    have e0 : decide (backL l = backL l) = true := by simp
    go_wp2_with fail
    refine (like_any _ _ _ _ _ hx14 hq16 (by omega)).mono ?_
    rintro e u18 ⟨rfl, k17⟩
    have hr19 := hr13.keep k17
    have hx20 := hx14.keep k17
    have hq21 := hq16.keep k17
    have K22 := K15.trans k17
    clear hr13 hx14 hq16 K15 k17
    clear hq21
    cases hwb : webB l
    · have hw0 : (((backL l).length : Int) == 0) = true := by unfold backL; rw [hwb]; rfl
      go_wp2_with fail
      refine (specWebOk_any _ _ _ hr19 (by omega)).mono ?_
      rintro e u23 ⟨rfl, rfl⟩
      go_wp2
      go_ret
      exact ⟨rfl, K22⟩
    · have hz : Web l.length l := web_iff.1 hwb
      have HZ : Hid (Web l.length l) := hz
      have hxl : (backL l).length = l.length := (web_back hz).1.2.1
      have hx1 : (backL l).length ≤ l.length := by omega
      have hx2 : l.length ≤ (backL l).length := by omega
      have HB : Hid (backL (backL l) = l) := back_back hz
      have HX : Hid (webB (backL l) = true) := (web_back hz).1.b
      have HL : Hid (∀ i k, i < l.length → k < l.length → inSetB ((backL l).getD k 0) i = inSetB (l.getD i 0) k) := fun i k hi hk => (web_back hz).2 k i hk hi
      clear hz hxl
      go_wp2_with fail
      refine (specWebOk_any _ _ _ hr19 (by omega)).mono ?_
      rintro e u24 ⟨rfl, rfl⟩
      go_wp2_with fail
      go_loopw [5] (fun i wr => ∃ k : Nat, k ≤ l.length ∧ i = .int .i64 k ∧ Rd wr (.slice ar l.length cr) l ∧ Rd wr (.slice ax (backL l).length cx) (backL l) ∧ Keep w1 wr) (fun i _ => l.length - (intOf i).toNat)
      case atStart => exact ⟨0, Nat.zero_le _, rfl, hr19, hx20, K22⟩
      case round =>
        clear hr19 hx20 K22
        obtain ⟨i, hi, rfl, hr, hx, hK⟩ := hrel
        by_cases hlt : i < l.length
        · obtain ⟨wo, rfl⟩ : ∃ wo : World, wo = wr := ⟨_, rfl⟩
          go_wp2_with fail
          go_loopw [6] (fun j wr => ∃ k : Nat, k ≤ l.length ∧ j = .int .i64 k ∧ Rd wr (.slice ar l.length cr) l ∧ Rd wr (.slice ax (backL l).length cx) (backL l) ∧ Keep w1 wr) (fun j _ => l.length - (intOf j).toNat)
          case atStart => exact ⟨0, Nat.zero_le _, rfl, hr, hx, hK⟩
          case round =>
            clear hr hx hK
            obtain ⟨k, hk, rfl, hr, hx, hK⟩ := hrel
            by_cases hkl : k < l.length
            · have r1 := hr
              have r2 := hx
              obtain ⟨a1, c1, hv1, h1⟩ := r1
              obtain ⟨a2, c2, hv2, h2⟩ := r2
              cases hv1
              cases hv2
              rcases h1 with h | ⟨b1, o1, rfl, hb1, hc1⟩
              · exfalso; rw [h] at hlt; simp at hlt
              rcases h2 with h | ⟨b2, o2, rfl, hb2, hc2⟩
              · exfalso; rw [h] at hx2; simp only [List.length_nil] at hx2; omega
              have d1 := hc1 i hlt
              have d2 := hc2 k (by omega)
              have hq := HL.out i k hlt hkl
              clear hc1 hc2
              generalize l.getD i 0 = x at d1 hq
              generalize (backL l).getD k 0 = y at d2 hq
              have i1 : (0 : Int) ≤ (i : Int) := Int.natCast_nonneg _
              have i2 : (i : Int) < (l.length : Int) := by omega
              have i3 : (0 : Int) ≤ (k : Int) := Int.natCast_nonneg _
              have i4 : (k : Int) < ((backL l).length : Int) := by omega
              cases hbt : inSetB x k
              all_goals
                rw [hbt] at hq
                go_wp2_with fail
                go_quiet ((go_at_call 19; refine Calls.quiet_of_same (implInSet_any _ _ _)))
                go_wp2
                go_roundw
                case rel => exact ⟨k + 1, by omega, by go_num, hr.keep ((Keep.refl _).drewN _), hx.keep ((Keep.refl _).drewN _), hK.drewN _⟩
                case measure => simp [intOf]; omega
            · go_wp2
              go_roundw
              case rel => exact ⟨i + 1, by omega, by go_num, hr, hx, hK⟩
              case measure => simp [intOf]; omega
        · clear HL
          have hbb := backL_len (backL l)
          go_wp2_with fail
          refine (implBack_any _ _ _ hx (by omega)).mono ?_
          rintro e u28 ⟨v25, rfl, r26, k27⟩
          have hr29 := hr.keep k27
          have hx30 := hx.keep k27
          have K31 := hK.trans k27
          clear hr hx hK k27
          have hy32 := r26.rd
          clear r26
          have e2 : decide (backL (backL l) = l) = true := by rw [decide_eq_true_eq]; exact HB.out
          go_wp2_with fail
          refine (like_any _ _ _ _ _ hy32 hr29 (by omega)).mono ?_
          rintro e u34 ⟨rfl, k33⟩
          have hr35 := hr29.keep k33
          have hx36 := hx30.keep k33
          have hy37 := hy32.keep k33
          have K38 := K31.trans k33
          clear hr29 hx30 hy32 K31 k33
          have e3 : webB (backL l) = true := HX.out
          go_wp2_with fail
          refine (implWebOk_any _ _ _ hx36 (by omega)).mono ?_
          rintro e u39 ⟨rfl, rfl⟩
          go_wp2
          go_ret
          exact ⟨rfl, K38⟩

set_option maxRecDepth 100000 in
theorem lifted (os : Os) (started : os.Started) (H : Type) (enc : TypeId × Value → H) :
    ReturnsInHanded {} Try.checked os 5 .any (Rows.fnBackSpec.pre6 enc Try.prog Try.f5 Rows.fnBackRow.domain false) (Rows.fnBackSpec.post enc Try.prog Try.f5 false true false false) := by
  refine returnsInHanded_of_change (C := Try.checked) own started (by kernel_rfl) Try.func5
    (ChangeSpec.witness6 (enc := enc) (C := Try.checked) false ⟨#[], #[.slice none 0 0], []⟩ 8 (by kernel_rfl) (by kernel_rfl) (by kernel_rfl) (by kernel_rfl)) ?_
  intro W base args ds gs before hval0 hW hcnd _
  have hval : ∀ (j : Nat) t v, Try.f5.params[j]? = some t → args[j]? = some v → Value.okWide Try.prog W .any base t v := hval0
  have hW' := hW
  obtain ⟨p, q, hA0, hV, rfl, hfz, hnd⟩ := hW
  have hA : DataW.TrodAll enc Try.prog W 0 (fun _ => true) true Try.f5.params.toList args.toList ds p := hA0
  rw [Try.params5] at hA hval
  obtain ⟨v0, vs0, d0, ds0, p0, q0, hargs, rfl, rfl, h0, r0⟩ := trodAll_cons hA
  obtain ⟨rfl, rfl, rfl⟩ := trodAll_nil r0
  obtain rfl : args = #[v0] := by cases args; simp_all
  obtain ⟨rfl, rfl⟩ := trodVars_none hV
  obtain ⟨a0, len0, cap0, rfl⟩ := okWide_slice Try.underlying22 (hval 0 22 v0 rfl rfl)
  have k0 := h0
  have lt0 : ∀ x ∈ p0, x.block < W.heap.size := by obtain ⟨m, hm⟩ := k0; exact DataW.trod_lt m _ _ _ hm
  obtain ⟨z0, w0⟩ : ∃ zs, IsRow .u8 W a0 len0 cap0 zs := by
    obtain ⟨fuel, hf⟩ := h0
    rcases open_ints Try.underlying22 Try.underlying5 (by kernel_rfl) hf with ⟨hcs, _⟩ | ⟨x, l, c, zs, hcs, _, hl, hm, hz, _, hcell, hwz⟩
    · simp [Value.cells] at hcs
      obtain ⟨rfl, rfl, rfl⟩ := hcs
      exact ⟨[], .inl ⟨rfl, rfl, rfl, rfl⟩⟩
    · simp [Value.cells] at hcs
      obtain ⟨rfl, rfl, rfl⟩ := hcs
      exact ⟨zs, .inr ⟨_, rfl, hl, hm, by simpa using hz, hcell, hwz⟩⟩
  clear hA0 hval0
  refine (walk a0 len0 cap0 z0 W w0).mono fun e W' ⟨he, bel⟩ => ?_
  subst he
  exact ⟨_, rfl, _, _, _, [], _, [], hW', trodAll_mk1 (shut_bool Try.underlying4 _), (trodAll_cons_mk (Below.trod laidOut (by kernel_rfl) (of_decide_eq_true (by kernel_rfl)) k0 bel lt0) trodAll_mk0), rfl, bel.frame _, fun h => by cases h⟩

theorem over : Rows.fnBackRow.holds Try.pinned (OpenSpec.ofChange Rows.fnBackSpec) :=
  OpenClaim.holds_of_wide 5 Try.f5 rfl rfl rfl rfl rfl rfl rfl ⟨rfl, rfl, rfl, rfl, rfl⟩ rfl rfl rfl rfl rfl (by kernel_rfl) Try.func5 (by kernel_rfl)
    (of_decide_eq_true (by kernel_rfl)) (by unfold Func.isWrapper; first | (rw [if_pos (by decide +kernel)]; kernel_rfl) | (rw [if_neg (by decide +kernel)]; exact ⟨rfl, rfl⟩))
    (fun os started H enc _ => lifted os started H enc)

theorem proved : Rows.FnBackSaid := over
#print axioms proved
end Go.Proofs.Ytmigdnceidbppaa.fnBack
namespace Go.Proofs.Ytmigdnceidbppaa
theorem fnBack_holds : Rows.FnBackSaid := fnBack.proved
end Go.Proofs.Ytmigdnceidbppaa
