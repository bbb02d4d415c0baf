/- At every string of bytes the law FnWaited answers true and its argument stays: of the work that is drawn the program's Waited answers as the specification's does; what comes is a work with as many events and the same deeds, but for waits and groups, and a wait between each two; waited again it is the same. -/
import Derived.Test.YtljamlgnobpjeaaRows
import Derived.WalkKit
import Derived.ProofKit
import Derived.OpenShut
import Derived.ShutString
import Derived.ChangeOld
import Derived.Below
import Derived.Test.YtljamlgnobpjeaaDrawWait
import Derived.Test.YtljamlgnobpjeaaWaitI
import Derived.Test.YtljamlgnobpjeaaWaitS
import Derived.Test.YtljamlgnobpjeaaEventsI
import Derived.Test.YtljamlgnobpjeaaLikeS
import Derived.Test.YtljamlgnobpjeaaLawBig
import Derived.Test.YtljamlgnobpjeaaWaitLaw2
import Derived.Deep.QuietTactic
import Derived.BigQuiet
namespace Go.Proofs.Ytljamlgnobpjeaa.fnWaited
open Go.ChangeShapes Go.WideShapes Go.ChangeAt Go.RowKit
open Go.ChangeMaps (open_string shut_string)
set_option linter.unusedVariables false

theorem own : ownKnob Try.prog.godebug = none := by kernel_rfl
theorem laidOut : laidOutB Try.prog = true := by kernel_rfl

/-- What the walk is told of a slice of bytes that came in: it is nil, or it leads to a row of cells, each fitting its kind. -/
def IsRow (k : IntKind) (w : World) (a : Option Addr) (len cap : Nat) (zs : List Int) : Prop :=
  (a = none ∧ len = 0 ∧ cap = 0 ∧ zs = []) ∨
  ∃ x, a = some x ∧ len ≤ cap ∧ cap ≤ maxLen ∧ zs.length = cap ∧ (∀ i, i < zs.length → w.cell? (x.add i) = some (.int k (zs.getD i 0))) ∧ ∀ n ∈ zs, (Lit.int k n).wf = true

set_option maxRecDepth 100000 in
set_option maxHeartbeats 8000000 in
theorem walk (a0 : Option Addr) (len0 cap0 : Nat) (z0 : List Int) (w : World) (w0 : IsRow .u8 w a0 len0 cap0 z0) :
    Calls Try.prog 3 #[.slice a0 len0 cap0] w fun e w' => e = .returned (.bool true) ∧ Below w.heap.size w w' := by
  by_cases hbig : 4096 < len0
  · have hbb : decide (4096 < len0) = true := by simpa using hbig
    go_enter Try.func3, Try.ntmps3
    go_wp2_with (go_at_call 6; refine (big_any _ _ _ _).mono ?_; rintro e w' ⟨rfl, rfl⟩)
    go_ret
    exact ⟨rfl, Below.refl _ _⟩
  have hbb : decide (4096 < len0) = false := by simpa using hbig
  obtain ⟨zs, hzl, hrd⟩ : ∃ zs : List Int, zs.length = len0 ∧ RdB w w.heap.size a0 zs := rdb_of_row (by omega) w0
  subst hzl
  clear w0 hbig
  go_enter Try.func3, Try.ntmps3
  go_wp2_with fail
  refine (big_any _ _ _ _).mono ?_
  rintro e w' ⟨rfl, rfl⟩
  go_wp2_with fail
  refine (drawWaited_any _ a0 cap0 zs hrd).mono ?_
  rintro e w1 ⟨v, dss, rfl, hR, hS, k1⟩
  have l1 : dss.length ≤ 1048576 := by have := hS.1; omega
  have l2 : ∀ i, i < dss.length → (dss.getD i []).length ≤ 1048576 := fun i hi => by have := hS.2 i hi; omega
  obtain ⟨g1, g3, g2⟩ := waitB_small dss
  have HC := Lib.hid (waitB_cases dss)
  clear hS hrd hbb
  go_wp2_with fail
  refine (implWaited_any _ _ _ hR l1 l2).mono ?_
  rintro e w2 ⟨v2, rfl, o2, k2⟩
  have hR2 := hR.keep k2
  go_wp2_with fail
  refine (specWaited_any _ _ _ hR2 l1 l2).mono ?_
  rintro e w3 ⟨v3, rfl, o3, k3⟩
  have x3 := o2.rd.keep k3
  go_wp2_with fail
  refine (likeSame_any _ _ _ _ x3 o3.rd g1 g2).mono ?_
  rintro e w4 ⟨rfl, k4⟩
  have hR4 := hR2.keep (k3.trans k4)
  have x4 := x3.keep k4
  have K4 := (k1.trans k2).trans (k3.trans k4)
  clear hR hR2 o2 o3 x3 k1 k2 k3 k4 g3
  obtain ⟨X, hX⟩ : ∃ X, X = waitB dss := ⟨_, rfl⟩
  rw [← hX] at x4 g1 g2 HC
  clear hX
  rcases HC.out with hE | ⟨wb, wx, xl, n1, n3, each, ev, twice⟩
  · subst hE
    obtain ⟨a4, c4, rfl, -⟩ := x4
    go_wp2
    go_ret
    exact ⟨rfl, K4⟩
  clear HC
  have HEV : Hid (evB X = evB dss) := Lib.hid (by rw [evB, evB, if_pos wb, if_pos wx, ev])
  have HTW := Lib.hid twice
  have HEA := Lib.hid each
  have HWX := Lib.hid wx
  have xl1 : X.length ≤ dss.length := by omega
  have xl2 : dss.length ≤ X.length := by omega
  have xln : ((X.length : Int) != (dss.length : Int)) = false := by simp [xl]
  have xl0 : ((X.length : Int) == 0) = false := beq_eq_false_iff_ne.2 (by omega)
  have HXL := Lib.hid xl2
  clear ev twice each wb wx xl
  have rx := x4
  have rw0 := hR4
  obtain ⟨a4, c4, rfl, -⟩ := id x4
  obtain ⟨a5, c5, rfl, -⟩ := id hR4
  go_wp2_with fail
  refine (implWorkOk_any _ _ _ x4 g1 g2).mono ?_
  rw [HWX.out]
  rintro e w5 ⟨rfl, k5⟩
  go_wp2_with fail
  refine (implEventsIn_any _ _ _ (x4.keep k5) g1 g2).mono ?_
  rw [HEV.out]
  rintro e w6 ⟨rfl, k6⟩
  go_wp2_with fail
  refine (implEventsIn_any _ _ _ (hR4.keep (k5.trans k6)) l1 l2).mono ?_
  rintro e w7 ⟨rfl, k7⟩
  have x7 := x4.keep (k5.trans (k6.trans k7))
  have r7 := hR4.keep (k5.trans (k6.trans k7))
  have K7 := K4.trans (k5.trans (k6.trans k7))
  have evn : (evB dss != evB dss) = false := by simp
  clear x4 hR4 rx rw0 k5 k6 k7 K4 HWX
  have X7 := Lib.hid x7
  obtain ⟨a4', c4', e4, x7⟩ := x7
  simp only [Value.slice.injEq, true_and] at e4
  obtain ⟨rfl, rfl⟩ := e4
  obtain ⟨a5', c5', e5, r7⟩ := r7
  simp only [Value.slice.injEq, true_and] at e5
  obtain ⟨rfl, rfl⟩ := e5
  go_wp2
  go_loopw [5] (fun i wr => ∃ k : Nat, k ≤ dss.length ∧ i = .int .i64 k ∧ Keep w7 wr) (fun i _ => dss.length - (intOf i).toNat)
  case atStart => exact ⟨0, Nat.zero_le _, rfl, Keep.refl _⟩
  case round =>
    obtain ⟨k, hk, rfl, hK⟩ := hrel
    by_cases hlt : k < dss.length
    · have kX : k < X.length := Nat.lt_of_lt_of_le hlt HXL.out
      rcases x7 with h | ⟨b1, o1, rfl, hb1, hc1⟩
      · exfalso; rw [h] at kX; simp at kX
      rcases r7 with h | ⟨b2, o2, rfl, hb2, hc2⟩
      · exfalso; rw [h] at hlt; simp at hlt
      obtain ⟨u1, e1, r1⟩ := hc1 k kX
      obtain ⟨u2, e2, r2⟩ := hc2 k hlt
      obtain ⟨ea, l5⟩ := HEA.out k hlt
      clear hc1 hc2
      obtain ⟨xs, hxs⟩ : ∃ xs, xs = X.getD k [] := ⟨_, rfl⟩
      obtain ⟨ds, hds⟩ : ∃ ds, ds = dss.getD k [] := ⟨_, rfl⟩
      rw [← hxs] at r1 ea
      rw [← hds] at r2 ea l5
      have HXS := Lib.hid ea
      clear hxs hds ea
      have xs10 : xs.length ≤ 10 := by rw [HXS.out]; have := waitK_len ds ds.length; unfold waitC; omega
      obtain ⟨ai, ci, rfl, r1⟩ := r1
      obtain ⟨aj, cj, rfl, r2⟩ := r2
      have d1 := (hK.cell hb1).trans e1
      have d2 := (hK.cell hb2).trans e2
      have i1 : (0 : Int) ≤ (k : Int) := Int.natCast_nonneg _
      have i2 : (k : Int) < (dss.length : Int) := by omega
      have i3 : (k : Int) < (X.length : Int) := by omega
      go_wp2
      go_loopw [6, 7] (fun mm i wq => ∃ q m : Nat, q ≤ ds.length ∧ i = .int .i64 q ∧ mm = .int .i64 m ∧ Hid (m = (waitK ds q).length) ∧ m ≤ 10 ∧ Keep w7 wq) (fun _ i _ => ds.length - (intOf i).toNat)
      case atStart => exact ⟨0, 0, Nat.zero_le _, rfl, rfl, Lib.hid rfl, by omega, hK⟩
      case round =>
        obtain ⟨q, m, hq, rfl, rfl, hM, m10, hQ⟩ := hrel
        have d1 := (hQ.cell hb1).trans e1
        have d2 := (hQ.cell hb2).trans e2
        have hbq1 : b1 < wr.heap.size := Nat.lt_of_lt_of_le hb1 hQ.size
        have hbq2 : b2 < wr.heap.size := Nat.lt_of_lt_of_le hb2 hQ.size
        by_cases hlq : q < ds.length
        · rcases r2 with h | ⟨p2, s2, rfl, hp2, hd2⟩
          · exfalso; rw [h] at hlq; simp at hlq
          obtain ⟨B0, B1, B2, B3⟩ := (hd2 q hlq).keep hp2 hQ
          have hpw2 : p2 < wr.heap.size := Nat.lt_of_lt_of_le hp2 hQ.size
          clear hd2
          have j1 : (0 : Int) ≤ (q : Int) := Int.natCast_nonneg _
          have j2 : (q : Int) < (ds.length : Int) := by omega
          have W4 : (ds.getD q zD).1 = 4 → Hid (m = (waitK ds (q + 1)).length) := fun e => Lib.hid (by rw [wait_same e, hM.out])
          have W1 : (ds.getD q zD).1 ≠ 4 → m = 0 → Hid (1 = (waitK ds (q + 1)).length) ∧ 1 ≤ xs.length ∧ Hid (xs.getD 0 zD = bareD (ds.getD q zD)) := fun e e2 => by
            have := wait_first hlq e (by rw [← hM.out]; exact e2)
            rw [← HXS.out] at this
            exact ⟨Lib.hid this.1.symm, this.2.1, Lib.hid this.2.2⟩
          have W2 : (ds.getD q zD).1 ≠ 4 → 0 < m → Hid (m + 1 + 1 = (waitK ds (q + 1)).length) ∧ m + 2 ≤ xs.length ∧ Hid (xs.getD m zD = waitD) ∧ Hid (xs.getD (m + 1) zD = bareD (ds.getD q zD)) := fun e e2 => by
            have := wait_more hlq e hM.out e2
            rw [← HXS.out] at this
            exact ⟨Lib.hid this.1.symm, this.2.1, Lib.hid this.2.2.1, Lib.hid this.2.2.2⟩
          obtain ⟨d, hd⟩ : ∃ d, d = ds.getD q zD := ⟨_, rfl⟩
          rw [← hd] at B0 B1 B2 B3 W4 W1 W2
          clear hd hM
          obtain ⟨x0, x1, x2, x3⟩ := d
          simp only [bareD, waitD] at B0 B1 B2 B3 W4 W1 W2
          by_cases x4 : x0 = 4
          · have HW := W4 x4
            clear W4 W1 W2
            have ex : (x0 == 4) = true := by simp [x4]
            clear x4
            go_wp2
            go_roundw
            case rel => exact ⟨q + 1, m, by omega, by go_num, rfl, HW, m10, hQ.alloc _⟩
            case measure => simp [intOf]; omega
          · have ex : (x0 == 4) = false := by simp [x4]
            by_cases m0 : m = 0
            · obtain ⟨HW, xl3, HA⟩ := W1 x4 m0
              clear W4 W1 W2 x4
              rcases r1 with h | ⟨p1, s1, rfl, hp1, hd1⟩
              · exfalso; rw [h] at xl3; simp at xl3
              have hA := (hd1 0 (by omega)).keep hp1 hQ
              rw [HA.out] at hA
              obtain ⟨A0, A1, A2, A3⟩ := hA
              simp only [Nat.zero_mul, Nat.add_zero] at A0 A1 A2 A3
              have hpw1 : p1 < wr.heap.size := Nat.lt_of_lt_of_le hp1 hQ.size
              subst m0
              clear hd1 HA
              have gle : ¬ ((xs.length : Int) ≤ 0) := by omega
              have gl2 : (0 : Int) < (xs.length : Int) := by omega
              have gl3 : decide (xs.length ≤ 0) = false := decide_eq_false (by omega)
              have gl4 : decide (xs = []) = false := decide_eq_false (by intro e; rw [e] at xl3; simp at xl3)
              go_wp2
              go_quiet (fail)
              go_wp2
              go_roundw
              case rel => exact ⟨q + 1, 1, by omega, by go_num, by go_num, HW, by omega, (hQ.alloc _).drewN _⟩
              case measure => simp [intOf]; omega
            · obtain ⟨HW, xl3, HA, HB⟩ := W2 x4 (by omega)
              clear W4 W1 W2 x4
              rcases r1 with h | ⟨p1, s1, rfl, hp1, hd1⟩
              · exfalso; rw [h] at xl3; simp at xl3
              have hA := (hd1 m (by omega)).keep hp1 hQ
              have hB := (hd1 (m + 1) (by omega)).keep hp1 hQ
              rw [HA.out] at hA
              rw [HB.out] at hB
              obtain ⟨A0, -, -, -⟩ := hA
              obtain ⟨C0, C1, C2, C3⟩ := hB
              simp only at A0 C0 C1 C2 C3
              have hpw1 : p1 < wr.heap.size := Nat.lt_of_lt_of_le hp1 hQ.size
              clear hd1 HA HB
              have mp : 0 < m := by omega
              have mp1 : (0 : Int) < (m : Int) := by omega
              have ml1 : (m : Int) < (xs.length : Int) := by omega
              have ml2 : (m : Int) + 1 < (xs.length : Int) := by omega
              have ml3 : decide (xs.length ≤ m) = false := decide_eq_false (by omega)
              have ml4 : decide (xs.length ≤ m + 1) = false := decide_eq_false (by omega)
              have ml5 : (0 : Int) ≤ (m : Int) + 1 := by omega
              have ml6 : IntKind.i64.wrap ((m : Int) + 1) = (m : Int) + 1 := by rw [IntKind.wrap_i64]; omega
              have ml7 : m < xs.length := by omega
              have ml8 : m + 1 < xs.length := by omega
              clear m0
              go_wp2
              go_quiet (fail)
              go_wp2
              go_roundw
              case rel => exact ⟨q + 1, m + 1 + 1, by omega, by go_num, by go_num, HW, by omega, (hQ.alloc _).drewN _⟩
              case measure => simp [intOf]; omega
        · obtain rfl : q = ds.length := by omega
          have ml : ((m : Int) != (xs.length : Int)) = false := by
            have := hM.out
            have h2 : xs.length = (waitK ds ds.length).length := by rw [HXS.out]; rfl
            rw [bne_eq_false_iff_eq]; omega
          clear hM
          go_wp2
          go_roundw
          case rel => exact ⟨k + 1, by omega, by go_num, hQ⟩
          case measure => simp [intOf]; omega
    · obtain rfl : k = dss.length := by omega
      have x9 := X7.out.keep hK
      go_wp2_with fail
      refine (implWaited_any _ _ _ x9 g1 g2).mono ?_
      rw [HTW.out]
      rintro e w9 ⟨v9, rfl, o9, k9⟩
      go_wp2_with fail
      refine (likeSame_any _ _ _ _ o9.rd (x9.keep k9) g1 g2).mono ?_
      rintro e w10 ⟨rfl, k10⟩
      go_wp2
      go_ret
      exact ⟨rfl, (K7.trans hK).trans (k9.trans k10)⟩

set_option maxRecDepth 100000 in
theorem lifted (os : Os) (started : os.Started) (H : Type) (enc : TypeId × Value → H) :
    ReturnsInHanded {} Try.checked os 3 .any (Rows.fnWaitedSpec.pre6 enc Try.prog Try.f3 Rows.fnWaitedRow.domain false) (Rows.fnWaitedSpec.post enc Try.prog Try.f3 false true false false) := by
  refine returnsInHanded_of_change (C := Try.checked) own started (by kernel_rfl) Try.func3
    (ChangeSpec.witness6 (enc := enc) (C := Try.checked) false ⟨#[], #[.slice none 0 0], []⟩ 8 (by kernel_rfl) (by kernel_rfl) (by kernel_rfl) (by kernel_rfl)) ?_
  intro W base args ds gs before hval0 hW hcnd _

  have hval : ∀ (j : Nat) t v, Try.f3.params[j]? = some t → args[j]? = some v → Value.okWide Try.prog W .any base t v := hval0
  have hW' := hW
  obtain ⟨p, q, hA0, hV, rfl, hfz, hnd⟩ := hW
  have hA : DataW.TrodAll enc Try.prog W 0 (fun _ => true) true Try.f3.params.toList args.toList ds p := hA0
  rw [Try.params3] at hA hval
  obtain ⟨v0, vs0, d0, ds0, p0, q0, hargs, rfl, rfl, h0, r0⟩ := trodAll_cons hA
  obtain ⟨rfl, rfl, rfl⟩ := trodAll_nil r0
  obtain rfl : args = #[v0] := by cases args; simp_all
  obtain ⟨rfl, rfl⟩ := trodVars_none hV
  have k0 := h0
  have lt0 : ∀ x ∈ p0, x.block < W.heap.size := by obtain ⟨m, hm⟩ := k0; exact DataW.trod_lt m _ _ _ hm
  obtain ⟨a0, len0, cap0, rfl⟩ := okWide_slice Try.underlying22 (hval 0 22 v0 rfl rfl)
  obtain ⟨z0, w0⟩ : ∃ zs, IsRow .u8 W a0 len0 cap0 zs := by
    obtain ⟨fuel, hf⟩ := h0
    rcases open_ints Try.underlying22 Try.underlying5 (by kernel_rfl) hf with ⟨hcs, _⟩ | ⟨x, l, c, zs, hcs, _, hl, hm, hz, _, hcell, hwz⟩
    · simp [Value.cells] at hcs
      obtain ⟨rfl, rfl, rfl⟩ := hcs
      exact ⟨[], .inl ⟨rfl, rfl, rfl, rfl⟩⟩
    · simp [Value.cells] at hcs
      obtain ⟨rfl, rfl, rfl⟩ := hcs
      exact ⟨zs, .inr ⟨_, rfl, hl, hm, by simpa using hz, hcell, hwz⟩⟩
  clear hA0 hval0
  refine (walk a0 len0 cap0 z0 W w0).mono fun e W' ⟨he, bel⟩ => ?_
  subst he
  exact ⟨_, rfl, _, _, _, [], _, [], hW', trodAll_mk1 (shut_bool Try.underlying4 _), (trodAll_cons_mk (Below.trod laidOut (by kernel_rfl) (of_decide_eq_true (by kernel_rfl)) k0 bel lt0) trodAll_mk0), rfl, bel.frame _, fun h => by cases h⟩

theorem over : Rows.fnWaitedRow.holds Try.pinned (OpenSpec.ofChange Rows.fnWaitedSpec) :=
  OpenClaim.holds_of_wide 3 Try.f3 rfl rfl rfl rfl rfl rfl rfl ⟨rfl, rfl, rfl, rfl, rfl⟩ rfl rfl rfl rfl rfl (by kernel_rfl) Try.func3 (by kernel_rfl)
    (of_decide_eq_true (by kernel_rfl)) (by unfold Func.isWrapper; first | (rw [if_pos (by decide +kernel)]; kernel_rfl) | (rw [if_neg (by decide +kernel)]; exact ⟨rfl, rfl⟩))
    (fun os started H enc _ => lifted os started H enc)

#print axioms over
end Go.Proofs.Ytljamlgnobpjeaa.fnWaited
namespace Go.Proofs.Ytljamlgnobpjeaa
theorem fnWaited_holds : Rows.FnWaitedSaid := fnWaited.over
end Go.Proofs.Ytljamlgnobpjeaa
