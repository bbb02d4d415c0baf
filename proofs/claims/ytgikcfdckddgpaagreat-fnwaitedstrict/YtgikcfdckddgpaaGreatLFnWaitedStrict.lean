/- At every string of bytes the law FnWaitedStrict answers true and its argument stays: at what is drawn the program's SlowOk answers as the specification's does, and of a work that is waited all that may be told with slow ink may be told with quick ink. -/
import Derived.Test.YtgikcfdckddgpaaGreatRows
import Derived.WalkKit
import Derived.ProofKit
import Derived.OpenShut
import Derived.ShutString
import Derived.ChangeOld
import Derived.Below
import Derived.Test.YtgikcfdckddgpaaGreatNB
import Derived.Test.YtgikcfdckddgpaaGreatNI
import Derived.Test.YtgikcfdckddgpaaGreatND
import Derived.Test.YtgikcfdckddgpaaGreatNU
import Derived.Test.YtgikcfdckddgpaaGreatML
import Derived.Deep.Cut
import Derived.Deep.RegionHeld3
import Derived.Deep.QuietTactic
import Derived.BigQuiet
import Derived.Test.YtgikcfdckddgpaaGreatNT
namespace Go.Proofs.YtgikcfdckddgpaaGreat.fnWaitedStrict
open Go.ChangeShapes Go.WideShapes Go.ChangeAt Go.RowKit
open Go.ChangeMaps (open_string shut_string)
set_option linter.unusedVariables false

theorem own : ownKnob Tryz.prog.godebug = none := by kernel_rfl
theorem laidOut : laidOutB Tryz.prog = true := by kernel_rfl

/-- What the walk is told of a slice of bytes that came in: it is nil, or it leads to a row of cells, each fitting its kind. -/
def IsRow (k : IntKind) (w : World) (a : Option Addr) (len cap : Nat) (zs : List Int) : Prop :=
  (a = none ∧ len = 0 ∧ cap = 0 ∧ zs = []) ∨
  ∃ x, a = some x ∧ len ≤ cap ∧ cap ≤ maxLen ∧ zs.length = cap ∧ (∀ i, i < zs.length → w.cell? (x.add i) = some (.int k (zs.getD i 0))) ∧ ∀ n ∈ zs, (Lit.int k n).wf = true

set_option maxRecDepth 100000 in
set_option maxHeartbeats 8000000 in
theorem walk (a0 : Option Addr) (len0 cap0 : Nat) (z0 : List Int) (w : World) (w0 : IsRow .u8 w a0 len0 cap0 z0) :
    Calls Tryz.prog 6 #[.slice a0 len0 cap0] w fun e w' => e = .returned (.bool true) ∧ Below w.heap.size w w' := by
  by_cases hbig : 4096 < len0
  · have hbb : decide (4096 < len0) = true := by simpa using hbig
    go_enter Tryz.func6, Tryz.ntmps6
    go_wp2_with (go_at_call 9; refine (big_any _ _ _ _).mono ?_; rintro e w' ⟨rfl, rfl⟩)
    go_ret
    exact ⟨rfl, Below.refl _ _⟩
  have hbb : decide (4096 < len0) = false := by simpa using hbig
  obtain ⟨zs, hzl, hrd⟩ : ∃ zs : List Int, zs.length = len0 ∧ RdB w w.heap.size a0 zs := rdb_of_row (by omega) w0
  have hz12 : zs.length ≤ 4096 := by omega
  subst hzl
  clear w0 hbig
  have HRD := Lib.hid hrd
  go_enter Tryz.func6, Tryz.ntmps6
  go_wp2_with fail
  refine (big_any _ _ _ _).mono ?_
  rintro e w' ⟨rfl, rfl⟩
  go_wp2_with fail
  refine (drawSlowOk_any _ a0 cap0 zs hrd).mono ?_
  rintro e w1 ⟨v, vF, vR, dss, f, r, bs, N, rfl, hQ0, hD, oF, oR, ⟨lf, lr⟩, -, k1⟩
  have l1 : dss.length ≤ 1048576 := by have := hD.1; omega
  have l2 : ∀ i, i < dss.length → (dss.getD i []).length ≤ 1048576 := fun i hi => by have := hD.2 i hi; omega
  have L2 := Lib.hid l2
  have hR := hQ0.rd
  have hF := oF.rd
  have hT := oR.rd
  have HCZ := Lib.hid oR.capz
  obtain ⟨aF, cF, rfl, -⟩ := id hF
  obtain ⟨aR, cR, rfl, -⟩ := id hT
  clear hbb l2 hQ0 oF oR
  go_upto_region 4 with fail
  obtain ⟨w2, hw⟩ : ∃ W : World, W = w1.alloc (taleC (.slice aF f.length cF) (.slice aR r.length cR)) := ⟨_, rfl⟩
  have x0 : w2.cell? ⟨w1.heap.size, 0, none⟩ = some (.slice aF f.length cF) := by rw [hw]; exact box_cell (Keep.refl _) 0
  have x1 : w2.cell? ⟨w1.heap.size, 1, none⟩ = some (.slice aR r.length cR) := by rw [hw]; exact box_cell (Keep.refl _) 1
  have k2 : Keep w1 w2 := by rw [hw]; exact (Keep.refl _).alloc _
  have xl : w1.heap.size < w2.heap.size := by rw [hw, heap_size]; omega
  rw [← hw]
  clear hw
  have K2 := k1.trans k2
  replace hR := hR.keep k2
  replace hF := hF.keep k2
  replace hT := hT.keep k2
  generalize w1.heap.size = X at x0 x1 xl ⊢
  have H2 := Lib.hid (show RdW w2 v dss ∧ Rd w2 (.slice aF f.length cF) f ∧ Rd w2 (.slice aR r.length cR) r from ⟨hR, hF, hT⟩)
  have HX := Lib.hid (show w2.cell? ⟨X, 0, none⟩ = some (.slice aF f.length cF) ∧ w2.cell? ⟨X, 1, none⟩ = some (.slice aR r.length cR) ∧ X < w2.heap.size from ⟨x0, x1, xl⟩)
  have CI := Lib.hid (fun (W : World) (kW : Keep w2 W) => implSlowOk_any W _ _ _ dss f r (H2.out.1.keep kW) (H2.out.2.1.keep kW) (H2.out.2.2.keep kW) HCZ.out l1 L2.out (by omega) (by omega))
  have CQ := Lib.hid (fun (W : World) (kW : Keep w2 W) => specSlowOk_any W _ _ _ dss f r (H2.out.1.keep kW) (H2.out.2.1.keep kW) (H2.out.2.2.keep kW) HCZ.out l1 L2.out (by omega) (by omega))
  generalize slowB dss f r = T at CI CQ
  have hTT : (T != T) = false := by cases T <;> rfl
  have xl2 : X < w2.drew.heap.size := xl
  have K2 := K2
  go_region_held3 (fun w' => w'.cell? ⟨X, 0, none⟩ = some (.slice aF f.length cF) ∧ w'.cell? ⟨X, 1, none⟩ = some (.slice aR r.length cR))
    (first | go_keep | (go_split_ands; refine ⟨?_, ?_⟩ <;> (rw [kk.cell (by assumption)]; assumption)))
    ((first
      | (go_at_call 11; refine (CI.out _ (Keep.refl w2).drew).mono ?_; rintro e wz ⟨rfl, kk⟩; have z2 : X < wz.heap.size := Nat.lt_of_lt_of_le xl2 kk.size; have kz := (Keep.refl w2).drew.trans kk)
      | (go_at_call 15; refine (CQ.out _ kz).mono ?_; clear kk; rintro e wy ⟨rfl, kk⟩)))
  all_goals
    have k3 := kz.trans kk
    clear CI CQ x0 x1 kz kk
    have hR3 := H2.out.1.keep k3
    have K3 := K2.trans k3
    clear H2 HX k3
    go_wp2_with fail
    refine (specWaited_any _ _ dss hR3 l1 L2.out).mono ?_
    rintro e w5 ⟨vw, rfl, ow, k5⟩
    have K5 := K3.trans k5
    have rw5 := ow.rd
    obtain ⟨av, cv, rfl, -⟩ := id rw5
    rcases waitB_cases dss with h0 | ⟨-, hwb, -⟩
    · have e0 : (waitB dss).length = 0 := by rw [h0]; rfl
      generalize (waitB dss).length = n0 at *
      subst e0
      go_wp2
      go_ret
      exact ⟨rfl, K5⟩
    · have hne : (waitB dss).length ≠ 0 := fun e => by
        rw [List.eq_nil_of_length_eq_zero e] at hwb
        revert hwb
        decide
      have CA := alike_any w5 a0 cap0 zs (HRD.out.up K5) hz12 _ (waitB dss) rw5 hwb (fun f rows => kept_strict (kept_waitB dss))
      have j2 : ¬ ((waitB dss).length : Int) = 0 := by omega
      have e0 : (((waitB dss).length : Int) == 0) = false := by simpa using j2
      clear rw5 ow
      generalize (waitB dss).length = n0 at *
      go_wp2_with fail
      refine CA.mono ?_
      rintro e w8 ⟨rfl, k8⟩
      have K8 := K5.trans k8
      go_wp2
      go_ret
      exact ⟨rfl, K8⟩

set_option maxRecDepth 100000 in
theorem lifted (os : Os) (started : os.Started) (H : Type) (enc : TypeId × Value → H) :
    ReturnsInHanded {} Tryz.checked os 6 .any (Rows.fnWaitedStrictSpec.pre6 enc Tryz.prog Tryz.f6 Rows.fnWaitedStrictRow.domain false) (Rows.fnWaitedStrictSpec.post enc Tryz.prog Tryz.f6 false true false false) := by
  refine returnsInHanded_of_change (C := Tryz.checked) own started (by kernel_rfl) Tryz.func6
    (ChangeSpec.witness6 (enc := enc) (C := Tryz.checked) false ⟨#[], #[.slice none 0 0], []⟩ 8 (by kernel_rfl) (by kernel_rfl) (by kernel_rfl) (by kernel_rfl)) ?_
  intro W base args ds gs before hval0 hW hcnd _

  have hval : ∀ (j : Nat) t v, Tryz.f6.params[j]? = some t → args[j]? = some v → Value.okWide Tryz.prog W .any base t v := hval0
  have hW' := hW
  obtain ⟨p, q, hA0, hV, rfl, hfz, hnd⟩ := hW
  have hA : DataW.TrodAll enc Tryz.prog W 0 (fun _ => true) true Tryz.f6.params.toList args.toList ds p := hA0
  rw [Tryz.params6] at hA hval
  obtain ⟨v0, vs0, d0, ds0, p0, q0, hargs, rfl, rfl, h0, r0⟩ := trodAll_cons hA
  obtain ⟨rfl, rfl, rfl⟩ := trodAll_nil r0
  obtain rfl : args = #[v0] := by cases args; simp_all
  obtain ⟨rfl, rfl⟩ := trodVars_none hV
  have k0 := h0
  have lt0 : ∀ x ∈ p0, x.block < W.heap.size := by obtain ⟨m, hm⟩ := k0; exact DataW.trod_lt m _ _ _ hm
  obtain ⟨a0, len0, cap0, rfl⟩ := okWide_slice Tryz.underlying22 (hval 0 22 v0 rfl rfl)
  obtain ⟨z0, w0⟩ : ∃ zs, IsRow .u8 W a0 len0 cap0 zs := by
    obtain ⟨fuel, hf⟩ := h0
    rcases open_ints Tryz.underlying22 Tryz.underlying5 (by kernel_rfl) hf with ⟨hcs, _⟩ | ⟨x, l, c, zs, hcs, _, hl, hm, hz, _, hcell, hwz⟩
    · simp [Value.cells] at hcs
      obtain ⟨rfl, rfl, rfl⟩ := hcs
      exact ⟨[], .inl ⟨rfl, rfl, rfl, rfl⟩⟩
    · simp [Value.cells] at hcs
      obtain ⟨rfl, rfl, rfl⟩ := hcs
      exact ⟨zs, .inr ⟨_, rfl, hl, hm, by simpa using hz, hcell, hwz⟩⟩
  clear hA0 hval0
  refine (walk a0 len0 cap0 z0 W w0).mono fun e W' ⟨he, bel⟩ => ?_
  subst he
  exact ⟨_, rfl, _, _, _, [], _, [], hW', trodAll_mk1 (shut_bool Tryz.underlying4 _), (trodAll_cons_mk (Below.trod laidOut (by kernel_rfl) (of_decide_eq_true (by kernel_rfl)) k0 bel lt0) trodAll_mk0), rfl, bel.frame _, fun h => by cases h⟩

theorem over : Rows.fnWaitedStrictRow.holds Tryz.pinned (OpenSpec.ofChange Rows.fnWaitedStrictSpec) :=
  OpenClaim.holds_of_wide 6 Tryz.f6 rfl rfl rfl rfl rfl rfl rfl ⟨rfl, rfl, rfl, rfl, rfl⟩ rfl rfl rfl rfl rfl (by kernel_rfl) Tryz.func6 (by kernel_rfl)
    (of_decide_eq_true (by kernel_rfl)) (by unfold Func.isWrapper; first | (rw [if_pos (by decide +kernel)]; kernel_rfl) | (rw [if_neg (by decide +kernel)]; exact ⟨rfl, rfl⟩))
    (fun os started H enc _ => lifted os started H enc)

#print axioms over
end Go.Proofs.YtgikcfdckddgpaaGreat.fnWaitedStrict
namespace Go.Proofs.YtgikcfdckddgpaaGreat
theorem fnWaitedStrict_holds : Rows.FnWaitedStrictSaid := fnWaitedStrict.over
end Go.Proofs.YtgikcfdckddgpaaGreat
