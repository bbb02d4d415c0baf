/- At every board the program's Possible answers as the specification's does, in memory of its own, and writes into no argument: the law FnExactPossible answers true and its argument stays. -/
import Derived.Test.YtgakfkjjkobpiaaRows
import Derived.WalkKit
import Derived.ProofKit
import Derived.OpenShut
import Derived.ShutString
import Derived.ChangeOld
import Derived.Below
import Derived.Test.YtgakfkjjkobpiaaMU
import Derived.Test.YtgakfkjjkobpiaaMV
import Derived.Deep.Cut
import Derived.Deep.RegionHeld3
namespace Go.Proofs.Ytgakfkjjkobpiaa.fnExactPossible
open Go.ChangeShapes Go.WideShapes Go.ChangeAt Go.RowKit
open Go.ChangeMaps (open_string shut_string)
set_option linter.unusedVariables false

theorem own : ownKnob Try.prog.godebug = none := by kernel_rfl
theorem laidOut : laidOutB Try.prog = true := by kernel_rfl

set_option maxRecDepth 100000 in
set_option maxHeartbeats 8000000 in
theorem walk (bv : BV) (dss : List (List Dd)) (b : Bd) (w : World) (hr : RdBd w bv dss b) (ht : TopBd dss b) :
    Calls Try.prog 5 #[bv.agg] w fun e w' => e = .returned (.bool true) ∧ Below w.heap.size w w' := by
  obtain ⟨aW, aP, aL, aN, aX, aT, aF, aR, cW, cP, cL, cQ, cX, cT, cF, cR, rfl⟩ := hr.shapes
  have lboard_info : (Try.prog.info? 47).map (·.size) = some 8 := by kernel_rfl
  have HH := Lib.hid hr
  have HT := Lib.hid ht
  clear hr ht
  go_enter Try.func5, Try.ntmps5
  go_upto_region 2 with fail
  obtain ⟨w0, hw0⟩ : ∃ W : World, W = w.alloc (.cells #[.slice aW dss.length cW, .slice aP b.plc.length cP, .slice aL b.lst.length cL, .slice aN b.nts.length cQ, .slice aX b.nxt.length cX, .slice aT b.sn.length cT, .slice aF b.fr.length cF, .slice aR b.rws.length cR] 47) := ⟨_, rfl⟩
  have K0 : Keep w w0 := by rw [hw0]; exact (Keep.refl w).alloc _
  have hB0 : w0.heap[w.heap.size]? = some (.cells #[.slice aW dss.length cW, .slice aP b.plc.length cP, .slice aL b.lst.length cL, .slice aN b.nts.length cQ, .slice aX b.nxt.length cX, .slice aT b.sn.length cT, .slice aF b.fr.length cF, .slice aR b.rws.length cR] 47 (0, 0)) := by rw [hw0]; exact heap_alloc_new _ _
  have y0 : w.heap.size < w0.heap.size := by rw [hw0, heap_size]; omega
  rw [← hw0]
  clear hw0
  go_wp2_with (first | refine wpList_load_row rfl 47 _ rfl w.heap.size rfl 47 _ (0, 0) _ hB0 Try.underlying47 rfl lboard_info ?_ | fail)
  refine (szBoard_sum _ _ dss b (HH.out.keep K0) HT.out _ (by omega) (by omega)).mono ?_
  rintro e w1 ⟨r, rfl, k1, hd⟩
  have K1 := K0.trans k1
  by_cases hneg : r < 0
  · go_wp2
    go_ret
    exact ⟨rfl, K1⟩
  obtain ⟨hz, hsum⟩ := hd.resolve_left hneg
  have hge : (0 : Int) ≤ r := by omega
  have hB1 := (Below.block k1 w.heap.size y0).trans hB0
  have s1 := k1.size
  have HZ := Lib.hid hz
  have HS := Lib.hid hsum
  have g1 : (possB dss b).length ≤ 1048576 := possB_len dss b
  have CS := Lib.hid (fun (W : World) (bv : BV) (h : RdBd W bv dss b) => specPossible_any W bv dss b h HZ.out)
  have CI := Lib.hid (fun (W : World) (bv : BV) (h : RdBd W bv dss b) => implPossible_any W bv dss b h HZ.out)
  generalize possB dss b = L at *
  clear hd hneg hB0 hz hsum
  go_wp2_with (first | refine wpList_load_row rfl 47 _ rfl w.heap.size rfl 47 _ (0, 0) _ hB1 Try.underlying47 rfl lboard_info ?_ | fail)
  refine (toBoard_any _ _ dss b (HH.out.keep K1) HZ.out).mono ?_
  rintro e w2 ⟨bv2, nv2, rv2, wv2, rfl, o2, k2⟩
  have K2 := K1.trans k2
  have s2 := k2.size
  go_wp2_with fail
  refine (CS.out _ bv2 o2.rd).mono ?_
  rintro e w3 ⟨v3, rfl, o3, k3⟩
  have K3 := K2.trans k3
  have s3 := k3.size
  have hB3 := (Below.block (k2.trans k3) w.heap.size (by omega)).trans hB1
  have sv3 := o3.rd
  clear o2 hB1 CS o3
  go_wp2_with (first | refine wpList_load_row rfl 47 _ rfl w.heap.size rfl 47 _ (0, 0) _ hB3 Try.underlying47 rfl lboard_info ?_ | fail)
  refine (toBoard_any _ _ dss b (HH.out.keep K3) HZ.out).mono ?_
  rintro e w4 ⟨bv4, nv4, rv4, wv4, rfl, o4, k4⟩
  have K4 := K3.trans k4
  have s4 := k4.size
  have hB4 := (Below.block k4 w.heap.size (by omega)).trans hB3
  have f4 := o4.free
  have r4 := o4.rd
  obtain ⟨aW4, aP4, aL4, aN4, aX4, aT4, aF4, aR4, cW4, cP4, cL4, cQ4, cX4, cT4, cF4, cR4, rfl⟩ := r4.shapes
  clear o4 hB3
  go_upto_region 7 with fail
  obtain ⟨w5, hw5⟩ : ∃ W : World, W = w4.alloc (.cells #[.slice aW4 dss.length cW4, .slice aP4 b.plc.length cP4, .slice aL4 b.lst.length cL4, .slice aN4 b.nts.length cQ4, .slice aX4 b.nxt.length cX4, .slice aT4 b.sn.length cT4, .slice aF4 b.fr.length cF4, .slice aR4 b.rws.length cR4] 29) := ⟨_, rfl⟩
  have k5 : Keep w4 w5 := by rw [hw5]; exact (Keep.refl w4).alloc _
  have hX5 : w5.heap[w4.heap.size]? = some (.cells #[.slice aW4 dss.length cW4, .slice aP4 b.plc.length cP4, .slice aL4 b.lst.length cL4, .slice aN4 b.nts.length cQ4, .slice aX4 b.nxt.length cX4, .slice aT4 b.sn.length cT4, .slice aF4 b.fr.length cF4, .slice aR4 b.rws.length cR4] 29 (0, 0)) := by rw [hw5]; exact heap_alloc_new _ _
  have y5 : w4.heap.size < w5.heap.size := by rw [hw5, heap_size]; omega
  rw [← hw5]
  clear hw5
  have HR5 := Lib.hid (r4.keep k5)
  have K5 := K4.trans k5
  have hB5 := (Below.block k5 w.heap.size (by omega)).trans hB4
  have yX : w.heap.size < w4.heap.size := by omega
  have f5 := f4.keep k5
  have sv5 := sv3.keep (k4.trans k5)
  have k35 := k4.trans k5
  have s34 : w3.heap.size ≤ w4.heap.size := s4
  generalize w4.heap.size = X at *
  clear r4 hB4 f4 k5 k4
  go_wp2_with (first | refine wpList_load_row rfl 29 _ rfl X rfl 29 _ (0, 0) _ hX5 Try.underlying29 rfl board_info ?_ | fail)
  refine (CI.out _ _ HR5.out).mono ?_
  rintro e w6 ⟨v6, rfl, og, k6⟩
  have K6 := K5.trans k6
  have s6 := k6.size
  have hB6 := (Below.block k6 w.heap.size (by omega)).trans hB5
  have hX6 := (Below.block k6 X y5).trans hX5
  have f6 := f5.keep k6
  have k36 := k35.trans k6
  have sv6 := sv5.keep k6
  clear hB5 hX5 f5 sv5 k35
  go_wp2_with fail
  refine (eq_any _ _ _ _ _ og.rd sv6 g1).mono ?_
  rintro e w7 ⟨rfl, k7⟩
  have K7 := K6.trans k7
  have s7 := k7.size
  have hB7 := (Below.block k7 w.heap.size (by omega)).trans hB6
  have hX7 := (Below.block k7 X (by omega)).trans hX6
  have f7 := f6.keep k7
  have k37 := k36.trans k7
  have og7 := og.keep k7
  clear hB6 hX6 f6 sv6 k36
  have x0 : w7.cell? ⟨w.heap.size, 0, none⟩ = some (.slice aW dss.length cW) := by rw [cell_of_row w7 _ 0 _ _ _ hB7]; rfl
  have x1 : w7.cell? ⟨w.heap.size, 1, none⟩ = some (.slice aP b.plc.length cP) := by rw [cell_of_row w7 _ 1 _ _ _ hB7]; rfl
  have x2 : w7.cell? ⟨w.heap.size, 2, none⟩ = some (.slice aL b.lst.length cL) := by rw [cell_of_row w7 _ 2 _ _ _ hB7]; rfl
  have x3 : w7.cell? ⟨w.heap.size, 3, none⟩ = some (.slice aN b.nts.length cQ) := by rw [cell_of_row w7 _ 3 _ _ _ hB7]; rfl
  have x4 : w7.cell? ⟨w.heap.size, 4, none⟩ = some (.slice aX b.nxt.length cX) := by rw [cell_of_row w7 _ 4 _ _ _ hB7]; rfl
  have x5 : w7.cell? ⟨w.heap.size, 5, none⟩ = some (.slice aT b.sn.length cT) := by rw [cell_of_row w7 _ 5 _ _ _ hB7]; rfl
  have x6 : w7.cell? ⟨w.heap.size, 6, none⟩ = some (.slice aF b.fr.length cF) := by rw [cell_of_row w7 _ 6 _ _ _ hB7]; rfl
  have x7 : w7.cell? ⟨w.heap.size, 7, none⟩ = some (.slice aR b.rws.length cR) := by rw [cell_of_row w7 _ 7 _ _ _ hB7]; rfl
  have z0 : w7.cell? ⟨X, 0, none⟩ = some (.slice aW4 dss.length cW4) := by rw [cell_of_row w7 _ 0 _ _ _ hX7]; rfl
  have z1 : w7.cell? ⟨X, 1, none⟩ = some (.slice aP4 b.plc.length cP4) := by rw [cell_of_row w7 _ 1 _ _ _ hX7]; rfl
  have z2 : w7.cell? ⟨X, 2, none⟩ = some (.slice aL4 b.lst.length cL4) := by rw [cell_of_row w7 _ 2 _ _ _ hX7]; rfl
  have z3 : w7.cell? ⟨X, 3, none⟩ = some (.slice aN4 b.nts.length cQ4) := by rw [cell_of_row w7 _ 3 _ _ _ hX7]; rfl
  have z4 : w7.cell? ⟨X, 4, none⟩ = some (.slice aX4 b.nxt.length cX4) := by rw [cell_of_row w7 _ 4 _ _ _ hX7]; rfl
  have z5 : w7.cell? ⟨X, 5, none⟩ = some (.slice aT4 b.sn.length cT4) := by rw [cell_of_row w7 _ 5 _ _ _ hX7]; rfl
  have z6 : w7.cell? ⟨X, 6, none⟩ = some (.slice aF4 b.fr.length cF4) := by rw [cell_of_row w7 _ 6 _ _ _ hX7]; rfl
  have z7 : w7.cell? ⟨X, 7, none⟩ = some (.slice aR4 b.rws.length cR4) := by rw [cell_of_row w7 _ 7 _ _ _ hX7]; rfl
  have l1 : w.heap.size < w7.drew.heap.size := by rw [heap_drew]; omega
  have l2 : X < w7.drew.heap.size := by rw [heap_drew]; omega
  go_upto_region 10 with fail
  go_cut [31] from 11 (fun s wx => s = .bool false ∧ Keep w7 wx)
  case first =>
    go_wp2_with fail
    go_region_held3 (fun w' => w'.cell? ⟨w.heap.size, 0, none⟩ = some (.slice aW dss.length cW) ∧ w'.cell? ⟨w.heap.size, 1, none⟩ = some (.slice aP b.plc.length cP) ∧ w'.cell? ⟨w.heap.size, 2, none⟩ = some (.slice aL b.lst.length cL) ∧ w'.cell? ⟨w.heap.size, 3, none⟩ = some (.slice aN b.nts.length cQ) ∧ w'.cell? ⟨w.heap.size, 4, none⟩ = some (.slice aX b.nxt.length cX) ∧ w'.cell? ⟨w.heap.size, 5, none⟩ = some (.slice aT b.sn.length cT) ∧ w'.cell? ⟨w.heap.size, 6, none⟩ = some (.slice aF b.fr.length cF) ∧ w'.cell? ⟨w.heap.size, 7, none⟩ = some (.slice aR b.rws.length cR) ∧ w'.cell? ⟨X, 0, none⟩ = some (.slice aW4 dss.length cW4) ∧ w'.cell? ⟨X, 1, none⟩ = some (.slice aP4 b.plc.length cP4) ∧ w'.cell? ⟨X, 2, none⟩ = some (.slice aL4 b.lst.length cL4) ∧ w'.cell? ⟨X, 3, none⟩ = some (.slice aN4 b.nts.length cQ4) ∧ w'.cell? ⟨X, 4, none⟩ = some (.slice aX4 b.nxt.length cX4) ∧ w'.cell? ⟨X, 5, none⟩ = some (.slice aT4 b.sn.length cT4) ∧ w'.cell? ⟨X, 6, none⟩ = some (.slice aF4 b.fr.length cF4) ∧ w'.cell? ⟨X, 7, none⟩ = some (.slice aR4 b.rws.length cR4))
      (first | go_keep | (go_split_ands; refine ⟨?_, ?_, ?_, ?_, ?_, ?_, ?_, ?_, ?_, ?_, ?_, ?_, ?_, ?_, ?_, ?_⟩ <;> (rw [kk.cell (by assumption)]; assumption)))
      ((first
        | (go_at_call 24; refine (toBoard_any _ _ dss b ((HH.out.keep K7).keep (Keep.refl w7).drew) HZ.out).mono ?_; rintro e wz ⟨bv8, nv8, rv8, wv8, rfl, o8, kk⟩; have m1 : w.heap.size < wz.heap.size := Nat.lt_of_lt_of_le l1 kk.size; have m2 : X < wz.heap.size := Nat.lt_of_lt_of_le l2 kk.size; have kz := (Keep.refl w7).drew.trans kk)
        | (go_at_call 17; refine (eqBoard_same _ _ _ dss b (f7.rd.keep kz) o8.rd HZ.out).mono ?_; clear kk; rintro e wy ⟨rfl, kk⟩)))
    all_goals
      go_wp2
      go_meet
      case rel => exact ⟨rfl, kz.trans kk⟩
  case rest =>
    obtain ⟨rfl, kd⟩ := hcut
    obtain ⟨wd, hwd⟩ : ∃ W : World, W = wc := ⟨_, rfl⟩
    subst hwd
    have K8 := K7.trans kd
    have s8 := kd.size
    have hB8 := (Below.block kd w.heap.size (by omega)).trans hB7
    have hX8 := (Below.block kd X (by omega)).trans hX7
    have f8 := f7.keep kd
    have k38 := k37.trans kd
    have og8 := og7.keep kd
    clear hB7 hX7 f7 k37 og7 K7 x0 x1 x2 x3 x4 x5 x6 x7 z0 z1 z2 z3 z4 z5 z6 z7 l1 l2
    go_wp2_with (first | refine wpList_load_row rfl 29 _ rfl X rfl 29 _ (0, 0) _ hX8 Try.underlying29 rfl board_info ?_ | fail)
    refine (markB_any _ _ _ dss b _ f8 HZ.out HS.out).mono ?_
    rintro e w9 ⟨n, rfl, hn, -, om⟩
    have K9 := K8.only om (by omega)
    have k39 := k38.only om (Nat.le_refl _)
    have og9 := row_only og8 om (by omega)
    have hB9 := (om.block w.heap.size (by omega) (.inl (by omega))).trans hB8
    have s9 := om.size
    have sv9 := sv3.keep k39
    have dk : ¬ ((1 : Int) + (n : Int) < 0) := by omega
    clear om hB8 hX8 K8 k38 og8 f8
    go_wp2_with fail
    refine (eq_any _ _ _ _ _ og9.rd sv9 g1).mono ?_
    rintro e w10 ⟨rfl, k10⟩
    have K10 := K9.trans k10
    have k310 := k39.trans k10
    have og10 := og9.keep k10
    have s10 := k10.size
    have hB10 := (Below.block k10 w.heap.size (by omega)).trans hB9
    clear og9 hB9 K9 k39 sv9 dk
    go_wp2_with fail
    refine (mark_row _ _ _ _ _ og10 g1 (by omega) (by omega)).mono ?_
    rintro e w11 ⟨rfl, om2, gg⟩
    have K11 := K10.grown gg (fun k hk => by have := og10.ge k hk; omega)
    have k311 := k310.grown gg (fun k hk => by have := og10.ge k hk; omega)
    have hB11 := (gg.block w.heap.size (by omega) (fun e => by have := og10.ge _ e.symm; omega)).trans hB10
    have s11 := gg.size
    have hm := om2.rd
    clear gg hB10 K10 k310 og10 om2
    have nq : ((1 : Int) + L.length != 1 + L.length) = false := by simp
    have dq : ¬ ((1 : Int) + L.length < 0) := by omega
    go_wp2_with fail
    refine (held_row _ _ _ _ hm g1 (by omega) (by omega)).mono ?_
    rintro e w12 ⟨rfl, k12⟩
    have K12 := K11.trans k12
    have k312 := k311.trans k12
    have hm12 := hm.keep k12
    have s12 := k12.size
    have hB12 := (Below.block k12 w.heap.size (by omega)).trans hB11
    clear hm K11 k311 hB11
    go_wp2_with (first | refine wpList_load_row rfl 47 _ rfl w.heap.size rfl 47 _ (0, 0) _ hB12 Try.underlying47 rfl lboard_info ?_ | fail)
    refine (toBoard_any _ _ dss b (HH.out.keep K12) HZ.out).mono ?_
    rintro e w13 ⟨bv13, nv13, rv13, wv13, rfl, o13, k13⟩
    have K13 := K12.trans k13
    have k313 := k312.trans k13
    have hm13 := hm12.keep k13
    clear hm12 K12 k312 hB12
    go_wp2_with fail
    refine (CI.out _ _ o13.rd).mono ?_
    rintro e w14 ⟨v14, rfl, oh, k14⟩
    have K14 := K13.trans k14
    have k314 := k313.trans k14
    have hm14 := hm13.keep k14
    have sv14 := sv3.keep k314
    clear hm13 K13 k313 o13
    go_wp2_with fail
    refine (eq_any _ _ _ _ _ oh.rd sv14 g1).mono ?_
    rintro e w15 ⟨rfl, k15⟩
    have K15 := K14.trans k15
    have hm15 := hm14.keep k15
    clear hm14 K14 k314 sv14 oh
    go_wp2_with fail
    refine (held_row _ _ _ _ hm15 g1 (by omega) (by omega)).mono ?_
    rintro e w16 ⟨rfl, k16⟩
    have K16 := K15.trans k16
    go_wp2
    go_ret
    exact ⟨rfl, K16⟩

set_option maxRecDepth 100000 in
theorem lifted (os : Os) (started : os.Started) (H : Type) (enc : TypeId × Value → H) :
    ReturnsInHanded {} Try.checked os 5 .any (Rows.fnExactPossibleSpec.pre6 enc Try.prog Try.f5 Rows.fnExactPossibleRow.domain false) (Rows.fnExactPossibleSpec.post enc Try.prog Try.f5 false true false false) := by
  refine returnsInHanded_of_change (C := Try.checked) own started (by kernel_rfl) Try.func5
    (ChangeSpec.witness6 (enc := enc) (C := Try.checked) false ⟨#[], #[.agg #[.slice none 0 0, .slice none 0 0, .slice none 0 0, .slice none 0 0, .slice none 0 0, .slice none 0 0, .slice none 0 0, .slice none 0 0]], []⟩ 8 (by kernel_rfl) (by kernel_rfl) (by kernel_rfl) (by kernel_rfl)) ?_
  intro W base args ds gs before hval0 hW hcnd _

  have hval : ∀ (j : Nat) t v, Try.f5.params[j]? = some t → args[j]? = some v → Value.okWide Try.prog W .any base t v := hval0
  have hW' := hW
  obtain ⟨p, q, hA0, hV, rfl, hfz, hnd⟩ := hW
  have hA : DataW.TrodAll enc Try.prog W 0 (fun _ => true) true Try.f5.params.toList args.toList ds p := hA0
  rw [Try.params5] at hA hval
  obtain ⟨v0, vs0, d0, ds0, p0, q0, hargs, rfl, rfl, h0, r0⟩ := trodAll_cons hA
  obtain ⟨rfl, rfl, rfl⟩ := trodAll_nil r0
  obtain rfl : args = #[v0] := by cases args; simp_all
  obtain ⟨rfl, rfl⟩ := trodVars_none hV
  have k0 := h0
  have lt0 : ∀ x ∈ p0, x.block < W.heap.size := by obtain ⟨m, hm⟩ := k0; exact DataW.trod_lt m _ _ _ hm
  obtain ⟨bv, dss, b, rfl, hr, ht⟩ := open_board (hval 0 47 v0 rfl rfl) h0
  clear hA0 hval0
  refine (walk bv dss b W hr ht).mono fun e W' ⟨he, bel⟩ => ?_
  subst he
  exact ⟨_, rfl, _, _, _, [], _, [], hW', trodAll_mk1 (shut_bool Try.underlying4 _), (trodAll_cons_mk (Below.trod laidOut (by kernel_rfl) (of_decide_eq_true (by kernel_rfl)) k0 bel lt0) trodAll_mk0), rfl, bel.frame _, fun h => by cases h⟩

theorem over : Rows.fnExactPossibleRow.holds Try.pinned (OpenSpec.ofChange Rows.fnExactPossibleSpec) :=
  OpenClaim.holds_of_wide 5 Try.f5 rfl rfl rfl rfl rfl rfl rfl ⟨rfl, rfl, rfl, rfl, rfl⟩ rfl rfl rfl rfl rfl (by kernel_rfl) Try.func5 (by kernel_rfl)
    (of_decide_eq_true (by kernel_rfl)) (by unfold Func.isWrapper; first | (rw [if_pos (by decide +kernel)]; kernel_rfl) | (rw [if_neg (by decide +kernel)]; exact ⟨rfl, rfl⟩))
    (fun os started H enc _ => lifted os started H enc)

#print axioms over
end Go.Proofs.Ytgakfkjjkobpiaa.fnExactPossible
namespace Go.Proofs.Ytgakfkjjkobpiaa
theorem fnExactPossible_holds : Rows.FnExactPossibleSaid := fnExactPossible.over
end Go.Proofs.Ytgakfkjjkobpiaa
