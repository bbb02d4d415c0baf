/- At every board and every two numbers the program's Reading answers as the specification's does: the law FnExactReading answers true and its arguments stay. -/
import Derived.Test.YtbmghnibngjicaaRows
import Derived.WalkKit
import Derived.ProofKit
import Derived.OpenShut
import Derived.ShutString
import Derived.ChangeOld
import Derived.Below
import Derived.Test.YtbmghnibngjicaaNF
import Derived.Test.YtbmghnibngjicaaNE
import Derived.Test.YtbmghnibngjicaaMN
import Derived.Deep.Cut
import Derived.Deep.RegionHeld3
namespace Go.Proofs.Ytbmghnibngjicaa.fnExactReading
open Go.ChangeShapes Go.WideShapes Go.ChangeAt Go.RowKit
open Go.ChangeMaps (open_string shut_string)
set_option linter.unusedVariables false

theorem own : ownKnob Try.prog.godebug = none := by kernel_rfl
theorem laidOut : laidOutB Try.prog = true := by kernel_rfl

set_option maxRecDepth 100000 in
set_option maxHeartbeats 8000000 in
theorem walk (bv : BV) (dss : List (List Dd)) (b : Bd) (p q : Int) (w : World) (hr : RdBd w bv dss b) (ht : TopBd dss b) :
    Calls Try.prog 5 #[bv.agg, .int .i64 p, .int .i64 q] w fun e w' => e = .returned (.bool true) ∧ Below w.heap.size w w' := by
  obtain ⟨aW, aP, aL, aN, aX, aT, aF, aR, cW, cP, cL, cQ, cX, cT, cF, cR, rfl⟩ := hr.shapes
  have lboard_info : (Try.prog.info? 27).map (·.size) = some 8 := by kernel_rfl
  have HH := Lib.hid hr
  have HT := Lib.hid ht
  clear hr ht
  go_enter Try.func5, Try.ntmps5
  go_upto_region 2 with fail
  obtain ⟨w0, hw0⟩ : ∃ W : World, W = w.alloc (.cells #[.slice aW dss.length cW, .slice aP b.plc.length cP, .slice aL b.lst.length cL, .slice aN b.nts.length cQ, .slice aX b.nxt.length cX, .slice aT b.sn.length cT, .slice aF b.fr.length cF, .slice aR b.rws.length cR] 27) := ⟨_, rfl⟩
  have K0 : Keep w w0 := by rw [hw0]; exact (Keep.refl w).alloc _
  have hB0 : w0.heap[w.heap.size]? = some (.cells #[.slice aW dss.length cW, .slice aP b.plc.length cP, .slice aL b.lst.length cL, .slice aN b.nts.length cQ, .slice aX b.nxt.length cX, .slice aT b.sn.length cT, .slice aF b.fr.length cF, .slice aR b.rws.length cR] 27 (0, 0)) := by rw [hw0]; exact heap_alloc_new _ _
  have y0 : w.heap.size < w0.heap.size := by rw [hw0, heap_size]; omega
  rw [← hw0]
  clear hw0
  go_wp2_with (first | refine wpList_load_row rfl 27 _ rfl w.heap.size rfl 27 _ (0, 0) _ hB0 Try.underlying27 rfl lboard_info ?_ | fail)
  refine (szBoard_any _ _ dss b (HH.out.keep K0) HT.out _ (by omega) (by omega)).mono ?_
  rintro e w1 ⟨r, rfl, k1, hd⟩
  have K1 := K0.trans k1
  by_cases hneg : r < 0
  · go_wp2
    go_ret
    exact ⟨rfl, K1⟩
  have hz := hd.resolve_left hneg
  have hge : (0 : Int) ≤ r := by omega
  have hB1 := (Below.block k1 w.heap.size y0).trans hB0
  have s1 := k1.size
  have HZ := Lib.hid hz
  clear hd hneg hB0 hz
  go_wp2_with (first | refine wpList_load_row rfl 27 _ rfl w.heap.size rfl 27 _ (0, 0) _ hB1 Try.underlying27 rfl lboard_info ?_ | fail)
  refine (toBoard_any _ _ dss b (HH.out.keep K1) HZ.out).mono ?_
  rintro e w2 ⟨bv2, nv2, rv2, wv2, rfl, o2, k2⟩
  have K2 := K1.trans k2
  have s2 := k2.size
  go_wp2_with fail
  refine (specReading_any _ bv2 dss b p q o2.rd HZ.out).mono ?_
  rintro e w3 ⟨rfl, k3⟩
  have K3 := K2.trans k3
  have s3 := k3.size
  have hB3 := (Below.block (k2.trans k3) w.heap.size (by omega)).trans hB1
  clear o2 hB1
  go_wp2_with (first | refine wpList_load_row rfl 27 _ rfl w.heap.size rfl 27 _ (0, 0) _ hB3 Try.underlying27 rfl lboard_info ?_ | fail)
  refine (toBoard_any _ _ dss b (HH.out.keep K3) HZ.out).mono ?_
  rintro e w4 ⟨bv4, nv4, rv4, wv4, rfl, o4, k4⟩
  have K4 := K3.trans k4
  have s4 := k4.size
  have hB4 := (Below.block k4 w.heap.size (by omega)).trans hB3
  have r4 := o4.rd
  obtain ⟨aW4, aP4, aL4, aN4, aX4, aT4, aF4, aR4, cW4, cP4, cL4, cQ4, cX4, cT4, cF4, cR4, rfl⟩ := r4.shapes
  clear o4 hB3
  go_upto_region 7 with fail
  obtain ⟨w5, hw5⟩ : ∃ W : World, W = w4.alloc (.cells #[.slice aW4 dss.length cW4, .slice aP4 b.plc.length cP4, .slice aL4 b.lst.length cL4, .slice aN4 b.nts.length cQ4, .slice aX4 b.nxt.length cX4, .slice aT4 b.sn.length cT4, .slice aF4 b.fr.length cF4, .slice aR4 b.rws.length cR4] 33) := ⟨_, rfl⟩
  have k5 : Keep w4 w5 := by rw [hw5]; exact (Keep.refl w4).alloc _
  have hX5 : w5.heap[w4.heap.size]? = some (.cells #[.slice aW4 dss.length cW4, .slice aP4 b.plc.length cP4, .slice aL4 b.lst.length cL4, .slice aN4 b.nts.length cQ4, .slice aX4 b.nxt.length cX4, .slice aT4 b.sn.length cT4, .slice aF4 b.fr.length cF4, .slice aR4 b.rws.length cR4] 33 (0, 0)) := by rw [hw5]; exact heap_alloc_new _ _
  have y5 : w4.heap.size < w5.heap.size := by rw [hw5, heap_size]; omega
  rw [← hw5]
  clear hw5
  have HR5 := Lib.hid (r4.keep k5)
  have K5 := K4.trans k5
  have hB5 := (Below.block k5 w.heap.size (by omega)).trans hB4
  have yX : w.heap.size < w4.heap.size := by omega
  generalize w4.heap.size = X at *
  clear r4 hB4
  go_wp2_with (first | refine wpList_load_row rfl 33 _ rfl X rfl 33 _ (0, 0) _ hX5 Try.underlying33 rfl board_info ?_ | fail)
  refine (implReading_any _ _ dss b p q HR5.out HZ.out).mono ?_
  rintro e w6 ⟨rfl, k6⟩
  have K6 := K5.trans k6
  have s6 := k6.size
  have hB6 := (Below.block k6 w.heap.size (by omega)).trans hB5
  have hX6 := (Below.block k6 X y5).trans hX5
  have HR6 := Lib.hid (HR5.out.keep k6)
  clear hB5 hX5
  generalize (rdgB dss b p q).1 = T1 at *
  generalize (rdgB dss b p q).2 = T2 at *
  have t1 : (T1 != T1) = false := by simp
  have t2 : (T2 != T2) = false := by simp
  have x0 : w6.cell? ⟨w.heap.size, 0, none⟩ = some (.slice aW dss.length cW) := by rw [cell_of_row w6 _ 0 _ _ _ hB6]; rfl
  have x1 : w6.cell? ⟨w.heap.size, 1, none⟩ = some (.slice aP b.plc.length cP) := by rw [cell_of_row w6 _ 1 _ _ _ hB6]; rfl
  have x2 : w6.cell? ⟨w.heap.size, 2, none⟩ = some (.slice aL b.lst.length cL) := by rw [cell_of_row w6 _ 2 _ _ _ hB6]; rfl
  have x3 : w6.cell? ⟨w.heap.size, 3, none⟩ = some (.slice aN b.nts.length cQ) := by rw [cell_of_row w6 _ 3 _ _ _ hB6]; rfl
  have x4 : w6.cell? ⟨w.heap.size, 4, none⟩ = some (.slice aX b.nxt.length cX) := by rw [cell_of_row w6 _ 4 _ _ _ hB6]; rfl
  have x5 : w6.cell? ⟨w.heap.size, 5, none⟩ = some (.slice aT b.sn.length cT) := by rw [cell_of_row w6 _ 5 _ _ _ hB6]; rfl
  have x6 : w6.cell? ⟨w.heap.size, 6, none⟩ = some (.slice aF b.fr.length cF) := by rw [cell_of_row w6 _ 6 _ _ _ hB6]; rfl
  have x7 : w6.cell? ⟨w.heap.size, 7, none⟩ = some (.slice aR b.rws.length cR) := by rw [cell_of_row w6 _ 7 _ _ _ hB6]; rfl
  have z0 : w6.cell? ⟨X, 0, none⟩ = some (.slice aW4 dss.length cW4) := by rw [cell_of_row w6 _ 0 _ _ _ hX6]; rfl
  have z1 : w6.cell? ⟨X, 1, none⟩ = some (.slice aP4 b.plc.length cP4) := by rw [cell_of_row w6 _ 1 _ _ _ hX6]; rfl
  have z2 : w6.cell? ⟨X, 2, none⟩ = some (.slice aL4 b.lst.length cL4) := by rw [cell_of_row w6 _ 2 _ _ _ hX6]; rfl
  have z3 : w6.cell? ⟨X, 3, none⟩ = some (.slice aN4 b.nts.length cQ4) := by rw [cell_of_row w6 _ 3 _ _ _ hX6]; rfl
  have z4 : w6.cell? ⟨X, 4, none⟩ = some (.slice aX4 b.nxt.length cX4) := by rw [cell_of_row w6 _ 4 _ _ _ hX6]; rfl
  have z5 : w6.cell? ⟨X, 5, none⟩ = some (.slice aT4 b.sn.length cT4) := by rw [cell_of_row w6 _ 5 _ _ _ hX6]; rfl
  have z6 : w6.cell? ⟨X, 6, none⟩ = some (.slice aF4 b.fr.length cF4) := by rw [cell_of_row w6 _ 6 _ _ _ hX6]; rfl
  have z7 : w6.cell? ⟨X, 7, none⟩ = some (.slice aR4 b.rws.length cR4) := by rw [cell_of_row w6 _ 7 _ _ _ hX6]; rfl
  have l1 : w.heap.size < w6.drew.heap.size := by rw [heap_drew]; omega
  have l2 : X < w6.drew.heap.size := by rw [heap_drew]; omega
  clear hB6 hX6
  go_wp2_with fail
  go_region_held3 (fun w' => w'.cell? ⟨w.heap.size, 0, none⟩ = some (.slice aW dss.length cW) ∧ w'.cell? ⟨w.heap.size, 1, none⟩ = some (.slice aP b.plc.length cP) ∧ w'.cell? ⟨w.heap.size, 2, none⟩ = some (.slice aL b.lst.length cL) ∧ w'.cell? ⟨w.heap.size, 3, none⟩ = some (.slice aN b.nts.length cQ) ∧ w'.cell? ⟨w.heap.size, 4, none⟩ = some (.slice aX b.nxt.length cX) ∧ w'.cell? ⟨w.heap.size, 5, none⟩ = some (.slice aT b.sn.length cT) ∧ w'.cell? ⟨w.heap.size, 6, none⟩ = some (.slice aF b.fr.length cF) ∧ w'.cell? ⟨w.heap.size, 7, none⟩ = some (.slice aR b.rws.length cR) ∧ w'.cell? ⟨X, 0, none⟩ = some (.slice aW4 dss.length cW4) ∧ w'.cell? ⟨X, 1, none⟩ = some (.slice aP4 b.plc.length cP4) ∧ w'.cell? ⟨X, 2, none⟩ = some (.slice aL4 b.lst.length cL4) ∧ w'.cell? ⟨X, 3, none⟩ = some (.slice aN4 b.nts.length cQ4) ∧ w'.cell? ⟨X, 4, none⟩ = some (.slice aX4 b.nxt.length cX4) ∧ w'.cell? ⟨X, 5, none⟩ = some (.slice aT4 b.sn.length cT4) ∧ w'.cell? ⟨X, 6, none⟩ = some (.slice aF4 b.fr.length cF4) ∧ w'.cell? ⟨X, 7, none⟩ = some (.slice aR4 b.rws.length cR4))
    (first | go_keep | (go_split_ands; refine ⟨?_, ?_, ?_, ?_, ?_, ?_, ?_, ?_, ?_, ?_, ?_, ?_, ?_, ?_, ?_, ?_⟩ <;> (rw [kk.cell (by assumption)]; assumption)))
    ((first
      | (go_at_call 10; refine (toBoard_any _ _ dss b ((HH.out.keep K6).keep (Keep.refl w6).drew) HZ.out).mono ?_; rintro e wz ⟨bv8, nv8, rv8, wv8, rfl, o8, kk⟩; have m1 : w.heap.size < wz.heap.size := Nat.lt_of_lt_of_le l1 kk.size; have m2 : X < wz.heap.size := Nat.lt_of_lt_of_le l2 kk.size; have kz := (Keep.refl w6).drew.trans kk)
      | (go_at_call 12; refine (eqBoard_same _ _ _ dss b (HR6.out.keep kz) o8.rd HZ.out).mono ?_; clear kk; rintro e wy ⟨rfl, kk⟩)))
  all_goals
    have KY := (K6.trans kz).trans kk
    clear x0 x1 x2 x3 x4 x5 x6 x7 z0 z1 z2 z3 z4 z5 z6 z7 o8
    go_wp2
    go_ret
    exact ⟨rfl, KY⟩

set_option maxRecDepth 100000 in
theorem lifted (os : Os) (started : os.Started) (H : Type) (enc : TypeId × Value → H) :
    ReturnsInHanded {} Try.checked os 5 .any (Rows.fnExactReadingSpec.pre6 enc Try.prog Try.f5 Rows.fnExactReadingRow.domain false) (Rows.fnExactReadingSpec.post enc Try.prog Try.f5 false true false false) := by
  refine returnsInHanded_of_change (C := Try.checked) own started (by kernel_rfl) Try.func5
    (ChangeSpec.witness6 (enc := enc) (C := Try.checked) false ⟨#[], #[.agg #[.slice none 0 0, .slice none 0 0, .slice none 0 0, .slice none 0 0, .slice none 0 0, .slice none 0 0, .slice none 0 0, .slice none 0 0], .int .i64 0, .int .i64 0], []⟩ 8 (by kernel_rfl) (by kernel_rfl) (by kernel_rfl) (by kernel_rfl)) ?_
  intro W base args ds gs before hval0 hW hcnd _

  have hval : ∀ (j : Nat) t v, Try.f5.params[j]? = some t → args[j]? = some v → Value.okWide Try.prog W .any base t v := hval0
  have hW' := hW
  obtain ⟨p, q, hA0, hV, rfl, hfz, hnd⟩ := hW
  have hA : DataW.TrodAll enc Try.prog W 0 (fun _ => true) true Try.f5.params.toList args.toList ds p := hA0
  rw [Try.params5] at hA hval
  obtain ⟨v0, vs0, d0, ds0, p0, q0, hargs, rfl, rfl, h0, r0⟩ := trodAll_cons hA
  obtain ⟨v1, vs1, d1, ds1, p1, q1, rfl, rfl, rfl, h1, r1⟩ := trodAll_cons r0
  obtain ⟨v2, vs2, d2, ds2, p2, q2, rfl, rfl, rfl, h2, r2⟩ := trodAll_cons r1
  obtain ⟨rfl, rfl, rfl⟩ := trodAll_nil r2
  obtain rfl : args = #[v0, v1, v2] := by cases args; simp_all
  obtain ⟨rfl, rfl⟩ := trodVars_none hV
  have k0 := h0
  have lt0 : ∀ x ∈ p0, x.block < W.heap.size := by obtain ⟨m, hm⟩ := k0; exact DataW.trod_lt m _ _ _ hm
  obtain ⟨bv, dss, b, rfl, hr, ht⟩ := open_board (hval 0 27 v0 rfl rfl) h0
  obtain ⟨p, rfl⟩ := okWide_int Try.underlying2 (hval 1 2 v1 rfl rfl)
  obtain ⟨q, rfl⟩ := okWide_int Try.underlying2 (hval 2 2 v2 rfl rfl)
  have k1 := h1
  have lt1 : ∀ x ∈ p1, x.block < W.heap.size := by obtain ⟨m, hm⟩ := k1; exact DataW.trod_lt m _ _ _ hm
  have k2 := h2
  have lt2 : ∀ x ∈ p2, x.block < W.heap.size := by obtain ⟨m, hm⟩ := k2; exact DataW.trod_lt m _ _ _ hm
  clear hA0 hval0
  refine (walk bv dss b p q W hr ht).mono fun e W' ⟨he, bel⟩ => ?_
  subst he
  exact ⟨_, rfl, _, _, _, [], _, [], hW', trodAll_mk1 (shut_bool Try.underlying4 _), (trodAll_cons_mk (Below.trod laidOut (by kernel_rfl) (of_decide_eq_true (by kernel_rfl)) k0 bel lt0) (trodAll_cons_mk (Below.trod laidOut (by kernel_rfl) (of_decide_eq_true (by kernel_rfl)) k1 bel lt1) (trodAll_cons_mk (Below.trod laidOut (by kernel_rfl) (of_decide_eq_true (by kernel_rfl)) k2 bel lt2) trodAll_mk0))), rfl, bel.frame _, fun h => by cases h⟩

theorem over : Rows.fnExactReadingRow.holds Try.pinned (OpenSpec.ofChange Rows.fnExactReadingSpec) :=
  OpenClaim.holds_of_wide 5 Try.f5 rfl rfl rfl rfl rfl rfl rfl ⟨rfl, rfl, rfl, rfl, rfl⟩ rfl rfl rfl rfl rfl (by kernel_rfl) Try.func5 (by kernel_rfl)
    (of_decide_eq_true (by kernel_rfl)) (by unfold Func.isWrapper; first | (rw [if_pos (by decide +kernel)]; kernel_rfl) | (rw [if_neg (by decide +kernel)]; exact ⟨rfl, rfl⟩))
    (fun os started H enc _ => lifted os started H enc)

#print axioms over
end Go.Proofs.Ytbmghnibngjicaa.fnExactReading
namespace Go.Proofs.Ytbmghnibngjicaa
theorem fnExactReading_holds : Rows.FnExactReadingSaid := fnExactReading.over
end Go.Proofs.Ytbmghnibngjicaa
