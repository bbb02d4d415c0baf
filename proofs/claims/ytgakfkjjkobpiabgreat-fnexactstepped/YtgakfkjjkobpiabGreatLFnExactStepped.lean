/- At every board and every number the program's Stepped answers as the specification's does, in memory of its own, and writes into no argument: the law FnExactStepped answers true and its arguments stay. -/
import Derived.Test.YtgakfkjjkobpiabGreatRows
import Derived.WalkKit
import Derived.ProofKit
import Derived.OpenShut
import Derived.ShutString
import Derived.ChangeOld
import Derived.Below
import Derived.Test.YtgakfkjjkobpiabGreatMS
import Derived.Test.YtgakfkjjkobpiabGreatNC
import Derived.Test.YtgakfkjjkobpiabGreatMU
import Derived.Deep.Cut
import Derived.Deep.RegionHeld3
namespace Go.Proofs.YtgakfkjjkobpiabGreat.fnExactStepped
open Go.ChangeShapes Go.WideShapes Go.ChangeAt Go.RowKit
open Go.ChangeMaps (open_string shut_string)
set_option linter.unusedVariables false

theorem own : ownKnob Tryz.prog.godebug = none := by kernel_rfl
theorem laidOut : laidOutB Tryz.prog = true := by kernel_rfl

set_option maxRecDepth 100000 in
set_option maxHeartbeats 8000000 in
theorem walk (bv : BV) (dss : List (List Dd)) (b : Bd) (p : Int) (w : World) (hr : RdBd w bv dss b) (ht : TopBd dss b) :
    Calls Tryz.prog 3 #[bv.agg, .int .i64 p] w fun e w' => e = .returned (.bool true) ∧ Below w.heap.size w w' := by
  obtain ⟨aW, aP, aL, aN, aX, aT, aF, aR, cW, cP, cL, cQ, cX, cT, cF, cR, rfl⟩ := hr.shapes
  have lboard_info : (Tryz.prog.info? 27).map (·.size) = some 8 := by kernel_rfl
  have HH := Lib.hid hr
  have HT := Lib.hid ht
  clear hr ht
  go_enter Tryz.func3, Tryz.ntmps3
  go_upto_region 2 with fail
  obtain ⟨w0, hw0⟩ : ∃ W : World, W = w.alloc (.cells #[.slice aW dss.length cW, .slice aP b.plc.length cP, .slice aL b.lst.length cL, .slice aN b.nts.length cQ, .slice aX b.nxt.length cX, .slice aT b.sn.length cT, .slice aF b.fr.length cF, .slice aR b.rws.length cR] 27) := ⟨_, rfl⟩
  have K0 : Keep w w0 := by rw [hw0]; exact (Keep.refl w).alloc _
  have hB : w0.heap[w.heap.size]? = some (.cells #[.slice aW dss.length cW, .slice aP b.plc.length cP, .slice aL b.lst.length cL, .slice aN b.nts.length cQ, .slice aX b.nxt.length cX, .slice aT b.sn.length cT, .slice aF b.fr.length cF, .slice aR b.rws.length cR] 27 (0, 0)) := by rw [hw0]; exact heap_alloc_new _ _
  have y0 : w.heap.size < w0.heap.size := by rw [hw0, heap_size]; omega
  rw [← hw0]
  clear hw0
  go_wp2_with (first | refine wpList_load_row rfl 27 _ rfl w.heap.size rfl 27 _ (0, 0) _ hB Tryz.underlying27 rfl lboard_info ?_ | fail)
  refine (szBoard_sum _ _ dss b (HH.out.keep K0) HT.out _ (by omega) (by omega)).mono ?_
  rintro e w1 ⟨r, rfl, k1, hd⟩
  have K1 := K0.trans k1
  by_cases hneg : r < 0
  · go_wp2
    go_ret
    exact ⟨rfl, K1⟩
  obtain ⟨hz, hsum⟩ := hd.resolve_left hneg
  have hge : (0 : Int) ≤ r := by omega
  replace hB := (Below.block k1 w.heap.size y0).trans hB
  have s1 := k1.size
  have HZ := Lib.hid hz
  have HS := Lib.hid hsum
  obtain ⟨hz2, hs2⟩ := sz_step dss b p
  have HZ2 := Lib.hid hz2
  have HS2 := Lib.hid hs2
  have CS := Lib.hid (fun (W : World) (bv : BV) (h : RdBd W bv dss b) => specStepped_any W bv dss b p h HZ.out)
  have CI := Lib.hid (fun (W : World) (bv : BV) (h : RdBd W bv dss b) => implStepped_any W bv dss b p h HZ.out)
  clear hz2 hs2
  generalize stpD dss b = D at *
  generalize stpB dss b p = B at *
  generalize stpT dss b p = T at *
  have hTT : (T != T) = false := by cases T <;> rfl
  have yB : w.heap.size < w1.heap.size := by omega
  clear hd hneg hz hsum y0 s1 k1 K0
  go_wp2_with (first | refine wpList_load_row rfl 27 _ rfl w.heap.size rfl 27 _ (0, 0) _ hB Tryz.underlying27 rfl lboard_info ?_ | fail)
  refine (toBoard_any _ _ dss b (HH.out.keep K1) HZ.out).mono ?_
  rintro e w2 ⟨bv2, nv2, rv2, wv2, rfl, o2, k2⟩
  have K2 := K1.trans k2
  have s2 := k2.size
  go_wp2_with fail
  refine (CS.out _ bv2 o2.rd).mono ?_
  rintro e w3 ⟨bv3, rfl, r3, k3⟩
  have K3 := K2.trans k3
  have s3 := k3.size
  replace hB := (Below.block (k2.trans k3) w.heap.size yB).trans hB
  clear o2 k2 k3 CS K1 K2
  obtain ⟨aW3, aP3, aL3, aN3, aX3, aT3, aF3, aR3, cW3, cP3, cL3, cQ3, cX3, cT3, cF3, cR3, rfl⟩ : ∃ (aW aP aL aN aX aT aF aR : Option Addr) (cW cP cL cQ cX cT cF cR : Nat), bv3 = ⟨.slice aW D.length cW, .slice aP B.plc.length cP, .slice aL B.lst.length cL, .slice aN B.nts.length cQ, .slice aX B.nxt.length cX, .slice aT B.sn.length cT, .slice aF B.fr.length cF, .slice aR B.rws.length cR⟩ := r3.shapes
  go_upto_region 6 with fail
  obtain ⟨w4, hw4⟩ : ∃ W : World, W = w3.alloc (.cells #[.slice aW3 D.length cW3, .slice aP3 B.plc.length cP3, .slice aL3 B.lst.length cL3, .slice aN3 B.nts.length cQ3, .slice aX3 B.nxt.length cX3, .slice aT3 B.sn.length cT3, .slice aF3 B.fr.length cF3, .slice aR3 B.rws.length cR3] 32) := ⟨_, rfl⟩
  have k4 : Keep w3 w4 := by rw [hw4]; exact (Keep.refl w3).alloc _
  have hA : w4.heap[w3.heap.size]? = some (.cells #[.slice aW3 D.length cW3, .slice aP3 B.plc.length cP3, .slice aL3 B.lst.length cL3, .slice aN3 B.nts.length cQ3, .slice aX3 B.nxt.length cX3, .slice aT3 B.sn.length cT3, .slice aF3 B.fr.length cF3, .slice aR3 B.rws.length cR3] 32 (0, 0)) := by rw [hw4]; exact heap_alloc_new _ _
  have yA : w3.heap.size < w4.heap.size := by rw [hw4, heap_size]; omega
  rw [← hw4]
  clear hw4
  have K4 := K3.trans k4
  have r4 := r3.keep k4
  have zA : w.heap.size < w3.heap.size := by omega
  replace hB := (Below.block k4 w.heap.size (by omega)).trans hB
  generalize w3.heap.size = A at *
  clear r3 k4 K3 s3 s2
  go_wp2_with (first | refine wpList_load_row rfl 27 _ rfl w.heap.size rfl 27 _ (0, 0) _ hB Tryz.underlying27 rfl lboard_info ?_ | fail)
  refine (toBoard_any _ _ dss b (HH.out.keep K4) HZ.out).mono ?_
  rintro e w5 ⟨bv5, nv5, rv5, wv5, rfl, o5, k5⟩
  have K5 := K4.trans k5
  have s5 := k5.size
  have f5 := o5.free
  have q5 := o5.rd
  replace hA := (Below.block k5 A (by omega)).trans hA
  replace hB := (Below.block k5 w.heap.size (by omega)).trans hB
  have Kb5 : Keep w4 w5 := k5
  clear o5 k5
  obtain ⟨aW5, aP5, aL5, aN5, aX5, aT5, aF5, aR5, cW5, cP5, cL5, cQ5, cX5, cT5, cF5, cR5, rfl⟩ := q5.shapes
  go_upto_region 7 with fail
  obtain ⟨w6, hw6⟩ : ∃ W : World, W = w5.alloc (.cells #[.slice aW5 dss.length cW5, .slice aP5 b.plc.length cP5, .slice aL5 b.lst.length cL5, .slice aN5 b.nts.length cQ5, .slice aX5 b.nxt.length cX5, .slice aT5 b.sn.length cT5, .slice aF5 b.fr.length cF5, .slice aR5 b.rws.length cR5] 32) := ⟨_, rfl⟩
  have k6 : Keep w5 w6 := by rw [hw6]; exact (Keep.refl w5).alloc _
  have hX : w6.heap[w5.heap.size]? = some (.cells #[.slice aW5 dss.length cW5, .slice aP5 b.plc.length cP5, .slice aL5 b.lst.length cL5, .slice aN5 b.nts.length cQ5, .slice aX5 b.nxt.length cX5, .slice aT5 b.sn.length cT5, .slice aF5 b.fr.length cF5, .slice aR5 b.rws.length cR5] 32 (0, 0)) := by rw [hw6]; exact heap_alloc_new _ _
  have yX : w5.heap.size < w6.heap.size := by rw [hw6, heap_size]; omega
  rw [← hw6]
  clear hw6
  have K6 := K5.trans k6
  have Kb6 := Kb5.trans k6
  have f6 := f5.keep k6
  have q6 := q5.keep k6
  replace hA := (Below.block k6 A (by omega)).trans hA
  replace hB := (Below.block k6 w.heap.size (by omega)).trans hB
  generalize w5.heap.size = X at *
  clear f5 q5 k6 K5 Kb5
  go_wp2_with (first | refine wpList_load_row rfl 32 _ rfl X rfl 32 _ (0, 0) _ hX Tryz.underlying32 rfl board_info ?_ | fail)
  refine (CI.out _ _ q6).mono ?_
  rintro e w7 ⟨bv7, rfl, g7, k7⟩
  have K7 := K6.trans k7
  have Kb7 := Kb6.trans k7
  have s7 := k7.size
  have f7 := f6.keep k7
  replace hA := (Below.block k7 A (by omega)).trans hA
  replace hB := (Below.block k7 w.heap.size (by omega)).trans hB
  replace hX := (Below.block k7 X (by omega)).trans hX
  clear f6 q6 K6 Kb6 k7
  obtain ⟨aW7, aP7, aL7, aN7, aX7, aT7, aF7, aR7, cW7, cP7, cL7, cQ7, cX7, cT7, cF7, cR7, rfl⟩ : ∃ (aW aP aL aN aX aT aF aR : Option Addr) (cW cP cL cQ cX cT cF cR : Nat), bv7 = ⟨.slice aW D.length cW, .slice aP B.plc.length cP, .slice aL B.lst.length cL, .slice aN B.nts.length cQ, .slice aX B.nxt.length cX, .slice aT B.sn.length cT, .slice aF B.fr.length cF, .slice aR B.rws.length cR⟩ := g7.rd.shapes
  go_upto_region 8 with fail
  obtain ⟨w8, hw8⟩ : ∃ W : World, W = w7.alloc (.cells #[.slice aW7 D.length cW7, .slice aP7 B.plc.length cP7, .slice aL7 B.lst.length cL7, .slice aN7 B.nts.length cQ7, .slice aX7 B.nxt.length cX7, .slice aT7 B.sn.length cT7, .slice aF7 B.fr.length cF7, .slice aR7 B.rws.length cR7] 32) := ⟨_, rfl⟩
  have k8 : Keep w7 w8 := by rw [hw8]; exact (Keep.refl w7).alloc _
  have hG : w8.heap[w7.heap.size]? = some (.cells #[.slice aW7 D.length cW7, .slice aP7 B.plc.length cP7, .slice aL7 B.lst.length cL7, .slice aN7 B.nts.length cQ7, .slice aX7 B.nxt.length cX7, .slice aT7 B.sn.length cT7, .slice aF7 B.fr.length cF7, .slice aR7 B.rws.length cR7] 32 (0, 0)) := by rw [hw8]; exact heap_alloc_new _ _
  have yG : w7.heap.size < w8.heap.size := by rw [hw8, heap_size]; omega
  rw [← hw8]
  clear hw8
  have K8 := K7.trans k8
  have Kb8 := Kb7.trans k8
  have f8 := f7.keep k8
  have g8 := g7.keep k8
  replace hA := (Below.block k8 A (by omega)).trans hA
  replace hB := (Below.block k8 w.heap.size (by omega)).trans hB
  replace hX := (Below.block k8 X (by omega)).trans hX
  generalize w7.heap.size = G at *
  have z6 : w6.heap.size ≤ G := s7
  generalize w6.heap.size = G0 at *
  clear f7 g7 k8 K7 Kb7 s7
  have r8 := r4.keep Kb8
  go_wp2_with (first | refine wpList_load_row rfl 32 _ rfl G rfl 32 _ (0, 0) _ hG Tryz.underlying32 rfl board_info ?_ | refine wpList_load_row rfl 32 _ rfl A rfl 32 _ (0, 0) _ hA Tryz.underlying32 rfl board_info ?_ | fail)
  refine (eqBoard_same _ _ _ D B g8.rd r8 HZ2.out).mono ?_
  rintro e w9 ⟨rfl, k9⟩
  have K9 := K8.trans k9
  have Kb9 := Kb8.trans k9
  have f9 := f8.keep k9
  have g9 := g8.keep k9
  have s9 := k9.size
  replace hA := (Below.block k9 A (by omega)).trans hA
  replace hB := (Below.block k9 w.heap.size (by omega)).trans hB
  replace hX := (Below.block k9 X (by omega)).trans hX
  replace hG := (Below.block k9 G (by omega)).trans hG
  have zG : G < w9.heap.size := by omega
  clear f8 g8 k9 K8 Kb8 r8
  have xQ0 : w9.cell? ⟨w.heap.size, 0, none⟩ = some (.slice aW dss.length cW) := by rw [cell_of_row w9 _ 0 _ _ _ hB]; rfl
  have xQ1 : w9.cell? ⟨w.heap.size, 1, none⟩ = some (.slice aP b.plc.length cP) := by rw [cell_of_row w9 _ 1 _ _ _ hB]; rfl
  have xQ2 : w9.cell? ⟨w.heap.size, 2, none⟩ = some (.slice aL b.lst.length cL) := by rw [cell_of_row w9 _ 2 _ _ _ hB]; rfl
  have xQ3 : w9.cell? ⟨w.heap.size, 3, none⟩ = some (.slice aN b.nts.length cQ) := by rw [cell_of_row w9 _ 3 _ _ _ hB]; rfl
  have xQ4 : w9.cell? ⟨w.heap.size, 4, none⟩ = some (.slice aX b.nxt.length cX) := by rw [cell_of_row w9 _ 4 _ _ _ hB]; rfl
  have xQ5 : w9.cell? ⟨w.heap.size, 5, none⟩ = some (.slice aT b.sn.length cT) := by rw [cell_of_row w9 _ 5 _ _ _ hB]; rfl
  have xQ6 : w9.cell? ⟨w.heap.size, 6, none⟩ = some (.slice aF b.fr.length cF) := by rw [cell_of_row w9 _ 6 _ _ _ hB]; rfl
  have xQ7 : w9.cell? ⟨w.heap.size, 7, none⟩ = some (.slice aR b.rws.length cR) := by rw [cell_of_row w9 _ 7 _ _ _ hB]; rfl
  have xX0 : w9.cell? ⟨X, 0, none⟩ = some (.slice aW5 dss.length cW5) := by rw [cell_of_row w9 _ 0 _ _ _ hX]; rfl
  have xX1 : w9.cell? ⟨X, 1, none⟩ = some (.slice aP5 b.plc.length cP5) := by rw [cell_of_row w9 _ 1 _ _ _ hX]; rfl
  have xX2 : w9.cell? ⟨X, 2, none⟩ = some (.slice aL5 b.lst.length cL5) := by rw [cell_of_row w9 _ 2 _ _ _ hX]; rfl
  have xX3 : w9.cell? ⟨X, 3, none⟩ = some (.slice aN5 b.nts.length cQ5) := by rw [cell_of_row w9 _ 3 _ _ _ hX]; rfl
  have xX4 : w9.cell? ⟨X, 4, none⟩ = some (.slice aX5 b.nxt.length cX5) := by rw [cell_of_row w9 _ 4 _ _ _ hX]; rfl
  have xX5 : w9.cell? ⟨X, 5, none⟩ = some (.slice aT5 b.sn.length cT5) := by rw [cell_of_row w9 _ 5 _ _ _ hX]; rfl
  have xX6 : w9.cell? ⟨X, 6, none⟩ = some (.slice aF5 b.fr.length cF5) := by rw [cell_of_row w9 _ 6 _ _ _ hX]; rfl
  have xX7 : w9.cell? ⟨X, 7, none⟩ = some (.slice aR5 b.rws.length cR5) := by rw [cell_of_row w9 _ 7 _ _ _ hX]; rfl
  have l1 : w.heap.size < w9.drew.heap.size := by rw [heap_drew]; omega
  have l2 : X < w9.drew.heap.size := by rw [heap_drew]; omega
  go_upto_region 10 with fail
  go_cut [49] from 16 (fun s wx => s = .bool false ∧ Keep w9 wx)
  case first =>
    go_wp2_with fail
    go_region_held3 (fun w' => w'.cell? ⟨w.heap.size, 0, none⟩ = some (.slice aW dss.length cW) ∧ w'.cell? ⟨w.heap.size, 1, none⟩ = some (.slice aP b.plc.length cP) ∧ w'.cell? ⟨w.heap.size, 2, none⟩ = some (.slice aL b.lst.length cL) ∧ w'.cell? ⟨w.heap.size, 3, none⟩ = some (.slice aN b.nts.length cQ) ∧ w'.cell? ⟨w.heap.size, 4, none⟩ = some (.slice aX b.nxt.length cX) ∧ w'.cell? ⟨w.heap.size, 5, none⟩ = some (.slice aT b.sn.length cT) ∧ w'.cell? ⟨w.heap.size, 6, none⟩ = some (.slice aF b.fr.length cF) ∧ w'.cell? ⟨w.heap.size, 7, none⟩ = some (.slice aR b.rws.length cR) ∧ w'.cell? ⟨X, 0, none⟩ = some (.slice aW5 dss.length cW5) ∧ w'.cell? ⟨X, 1, none⟩ = some (.slice aP5 b.plc.length cP5) ∧ w'.cell? ⟨X, 2, none⟩ = some (.slice aL5 b.lst.length cL5) ∧ w'.cell? ⟨X, 3, none⟩ = some (.slice aN5 b.nts.length cQ5) ∧ w'.cell? ⟨X, 4, none⟩ = some (.slice aX5 b.nxt.length cX5) ∧ w'.cell? ⟨X, 5, none⟩ = some (.slice aT5 b.sn.length cT5) ∧ w'.cell? ⟨X, 6, none⟩ = some (.slice aF5 b.fr.length cF5) ∧ w'.cell? ⟨X, 7, none⟩ = some (.slice aR5 b.rws.length cR5))
      (first | go_keep | (go_split_ands; refine ⟨?_, ?_, ?_, ?_, ?_, ?_, ?_, ?_, ?_, ?_, ?_, ?_, ?_, ?_, ?_, ?_⟩ <;> (rw [kk.cell (by assumption)]; assumption)))
      ((first
        | (go_at_call 8; refine (toBoard_any _ _ dss b ((HH.out.keep K9).keep (Keep.refl w9).drew) HZ.out).mono ?_; rintro e wz ⟨bv8, nv8, rv8, wv8, rfl, o8, kk⟩; have m1 : w.heap.size < wz.heap.size := Nat.lt_of_lt_of_le l1 kk.size; have m2 : X < wz.heap.size := Nat.lt_of_lt_of_le l2 kk.size; have kz := (Keep.refl w9).drew.trans kk)
        | (go_at_call 10; refine (eqBoard_same _ _ _ dss b (f9.rd.keep kz) o8.rd HZ.out).mono ?_; clear kk; rintro e wy ⟨rfl, kk⟩)))
    all_goals
      go_wp2
      go_meet
      case rel => exact ⟨rfl, kz.trans kk⟩
  case rest =>
    obtain ⟨rfl, kd⟩ := hcut
    obtain ⟨wd, hwd⟩ : ∃ W : World, W = wc := ⟨_, rfl⟩
    subst hwd
    have sd := kd.size
    have Kd := K9.trans kd
    have Kbd := Kb9.trans kd
    have fd := f9.keep kd
    have gd := g9.keep kd
    replace hA := (Below.block kd A (by omega)).trans hA
    replace hB := (Below.block kd w.heap.size (by omega)).trans hB
    replace hX := (Below.block kd X (by omega)).trans hX
    replace hG := (Below.block kd G (by omega)).trans hG
    have zd : G < wd.heap.size := by omega
    clear K9 Kb9 f9 g9 kd xQ0 xQ1 xQ2 xQ3 xQ4 xQ5 xQ6 xQ7 xX0 xX1 xX2 xX3 xX4 xX5 xX6 xX7 l1 l2
    go_wp2_with (first | refine wpList_load_row rfl 32 _ rfl X rfl 32 _ (0, 0) _ hX Tryz.underlying32 rfl board_info ?_ | fail)
    refine (markB_any _ _ _ dss b _ fd HZ.out HS.out).mono ?_
    rintro e w11 ⟨n1, rfl, hn1, -, om⟩
    have K11 := Kd.only om (by omega)
    have Kb11 := Kbd.only om (Nat.le_refl _)
    have r11 := r4.keep Kb11
    have g11 : FreeBd w11 G0 G _ D B := gd.above (fun q hq hl => om.block q hl (.inr (by omega))) om.size
    replace hB := (om.block w.heap.size (by omega) (.inl (by omega))).trans hB
    replace hA := (om.block A (by omega) (.inl (by omega))).trans hA
    replace hG := (om.block G zd (.inr (by omega))).trans hG
    have s11 := om.size
    have z11 : G < w11.heap.size := by omega
    have dk : ¬ ((1 : Int) + (n1 : Int) < 0) := by omega
    clear om Kd Kbd fd gd hX
    have xG0 : w11.cell? ⟨G, 0, none⟩ = some (.slice aW7 D.length cW7) := by rw [cell_of_row w11 _ 0 _ _ _ hG]; rfl
    have xG1 : w11.cell? ⟨G, 1, none⟩ = some (.slice aP7 B.plc.length cP7) := by rw [cell_of_row w11 _ 1 _ _ _ hG]; rfl
    have xG2 : w11.cell? ⟨G, 2, none⟩ = some (.slice aL7 B.lst.length cL7) := by rw [cell_of_row w11 _ 2 _ _ _ hG]; rfl
    have xG3 : w11.cell? ⟨G, 3, none⟩ = some (.slice aN7 B.nts.length cQ7) := by rw [cell_of_row w11 _ 3 _ _ _ hG]; rfl
    have xG4 : w11.cell? ⟨G, 4, none⟩ = some (.slice aX7 B.nxt.length cX7) := by rw [cell_of_row w11 _ 4 _ _ _ hG]; rfl
    have xG5 : w11.cell? ⟨G, 5, none⟩ = some (.slice aT7 B.sn.length cT7) := by rw [cell_of_row w11 _ 5 _ _ _ hG]; rfl
    have xG6 : w11.cell? ⟨G, 6, none⟩ = some (.slice aF7 B.fr.length cF7) := by rw [cell_of_row w11 _ 6 _ _ _ hG]; rfl
    have xG7 : w11.cell? ⟨G, 7, none⟩ = some (.slice aR7 B.rws.length cR7) := by rw [cell_of_row w11 _ 7 _ _ _ hG]; rfl
    have xA0 : w11.cell? ⟨A, 0, none⟩ = some (.slice aW3 D.length cW3) := by rw [cell_of_row w11 _ 0 _ _ _ hA]; rfl
    have xA1 : w11.cell? ⟨A, 1, none⟩ = some (.slice aP3 B.plc.length cP3) := by rw [cell_of_row w11 _ 1 _ _ _ hA]; rfl
    have xA2 : w11.cell? ⟨A, 2, none⟩ = some (.slice aL3 B.lst.length cL3) := by rw [cell_of_row w11 _ 2 _ _ _ hA]; rfl
    have xA3 : w11.cell? ⟨A, 3, none⟩ = some (.slice aN3 B.nts.length cQ3) := by rw [cell_of_row w11 _ 3 _ _ _ hA]; rfl
    have xA4 : w11.cell? ⟨A, 4, none⟩ = some (.slice aX3 B.nxt.length cX3) := by rw [cell_of_row w11 _ 4 _ _ _ hA]; rfl
    have xA5 : w11.cell? ⟨A, 5, none⟩ = some (.slice aT3 B.sn.length cT3) := by rw [cell_of_row w11 _ 5 _ _ _ hA]; rfl
    have xA6 : w11.cell? ⟨A, 6, none⟩ = some (.slice aF3 B.fr.length cF3) := by rw [cell_of_row w11 _ 6 _ _ _ hA]; rfl
    have xA7 : w11.cell? ⟨A, 7, none⟩ = some (.slice aR3 B.rws.length cR3) := by rw [cell_of_row w11 _ 7 _ _ _ hA]; rfl
    go_wp2_with fail
    refine (eqBoard_same _ _ _ D B g11.rd r11 HZ2.out).mono ?_
    rintro e w12 ⟨rfl, k12⟩
    clear xG0 xG1 xG2 xG3 xG4 xG5 xG6 xG7 xA0 xA1 xA2 xA3 xA4 xA5 xA6 xA7
    have K12 := K11.trans k12
    have Kb12 := Kb11.trans k12
    have g12 := g11.keep k12
    replace hA := (Below.block k12 A (by omega)).trans hA
    replace hB := (Below.block k12 w.heap.size (by omega)).trans hB
    replace hG := (Below.block k12 G (by omega)).trans hG
    have z12 : G < w12.heap.size := Nat.lt_of_lt_of_le z11 k12.size
    clear K11 Kb11 r11 g11 k12 dk
    go_wp2_with (first | refine wpList_load_row rfl 32 _ rfl G rfl 32 _ (0, 0) _ hG Tryz.underlying32 rfl board_info ?_ | fail)
    refine (markB_any _ _ _ D B _ g12 HZ2.out HS2.out).mono ?_
    rintro e w13 ⟨n, rfl, hn, m13, om⟩
    have K13 := K12.only om (by omega)
    have Kb13 := Kb12.only om (by omega)
    replace hB := (om.block w.heap.size (by omega) (.inl (by omega))).trans hB
    replace hA := (om.block A (by omega) (.inl (by omega))).trans hA
    replace hG := (om.block G z12 (.inr (Nat.le_refl _))).trans hG
    have z13 : G < w13.heap.size := Nat.lt_of_lt_of_le z12 om.size
    clear om K12 Kb12 g12
    have nq : ((1 : Int) + (n : Int) != 1 + (n : Int)) = false := by simp
    have dq : ¬ ((1 : Int) + (n : Int) < 0) := by omega
    go_wp2_with (first | refine wpList_load_row rfl 32 _ rfl G rfl 32 _ (0, 0) _ hG Tryz.underlying32 rfl board_info ?_ | fail)
    refine (heldB_any _ _ D B n m13 HZ2.out HS2.out).mono ?_
    rintro e w14 ⟨rfl, k14⟩
    have K14 := K13.trans k14
    have Kb14 := Kb13.trans k14
    have m14 := m13.keep k14
    replace hA := (Below.block k14 A (by omega)).trans hA
    replace hB := (Below.block k14 w.heap.size (by omega)).trans hB
    replace hG := (Below.block k14 G (by omega)).trans hG
    have z14 : G < w14.heap.size := Nat.lt_of_lt_of_le z13 k14.size
    clear K13 Kb13 m13 k14
    go_wp2_with (first | refine wpList_load_row rfl 27 _ rfl w.heap.size rfl 27 _ (0, 0) _ hB Tryz.underlying27 rfl lboard_info ?_ | fail)
    refine (toBoard_any _ _ dss b (HH.out.keep K14) HZ.out).mono ?_
    rintro e w15 ⟨bv15, nv15, rv15, wv15, rfl, o15, k15⟩
    have K15 := K14.trans k15
    have Kb15 := Kb14.trans k15
    have m15 := m14.keep k15
    replace hA := (Below.block k15 A (by omega)).trans hA
    replace hG := (Below.block k15 G (by omega)).trans hG
    have z15 : G < w15.heap.size := Nat.lt_of_lt_of_le z14 k15.size
    clear K14 Kb14 m14 k15 hB
    go_wp2_with fail
    refine (CI.out _ _ o15.rd).mono ?_
    rintro e w16 ⟨bv16, rfl, f16, k16⟩
    have K16 := K15.trans k16
    have Kb16 := Kb15.trans k16
    have m16 := m15.keep k16
    have t16 := f16.rd
    replace hA := (Below.block k16 A (by omega)).trans hA
    replace hG := (Below.block k16 G (by omega)).trans hG
    have z16 : G < w16.heap.size := Nat.lt_of_lt_of_le z15 k16.size
    clear K15 Kb15 m15 k16 f16 o15
    obtain ⟨aW6, aP6, aL6, aN6, aX6, aT6, aF6, aR6, cW6, cP6, cL6, cQ6, cX6, cT6, cF6, cR6, rfl⟩ : ∃ (aW aP aL aN aX aT aF aR : Option Addr) (cW cP cL cQ cX cT cF cR : Nat), bv16 = ⟨.slice aW D.length cW, .slice aP B.plc.length cP, .slice aL B.lst.length cL, .slice aN B.nts.length cQ, .slice aX B.nxt.length cX, .slice aT B.sn.length cT, .slice aF B.fr.length cF, .slice aR B.rws.length cR⟩ := t16.shapes
    go_upto_region 25 with fail
    obtain ⟨w17, hw17⟩ : ∃ W : World, W = w16.alloc (.cells #[.slice aW6 D.length cW6, .slice aP6 B.plc.length cP6, .slice aL6 B.lst.length cL6, .slice aN6 B.nts.length cQ6, .slice aX6 B.nxt.length cX6, .slice aT6 B.sn.length cT6, .slice aF6 B.fr.length cF6, .slice aR6 B.rws.length cR6] 32) := ⟨_, rfl⟩
    have k17 : Keep w16 w17 := by rw [hw17]; exact (Keep.refl w16).alloc _
    have hH : w17.heap[w16.heap.size]? = some (.cells #[.slice aW6 D.length cW6, .slice aP6 B.plc.length cP6, .slice aL6 B.lst.length cL6, .slice aN6 B.nts.length cQ6, .slice aX6 B.nxt.length cX6, .slice aT6 B.sn.length cT6, .slice aF6 B.fr.length cF6, .slice aR6 B.rws.length cR6] 32 (0, 0)) := by rw [hw17]; exact heap_alloc_new _ _
    rw [← hw17]
    clear hw17
    have K17 := K16.trans k17
    have Kb17 := Kb16.trans k17
    have m17 := m16.keep k17
    have t17 := t16.keep k17
    have u17 := r4.keep Kb17
    replace hA := (Below.block k17 A (by omega)).trans hA
    replace hG := (Below.block k17 G (by omega)).trans hG
    have z17 : G < w17.heap.size := Nat.lt_of_lt_of_le z16 k17.size
    generalize w16.heap.size = H at *
    clear K16 Kb16 m16 t16 k17
    go_wp2_with (first | refine wpList_load_row rfl 32 _ rfl H rfl 32 _ (0, 0) _ hH Tryz.underlying32 rfl board_info ?_ | refine wpList_load_row rfl 32 _ rfl A rfl 32 _ (0, 0) _ hA Tryz.underlying32 rfl board_info ?_ | fail)
    refine (eqBoard_same _ _ _ D B t17 u17 HZ2.out).mono ?_
    rintro e w18 ⟨rfl, k18⟩
    have K18 := K17.trans k18
    have m18 := m17.keep k18
    replace hG := (Below.block k18 G z17).trans hG
    clear K17 m17 t17 u17 k18 hH hA Kb17
    go_wp2_with (first | refine wpList_load_row rfl 32 _ rfl G rfl 32 _ (0, 0) _ hG Tryz.underlying32 rfl board_info ?_ | fail)
    refine (heldB_any _ _ D B n m18 HZ2.out HS2.out).mono ?_
    rintro e w19 ⟨rfl, k19⟩
    have K19 := K18.trans k19
    clear hG m18
    go_wp2
    go_ret
    exact ⟨rfl, K19⟩

set_option maxRecDepth 100000 in
theorem lifted (os : Os) (started : os.Started) (H : Type) (enc : TypeId × Value → H) :
    ReturnsInHanded {} Tryz.checked os 3 .any (Rows.fnExactSteppedSpec.pre6 enc Tryz.prog Tryz.f3 Rows.fnExactSteppedRow.domain false) (Rows.fnExactSteppedSpec.post enc Tryz.prog Tryz.f3 false true false false) := by
  refine returnsInHanded_of_change (C := Tryz.checked) own started (by kernel_rfl) Tryz.func3
    (ChangeSpec.witness6 (enc := enc) (C := Tryz.checked) false ⟨#[], #[.agg #[.slice none 0 0, .slice none 0 0, .slice none 0 0, .slice none 0 0, .slice none 0 0, .slice none 0 0, .slice none 0 0, .slice none 0 0], .int .i64 0], []⟩ 8 (by kernel_rfl) (by kernel_rfl) (by kernel_rfl) (by kernel_rfl)) ?_
  intro W base args ds gs before hval0 hW hcnd _

  have hval : ∀ (j : Nat) t v, Tryz.f3.params[j]? = some t → args[j]? = some v → Value.okWide Tryz.prog W .any base t v := hval0
  have hW' := hW
  obtain ⟨p, q, hA0, hV, rfl, hfz, hnd⟩ := hW
  have hA : DataW.TrodAll enc Tryz.prog W 0 (fun _ => true) true Tryz.f3.params.toList args.toList ds p := hA0
  rw [Tryz.params3] at hA hval
  obtain ⟨v0, vs0, d0, ds0, p0, q0, hargs, rfl, rfl, h0, r0⟩ := trodAll_cons hA
  obtain ⟨v1, vs1, d1, ds1, p1, q1, rfl, rfl, rfl, h1, r1⟩ := trodAll_cons r0
  obtain ⟨rfl, rfl, rfl⟩ := trodAll_nil r1
  obtain rfl : args = #[v0, v1] := by cases args; simp_all
  obtain ⟨rfl, rfl⟩ := trodVars_none hV
  have k0 := h0
  have lt0 : ∀ x ∈ p0, x.block < W.heap.size := by obtain ⟨m, hm⟩ := k0; exact DataW.trod_lt m _ _ _ hm
  obtain ⟨bv, dss, b, rfl, hr, ht⟩ := open_board (hval 0 27 v0 rfl rfl) h0
  obtain ⟨p, rfl⟩ := okWide_int Tryz.underlying2 (hval 1 2 v1 rfl rfl)
  have k1 := h1
  have lt1 : ∀ x ∈ p1, x.block < W.heap.size := by obtain ⟨m, hm⟩ := k1; exact DataW.trod_lt m _ _ _ hm
  clear hA0 hval0
  refine (walk bv dss b p W hr ht).mono fun e W' ⟨he, bel⟩ => ?_
  subst he
  exact ⟨_, rfl, _, _, _, [], _, [], hW', trodAll_mk1 (shut_bool Tryz.underlying4 _), (trodAll_cons_mk (Below.trod laidOut (by kernel_rfl) (of_decide_eq_true (by kernel_rfl)) k0 bel lt0) (trodAll_cons_mk (Below.trod laidOut (by kernel_rfl) (of_decide_eq_true (by kernel_rfl)) k1 bel lt1) trodAll_mk0)), rfl, bel.frame _, fun h => by cases h⟩

theorem over : Rows.fnExactSteppedRow.holds Tryz.pinned (OpenSpec.ofChange Rows.fnExactSteppedSpec) :=
  OpenClaim.holds_of_wide 3 Tryz.f3 rfl rfl rfl rfl rfl rfl rfl ⟨rfl, rfl, rfl, rfl, rfl⟩ rfl rfl rfl rfl rfl (by kernel_rfl) Tryz.func3 (by kernel_rfl)
    (of_decide_eq_true (by kernel_rfl)) (by unfold Func.isWrapper; first | (rw [if_pos (by decide +kernel)]; kernel_rfl) | (rw [if_neg (by decide +kernel)]; exact ⟨rfl, rfl⟩))
    (fun os started H enc _ => lifted os started H enc)

#print axioms over
end Go.Proofs.YtgakfkjjkobpiabGreat.fnExactStepped
namespace Go.Proofs.YtgakfkjjkobpiabGreat
theorem fnExactStepped_holds : Rows.FnExactSteppedSaid := fnExactStepped.over
end Go.Proofs.YtgakfkjjkobpiabGreat
