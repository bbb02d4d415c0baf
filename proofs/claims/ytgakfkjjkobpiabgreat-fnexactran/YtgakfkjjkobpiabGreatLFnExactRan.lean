/- At every list of lists of deeds and every list of steps the program's Ran answers as the specification's does, in memory of its own, and writes into no argument: the law FnExactRan answers true and its arguments stay. -/
import Derived.Test.YtgakfkjjkobpiabGreatRows
import Derived.WalkKit
import Derived.ProofKit
import Derived.OpenShut
import Derived.ShutString
import Derived.ChangeOld
import Derived.Below
import Derived.Test.YtgakfkjjkobpiabGreatMV
import Derived.Test.YtgakfkjjkobpiabGreatMY
import Derived.Test.YtgakfkjjkobpiabGreatMU
import Derived.Test.YtgakfkjjkobpiabGreatMZ
import Derived.Test.YtgakfkjjkobpiabGreatMW
namespace Go.Proofs.YtgakfkjjkobpiabGreat.fnExactRan
open Go.ChangeShapes Go.WideShapes Go.ChangeAt Go.RowKit
open Go.ChangeMaps (open_string shut_string)
set_option linter.unusedVariables false

theorem own : ownKnob Tryz.prog.godebug = none := by kernel_rfl
theorem laidOut : laidOutB Tryz.prog = true := by kernel_rfl

set_option maxRecDepth 100000 in
set_option maxHeartbeats 8000000 in
theorem walk (v : Value) (dss : List (List Dd)) (vf : Value) (f : List Int) (w : World) (hr : RdW w v dss) (hl : dss.length ≤ maxLen) (hls : ∀ i, i < dss.length → (dss.getD i []).length ≤ maxLen) (hf : Rd w vf f) (hfl : f.length ≤ maxLen) :
    Calls Tryz.prog 4 #[v, vf] w fun e w' => e = .returned (.bool true) ∧ Below w.heap.size w w' := by
  obtain ⟨af, cf, rfl, hf0⟩ := hf
  have hf : Rd w (.slice af f.length cf) f := ⟨af, cf, rfl, hf0⟩
  clear hf0
  by_cases hbf : 1048576 < f.length
  · have hbi : (1048576 : Int) < (f.length : Int) := by omega
    go_enter Tryz.func4, Tryz.ntmps4
    go_wp2
    go_ret
    exact ⟨rfl, Below.refl _ _⟩
  have hfl : f.length ≤ 1048576 := by omega
  have hbi : (f.length : Int) ≤ 1048576 := by omega
  clear hbf
  go_enter Tryz.func4, Tryz.ntmps4
  go_wp2_with fail
  refine (szW_any _ _ _ hr _ (by omega) (by omega) hl hls).mono ?_
  rintro e w0 ⟨r, rfl, rfl, hd⟩
  by_cases hneg : r < 0
  · go_wp2
    go_ret
    exact ⟨rfl, Below.refl _ _⟩
  have hsum : (dss.length + lenW dss : Int) ≤ 1048576 := hd.resolve_left hneg
  have hge : (0 : Int) ≤ r := by omega
  have l1 : dss.length ≤ 1048576 := by omega
  have l2 : ∀ i, i < dss.length → (dss.getD i []).length ≤ 1048576 := fun i hi => by have := lenW_get dss i hi; omega
  have s1 : lenW dss ≤ 1048576 := by omega
  have HL : Hid (likeW dss dss = true) := Lib.hid (by unfold likeW; simp)
  clear hd hneg hsum hl hls
  have HR0 := Lib.hid hr
  have HF0 := Lib.hid hf
  obtain ⟨hz, hs⟩ := sz_ran dss f
  have HZ := Lib.hid hz
  have HS := Lib.hid hs
  clear hz hs
  have CS := Lib.hid (fun (W : World) (u v : Value) (h : RdW W u dss) (h2 : Rd W v f) => specRan_any W u v dss f h h2 l1 l2)
  have CI := Lib.hid (fun (W : World) (u v : Value) (h : RdW W u dss) (h2 : Rd W v f) => implRan_any W u v dss f h h2 l1 l2 hfl)
  generalize ranD dss f = D at *
  generalize ranB dss f = B at *
  generalize ranT dss f = T at *
  have hTT : (T != T) = false := by cases T <;> rfl
  go_wp2_with fail
  refine (toW_any _ _ _ hr l1 l2).mono ?_
  rintro e w1 ⟨v1, rfl, o1, k1⟩
  have K1 : Keep w0 w1 := k1
  go_wp2_with fail
  refine (to_any _ _ _ (HF0.out.keep K1) hfl).mono ?_
  rintro e w1b ⟨v1b, rfl, o1b, k1b⟩
  have K1b := K1.trans k1b
  go_wp2_with fail
  refine (CS.out _ _ _ (o1.rd.keep k1b) o1b.rd).mono ?_
  rintro e w2 ⟨bv2, rfl, r2, k2⟩
  have K2 := K1b.trans k2
  clear o1 o1b k1 k1b k2 hr hf CS K1 K1b
  obtain ⟨aW2, aP2, aL2, aN2, aX2, aT2, aF2, aR2, cW2, cP2, cL2, cQ2, cX2, cT2, cF2, cR2, rfl⟩ : ∃ (aW aP aL aN aX aT aF aR : Option Addr) (cW cP cL cQ cX cT cF cR : Nat), bv2 = ⟨.slice aW D.length cW, .slice aP B.plc.length cP, .slice aL B.lst.length cL, .slice aN B.nts.length cQ, .slice aX B.nxt.length cX, .slice aT B.sn.length cT, .slice aF B.fr.length cF, .slice aR B.rws.length cR⟩ := r2.shapes
  go_upto_region 8 with fail
  obtain ⟨w3, hw3⟩ : ∃ W : World, W = w2.alloc (.cells #[.slice aW2 D.length cW2, .slice aP2 B.plc.length cP2, .slice aL2 B.lst.length cL2, .slice aN2 B.nts.length cQ2, .slice aX2 B.nxt.length cX2, .slice aT2 B.sn.length cT2, .slice aF2 B.fr.length cF2, .slice aR2 B.rws.length cR2] 32) := ⟨_, rfl⟩
  have k3 : Keep w2 w3 := by rw [hw3]; exact (Keep.refl w2).alloc _
  have hA : w3.heap[w2.heap.size]? = some (.cells #[.slice aW2 D.length cW2, .slice aP2 B.plc.length cP2, .slice aL2 B.lst.length cL2, .slice aN2 B.nts.length cQ2, .slice aX2 B.nxt.length cX2, .slice aT2 B.sn.length cT2, .slice aF2 B.fr.length cF2, .slice aR2 B.rws.length cR2] 32 (0, 0)) := by rw [hw3]; exact heap_alloc_new _ _
  have yA : w2.heap.size < w3.heap.size := by rw [hw3, heap_size]; omega
  rw [← hw3]
  clear hw3
  have K3 := K2.trans k3
  have r3 := r2.keep k3
  have zA : w0.heap.size ≤ w2.heap.size := K2.size
  generalize w2.heap.size = A at *
  clear r2 k3 K2
  go_wp2_with fail
  refine (toW_any _ _ _ (HR0.out.keep K3) l1 l2).mono ?_
  rintro e w4 ⟨v4, rfl, ox, k4⟩
  have K4 := K3.trans k4
  have rx := ox.rd
  have z3 : w0.heap.size ≤ w3.heap.size := K3.size
  have z4 : w3.heap.size ≤ w4.heap.size := k4.size
  replace hA := (Below.block k4 A (by omega)).trans hA
  have yA4 : A < w4.heap.size := by omega
  go_wp2_with fail
  refine (to_any _ _ _ (HF0.out.keep K4) hfl).mono ?_
  rintro e w4b ⟨v4b, rfl, oy, k4b⟩
  have K4b := K4.trans k4b
  have ry := oy.row
  have hub := Lib.hid oy.row.lt
  have kx4 : Keep w4 w4b := k4b
  have rx4 := rx.keep k4b
  have z4b : w4.heap.size ≤ w4b.heap.size := k4b.size
  replace hA := (Below.block k4b A (by omega)).trans hA
  clear rx K4
  go_wp2_with fail
  refine (CI.out _ _ _ rx4 oy.rd).mono ?_
  rintro e w5 ⟨bv5, rfl, f5, k5⟩
  have K5 := K4b.trans k5
  have kx5 := kx4.trans k5
  have ky5 : Keep w4b w5 := k5
  replace hA := (Below.block k5 A (by omega)).trans hA
  have rx5 := rx4.keep k5
  have ry5 := ry.keep k5
  have z5 : w4b.heap.size ≤ w5.heap.size := k5.size
  clear rx4 ry kx4 K4b
  obtain ⟨aW5, aP5, aL5, aN5, aX5, aT5, aF5, aR5, cW5, cP5, cL5, cQ5, cX5, cT5, cF5, cR5, rfl⟩ : ∃ (aW aP aL aN aX aT aF aR : Option Addr) (cW cP cL cQ cX cT cF cR : Nat), bv5 = ⟨.slice aW D.length cW, .slice aP B.plc.length cP, .slice aL B.lst.length cL, .slice aN B.nts.length cQ, .slice aX B.nxt.length cX, .slice aT B.sn.length cT, .slice aF B.fr.length cF, .slice aR B.rws.length cR⟩ := f5.rd.shapes
  go_upto_region 11 with fail
  obtain ⟨w6, hw6⟩ : ∃ W : World, W = w5.alloc (.cells #[.slice aW5 D.length cW5, .slice aP5 B.plc.length cP5, .slice aL5 B.lst.length cL5, .slice aN5 B.nts.length cQ5, .slice aX5 B.nxt.length cX5, .slice aT5 B.sn.length cT5, .slice aF5 B.fr.length cF5, .slice aR5 B.rws.length cR5] 32) := ⟨_, rfl⟩
  have k6 : Keep w5 w6 := by rw [hw6]; exact (Keep.refl w5).alloc _
  have hG : w6.heap[w5.heap.size]? = some (.cells #[.slice aW5 D.length cW5, .slice aP5 B.plc.length cP5, .slice aL5 B.lst.length cL5, .slice aN5 B.nts.length cQ5, .slice aX5 B.nxt.length cX5, .slice aT5 B.sn.length cT5, .slice aF5 B.fr.length cF5, .slice aR5 B.rws.length cR5] 32 (0, 0)) := by rw [hw6]; exact heap_alloc_new _ _
  have yG : w5.heap.size < w6.heap.size := by rw [hw6, heap_size]; omega
  rw [← hw6]
  clear hw6
  have K6 := K5.trans k6
  replace hA := (Below.block k6 A (by omega)).trans hA
  have f6 := f5.keep k6
  have rx6 := rx5.keep k6
  have ry6 := ry5.keep k6
  have kx6 := kx5.trans k6
  have zG : w4b.heap.size ≤ w5.heap.size := z5
  generalize w5.heap.size = G at *
  clear f5 rx5 ry5 kx5 ky5 k6 K5 z5
  have r6 := r3.keep (k4.trans kx6)
  go_wp2_with (first | refine wpList_load_row rfl 32 _ rfl G rfl 32 _ (0, 0) _ hG Tryz.underlying32 rfl board_info ?_ | refine wpList_load_row rfl 32 _ rfl A rfl 32 _ (0, 0) _ hA Tryz.underlying32 rfl board_info ?_ | fail)
  refine (eqBoard_same _ _ _ D B f6.rd r6 HZ.out).mono ?_
  rintro e w7 ⟨rfl, k7⟩
  have K7 := K6.trans k7
  have s7 := k7.size
  replace hA := (Below.block k7 A (by omega)).trans hA
  replace hG := (Below.block k7 G (by omega)).trans hG
  have f7 := f6.keep k7
  have rx7 := rx6.keep k7
  have ry7 := ry6.keep k7
  have kx7 := kx6.trans k7
  clear f6 r6 rx6 ry6 kx6 K6 k7
  go_wp2_with fail
  refine (toW_any _ _ _ (HR0.out.keep K7) l1 l2).mono ?_
  rintro e w8 ⟨v8, rfl, oz, k8⟩
  have K8 := K7.trans k8
  have s8 := k8.size
  replace hA := (Below.block k8 A (by omega)).trans hA
  replace hG := (Below.block k8 G (by omega)).trans hG
  have f8 := f7.keep k8
  have rx8 := rx7.keep k8
  have ry8 := ry7.keep k8
  have kx8 := kx7.trans k8
  clear f7 rx7 ry7 kx7 K7 k8
  go_wp2_with fail
  refine (eqW_any _ _ _ _ _ rx8 oz.rd l1 l2).mono ?_
  rw [HL.out]
  rintro e w9 ⟨rfl, k9⟩
  have K9 := K8.trans k9
  have s9 := k9.size
  replace hA := (Below.block k9 A (by omega)).trans hA
  replace hG := (Below.block k9 G (by omega)).trans hG
  have f9 := f8.keep k9
  have ry9 := ry8.keep k9
  have kx9 := kx8.trans k9
  clear f8 rx8 ry8 kx8 K8 k9 oz
  go_wp2_with fail
  refine (to_any _ _ _ (HF0.out.keep K9) hfl).mono ?_
  rintro e w9b ⟨v9b, rfl, ow, k9b⟩
  have K9b := K9.trans k9b
  have s9b := k9b.size
  replace hA := (Below.block k9b A (by omega)).trans hA
  replace hG := (Below.block k9b G (by omega)).trans hG
  have f9b := f9.keep k9b
  have ry9b := ry9.keep k9b
  have kx9b := kx9.trans k9b
  clear f9 ry9 kx9 K9 k9b
  go_wp2_with fail
  refine (eq_any _ _ _ _ _ ry9b.rd ow.rd hfl).mono ?_
  rintro e w9c ⟨rfl, k9c⟩
  have K9c := K9b.trans k9c
  have s9c := k9c.size
  replace hA := (Below.block k9c A (by omega)).trans hA
  replace hG := (Below.block k9c G (by omega)).trans hG
  have f9c := f9b.keep k9c
  have ry9c := ry9b.keep k9c
  have kx9c := kx9b.trans k9c
  have z9 : G < w9c.heap.size := by omega
  clear f9b ry9b kx9b K9b k9c ow
  have Kb9 : Keep w3 w9c := k4.trans kx9c
  go_wp2_with fail
  refine (markW_any w9c w4 w3.heap.size _ _ dss ox (fun b _ hb => Below.block kx9c b hb) l1 s1 (by omega) (by omega)).mono ?_
  rintro e w10 ⟨rfl, -, om⟩
  have Kb10 := Kb9.only om (Nat.le_refl _)
  have K10 := K9c.only om z3
  have f10 : FreeBd w10 w4b.heap.size G _ D B := f9c.above (fun q hq hl => om.block q hl (.inr (by omega))) om.size
  have ry10 := row_only ry9c om (Nat.le_refl _)
  replace hA := (om.block A (by omega) (.inl (by omega))).trans hA
  replace hG := (om.block G z9 (.inr (by omega))).trans hG
  have z10 : G < w10.heap.size := Nat.lt_of_lt_of_le z9 om.size
  have dk0 : ¬ ((1 : Int) + 4 * lenW dss < 0) := by omega
  clear om Kb9 K9c f9c kx9c ry9c
  go_wp2_with fail
  refine (mark_row _ _ _ _ _ ry10 hfl (by omega) (by omega)).mono ?_
  rintro e w10b ⟨rfl, -, gg⟩
  have Kb10b := Kb10.grown gg (fun k hk => by have := ry10.ge k hk; omega)
  have K10b := K10.grown gg (fun k hk => by have := ry10.ge k hk; omega)
  have f10b : FreeBd w10b w4b.heap.size G _ D B := f10.above (fun q hq hl => gg.block q hl (fun e => by have := hub.out q e.symm; omega)) gg.size
  have r10 := r3.keep Kb10b
  replace hA := (gg.block A (by omega) (fun e => by have := ry10.ge _ e.symm; omega)).trans hA
  replace hG := (gg.block G z10 (fun e => by have := hub.out _ e.symm; omega)).trans hG
  have z10b : G < w10b.heap.size := Nat.lt_of_lt_of_le z10 gg.size
  have dk : ¬ ((1 : Int) + 4 * lenW dss + f.length < 0) := by omega
  clear gg Kb10 K10 f10 ry10 dk0
  have xG0 : w10b.cell? ⟨G, 0, none⟩ = some (.slice aW5 D.length cW5) := by rw [cell_of_row w10b _ 0 _ _ _ hG]; rfl
  have xG1 : w10b.cell? ⟨G, 1, none⟩ = some (.slice aP5 B.plc.length cP5) := by rw [cell_of_row w10b _ 1 _ _ _ hG]; rfl
  have xG2 : w10b.cell? ⟨G, 2, none⟩ = some (.slice aL5 B.lst.length cL5) := by rw [cell_of_row w10b _ 2 _ _ _ hG]; rfl
  have xG3 : w10b.cell? ⟨G, 3, none⟩ = some (.slice aN5 B.nts.length cQ5) := by rw [cell_of_row w10b _ 3 _ _ _ hG]; rfl
  have xG4 : w10b.cell? ⟨G, 4, none⟩ = some (.slice aX5 B.nxt.length cX5) := by rw [cell_of_row w10b _ 4 _ _ _ hG]; rfl
  have xG5 : w10b.cell? ⟨G, 5, none⟩ = some (.slice aT5 B.sn.length cT5) := by rw [cell_of_row w10b _ 5 _ _ _ hG]; rfl
  have xG6 : w10b.cell? ⟨G, 6, none⟩ = some (.slice aF5 B.fr.length cF5) := by rw [cell_of_row w10b _ 6 _ _ _ hG]; rfl
  have xG7 : w10b.cell? ⟨G, 7, none⟩ = some (.slice aR5 B.rws.length cR5) := by rw [cell_of_row w10b _ 7 _ _ _ hG]; rfl
  have xA0 : w10b.cell? ⟨A, 0, none⟩ = some (.slice aW2 D.length cW2) := by rw [cell_of_row w10b _ 0 _ _ _ hA]; rfl
  have xA1 : w10b.cell? ⟨A, 1, none⟩ = some (.slice aP2 B.plc.length cP2) := by rw [cell_of_row w10b _ 1 _ _ _ hA]; rfl
  have xA2 : w10b.cell? ⟨A, 2, none⟩ = some (.slice aL2 B.lst.length cL2) := by rw [cell_of_row w10b _ 2 _ _ _ hA]; rfl
  have xA3 : w10b.cell? ⟨A, 3, none⟩ = some (.slice aN2 B.nts.length cQ2) := by rw [cell_of_row w10b _ 3 _ _ _ hA]; rfl
  have xA4 : w10b.cell? ⟨A, 4, none⟩ = some (.slice aX2 B.nxt.length cX2) := by rw [cell_of_row w10b _ 4 _ _ _ hA]; rfl
  have xA5 : w10b.cell? ⟨A, 5, none⟩ = some (.slice aT2 B.sn.length cT2) := by rw [cell_of_row w10b _ 5 _ _ _ hA]; rfl
  have xA6 : w10b.cell? ⟨A, 6, none⟩ = some (.slice aF2 B.fr.length cF2) := by rw [cell_of_row w10b _ 6 _ _ _ hA]; rfl
  have xA7 : w10b.cell? ⟨A, 7, none⟩ = some (.slice aR2 B.rws.length cR2) := by rw [cell_of_row w10b _ 7 _ _ _ hA]; rfl
  go_wp2_with fail
  refine (eqBoard_same _ _ _ D B f10b.rd r10 HZ.out).mono ?_
  rintro e w11 ⟨rfl, k11⟩
  clear xG0 xG1 xG2 xG3 xG4 xG5 xG6 xG7 xA0 xA1 xA2 xA3 xA4 xA5 xA6 xA7
  have K11 := K10b.trans k11
  have Kb11 := Kb10b.trans k11
  replace hA := (Below.block k11 A (by omega)).trans hA
  replace hG := (Below.block k11 G (by omega)).trans hG
  have f11 := f10b.keep k11
  have z11 : G < w11.heap.size := Nat.lt_of_lt_of_le z10b k11.size
  clear K10b Kb10b r10 f10b k11 dk
  go_wp2_with (first | refine wpList_load_row rfl 32 _ rfl G rfl 32 _ (0, 0) _ hG Tryz.underlying32 rfl board_info ?_ | refine wpList_load_row rfl 32 _ rfl A rfl 32 _ (0, 0) _ hA Tryz.underlying32 rfl board_info ?_ | fail)
  refine (markB_any _ _ _ D B _ f11 HZ.out HS.out).mono ?_
  rintro e w12 ⟨n, rfl, hn, m12, om⟩
  have Kb12 := Kb11.only om (by omega)
  have K12 := K11.only om (by omega)
  replace hA := (om.block A (by omega) (.inl (by omega))).trans hA
  replace hG := (om.block G z11 (.inr (Nat.le_refl _))).trans hG
  have z12 : G < w12.heap.size := Nat.lt_of_lt_of_le z11 om.size
  clear om Kb11 K11 f11
  have nq : ((1 : Int) + (n : Int) != 1 + (n : Int)) = false := by simp
  have dq : ¬ ((1 : Int) + (n : Int) < 0) := by omega
  go_wp2_with (first | refine wpList_load_row rfl 32 _ rfl G rfl 32 _ (0, 0) _ hG Tryz.underlying32 rfl board_info ?_ | refine wpList_load_row rfl 32 _ rfl A rfl 32 _ (0, 0) _ hA Tryz.underlying32 rfl board_info ?_ | fail)
  refine (heldB_any _ _ D B n m12 HZ.out HS.out).mono ?_
  rintro e w13 ⟨rfl, k13⟩
  have Kb13 := Kb12.trans k13
  have K13 := K12.trans k13
  have m13 := m12.keep k13
  replace hA := (Below.block k13 A (by omega)).trans hA
  replace hG := (Below.block k13 G (by omega)).trans hG
  have z13 : G < w13.heap.size := Nat.lt_of_lt_of_le z12 k13.size
  clear Kb12 K12 m12 k13
  go_wp2_with fail
  refine (toW_any _ _ _ (HR0.out.keep K13) l1 l2).mono ?_
  rintro e w14 ⟨v14, rfl, ot, k14⟩
  have Kb14 := Kb13.trans k14
  have K14 := K13.trans k14
  have m14 := m13.keep k14
  replace hA := (Below.block k14 A (by omega)).trans hA
  replace hG := (Below.block k14 G (by omega)).trans hG
  have z14 : G < w14.heap.size := Nat.lt_of_lt_of_le z13 k14.size
  clear Kb13 K13 m13 k14
  go_wp2_with fail
  refine (to_any _ _ _ (HF0.out.keep K14) hfl).mono ?_
  rintro e w14b ⟨v14b, rfl, os, k14b⟩
  have Kb14b := Kb14.trans k14b
  have K14b := K14.trans k14b
  have m14b := m14.keep k14b
  have ot2 := ot.rd.keep k14b
  replace hA := (Below.block k14b A (by omega)).trans hA
  replace hG := (Below.block k14b G (by omega)).trans hG
  have z14b : G < w14b.heap.size := Nat.lt_of_lt_of_le z14 k14b.size
  clear Kb14 K14 m14 k14b ot
  go_wp2_with fail
  refine (CI.out _ _ _ ot2 os.rd).mono ?_
  rintro e w15 ⟨bv15, rfl, f15, k15⟩
  have Kb15 := Kb14b.trans k15
  have K15 := K14b.trans k15
  have m15 := m14b.keep k15
  have r15 := f15.rd
  replace hA := (Below.block k15 A (by omega)).trans hA
  replace hG := (Below.block k15 G (by omega)).trans hG
  have z15 : G < w15.heap.size := Nat.lt_of_lt_of_le z14b k15.size
  clear Kb14b K14b m14b k15 f15 ot2 os
  obtain ⟨aW6, aP6, aL6, aN6, aX6, aT6, aF6, aR6, cW6, cP6, cL6, cQ6, cX6, cT6, cF6, cR6, rfl⟩ : ∃ (aW aP aL aN aX aT aF aR : Option Addr) (cW cP cL cQ cX cT cF cR : Nat), bv15 = ⟨.slice aW D.length cW, .slice aP B.plc.length cP, .slice aL B.lst.length cL, .slice aN B.nts.length cQ, .slice aX B.nxt.length cX, .slice aT B.sn.length cT, .slice aF B.fr.length cF, .slice aR B.rws.length cR⟩ := r15.shapes
  go_upto_region 31 with fail
  obtain ⟨w16, hw16⟩ : ∃ W : World, W = w15.alloc (.cells #[.slice aW6 D.length cW6, .slice aP6 B.plc.length cP6, .slice aL6 B.lst.length cL6, .slice aN6 B.nts.length cQ6, .slice aX6 B.nxt.length cX6, .slice aT6 B.sn.length cT6, .slice aF6 B.fr.length cF6, .slice aR6 B.rws.length cR6] 32) := ⟨_, rfl⟩
  have k16 : Keep w15 w16 := by rw [hw16]; exact (Keep.refl w15).alloc _
  have hH : w16.heap[w15.heap.size]? = some (.cells #[.slice aW6 D.length cW6, .slice aP6 B.plc.length cP6, .slice aL6 B.lst.length cL6, .slice aN6 B.nts.length cQ6, .slice aX6 B.nxt.length cX6, .slice aT6 B.sn.length cT6, .slice aF6 B.fr.length cF6, .slice aR6 B.rws.length cR6] 32 (0, 0)) := by rw [hw16]; exact heap_alloc_new _ _
  rw [← hw16]
  clear hw16
  have Kb16 := Kb15.trans k16
  have K16 := K15.trans k16
  have m16 := m15.keep k16
  have r16 := r15.keep k16
  have q16 := r3.keep Kb16
  replace hA := (Below.block k16 A (by omega)).trans hA
  replace hG := (Below.block k16 G (by omega)).trans hG
  have z16 : G < w16.heap.size := Nat.lt_of_lt_of_le z15 k16.size
  generalize w15.heap.size = H at *
  clear Kb15 K15 m15 r15 k16 z15
  go_wp2_with (first | refine wpList_load_row rfl 32 _ rfl H rfl 32 _ (0, 0) _ hH Tryz.underlying32 rfl board_info ?_ | refine wpList_load_row rfl 32 _ rfl A rfl 32 _ (0, 0) _ hA Tryz.underlying32 rfl board_info ?_ | fail)
  refine (eqBoard_same _ _ _ D B r16 q16 HZ.out).mono ?_
  rintro e w17 ⟨rfl, k17⟩
  have K17 := K16.trans k17
  have m17 := m16.keep k17
  replace hG := (Below.block k17 G z16).trans hG
  clear K16 m16 r16 q16 k17 hH hA Kb16
  go_wp2_with (first | refine wpList_load_row rfl 32 _ rfl G rfl 32 _ (0, 0) _ hG Tryz.underlying32 rfl board_info ?_ | fail)
  refine (heldB_any _ _ D B n m17 HZ.out HS.out).mono ?_
  rintro e w18 ⟨rfl, k18⟩
  have K18 := K17.trans k18
  clear hG m17
  go_wp2
  go_ret
  exact ⟨rfl, K18⟩

set_option maxRecDepth 100000 in
theorem lifted (os : Os) (started : os.Started) (H : Type) (enc : TypeId × Value → H) :
    ReturnsInHanded {} Tryz.checked os 4 .any (Rows.fnExactRanSpec.pre6 enc Tryz.prog Tryz.f4 Rows.fnExactRanRow.domain false) (Rows.fnExactRanSpec.post enc Tryz.prog Tryz.f4 false true false false) := by
  refine returnsInHanded_of_change (C := Tryz.checked) own started (by kernel_rfl) Tryz.func4
    (ChangeSpec.witness6 (enc := enc) (C := Tryz.checked) false ⟨#[], #[.slice none 0 0, .slice none 0 0], []⟩ 8 (by kernel_rfl) (by kernel_rfl) (by kernel_rfl) (by kernel_rfl)) ?_
  intro W base args ds gs before hval0 hW hcnd _

  have hval : ∀ (j : Nat) t v, Tryz.f4.params[j]? = some t → args[j]? = some v → Value.okWide Tryz.prog W .any base t v := hval0
  have hW' := hW
  obtain ⟨p, q, hA0, hV, rfl, hfz, hnd⟩ := hW
  have hA : DataW.TrodAll enc Tryz.prog W 0 (fun _ => true) true Tryz.f4.params.toList args.toList ds p := hA0
  rw [Tryz.params4] at hA hval
  obtain ⟨v0, vs0, d0, ds0, p0, q0, hargs, rfl, rfl, h0, r0⟩ := trodAll_cons hA
  obtain ⟨v1, vs1, d1, ds1, p1, q1, rfl, rfl, rfl, h1, r1⟩ := trodAll_cons r0
  obtain ⟨rfl, rfl, rfl⟩ := trodAll_nil r1
  obtain rfl : args = #[v0, v1] := by cases args; simp_all
  obtain ⟨rfl, rfl⟩ := trodVars_none hV
  have k0 := h0
  have lt0 : ∀ x ∈ p0, x.block < W.heap.size := by obtain ⟨m, hm⟩ := k0; exact DataW.trod_lt m _ _ _ hm
  obtain ⟨dss, hr, hl, hls⟩ := open_work (hval 0 22 v0 rfl rfl) h0
  obtain ⟨f, hf, hfl⟩ := open_nums (hval 1 23 v1 rfl rfl) h1
  have k1 := h1
  have lt1 : ∀ x ∈ p1, x.block < W.heap.size := by obtain ⟨m, hm⟩ := k1; exact DataW.trod_lt m _ _ _ hm
  clear hA0 hval0
  refine (walk v0 dss v1 f W hr hl hls hf hfl).mono fun e W' ⟨he, bel⟩ => ?_
  subst he
  exact ⟨_, rfl, _, _, _, [], _, [], hW', trodAll_mk1 (shut_bool Tryz.underlying4 _), (trodAll_cons_mk (Below.trod laidOut (by kernel_rfl) (of_decide_eq_true (by kernel_rfl)) k0 bel lt0) (trodAll_cons_mk (Below.trod laidOut (by kernel_rfl) (of_decide_eq_true (by kernel_rfl)) k1 bel lt1) trodAll_mk0)), rfl, bel.frame _, fun h => by cases h⟩

theorem over : Rows.fnExactRanRow.holds Tryz.pinned (OpenSpec.ofChange Rows.fnExactRanSpec) :=
  OpenClaim.holds_of_wide 4 Tryz.f4 rfl rfl rfl rfl rfl rfl rfl ⟨rfl, rfl, rfl, rfl, rfl⟩ rfl rfl rfl rfl rfl (by kernel_rfl) Tryz.func4 (by kernel_rfl)
    (of_decide_eq_true (by kernel_rfl)) (by unfold Func.isWrapper; first | (rw [if_pos (by decide +kernel)]; kernel_rfl) | (rw [if_neg (by decide +kernel)]; exact ⟨rfl, rfl⟩))
    (fun os started H enc _ => lifted os started H enc)

#print axioms over
end Go.Proofs.YtgakfkjjkobpiabGreat.fnExactRan
namespace Go.Proofs.YtgakfkjjkobpiabGreat
theorem fnExactRan_holds : Rows.FnExactRanSaid := fnExactRan.over
end Go.Proofs.YtgakfkjjkobpiabGreat
