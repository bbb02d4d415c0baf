/- At every string of bytes the law FnBoards answers true and its argument stays. -/
import Derived.Test.YtgakfkjjkobpiaaGreatRows
import Derived.WalkKit
import Derived.ProofKit
import Derived.OpenShut
import Derived.ShutString
import Derived.ChangeOld
import Derived.Below
import Derived.Test.YtgakfkjjkobpiaaGreatMS
import Derived.Test.YtgakfkjjkobpiaaGreatMT
import Derived.Test.YtgakfkjjkobpiaaGreatMP
import Derived.Deep.Cut
import Derived.Deep.RegionHeld3
namespace Go.Proofs.YtgakfkjjkobpiaaGreat.fnBoards
open Go.ChangeShapes Go.WideShapes Go.ChangeAt Go.RowKit
open Go.ChangeMaps (open_string shut_string)
set_option linter.unusedVariables false

theorem own : ownKnob Tryz.prog.godebug = none := by kernel_rfl
theorem laidOut : laidOutB Tryz.prog = true := by kernel_rfl

/-- What the walk is told of a slice of bytes that came in: it is nil, or it leads to a row of cells, each fitting its kind. -/
def IsRow (k : IntKind) (w : World) (a : Option Addr) (len cap : Nat) (zs : List Int) : Prop :=
  (a = none ∧ len = 0 ∧ cap = 0 ∧ zs = []) ∨
  ∃ x, a = some x ∧ len ≤ cap ∧ cap ≤ maxLen ∧ zs.length = cap ∧ (∀ i, i < zs.length → w.cell? (x.add i) = some (.int k (zs.getD i 0))) ∧ ∀ n ∈ zs, (Lit.int k n).wf = true

set_option maxRecDepth 100000 in
set_option maxHeartbeats 8000000 in
theorem walk (a0 : Option Addr) (len0 cap0 : Nat) (z0 : List Int) (w : World) (w0 : IsRow .u8 w a0 len0 cap0 z0) :
    Calls Tryz.prog 3 #[.slice a0 len0 cap0] w fun e w' => e = .returned (.bool true) ∧ Below w.heap.size w w' := by
  by_cases hbig : 4096 < len0
  · have hbb : decide (4096 < len0) = true := by simpa using hbig
    go_enter Tryz.func3, Tryz.ntmps3
    go_wp2_with (go_at_call 6; refine (big_any _ _ _ _).mono ?_; rintro e w' ⟨rfl, rfl⟩)
    go_ret
    exact ⟨rfl, Below.refl _ _⟩
  have hbb : decide (4096 < len0) = false := by simpa using hbig
  obtain ⟨zs, hzl, hrd⟩ : ∃ zs : List Int, zs.length = len0 ∧ RdB w w.heap.size a0 zs := rdb_of_row (by omega) w0
  have hz12 : zs.length ≤ 4096 := by omega
  subst hzl
  clear w0 hbig
  go_enter Tryz.func3, Tryz.ntmps3
  go_wp2_with fail
  refine (big_any _ _ _ _).mono ?_
  rintro e w' ⟨rfl, rfl⟩
  go_wp2_with fail
  refine (drawNewB_any _ a0 cap0 zs hrd).mono ?_
  rintro e w1 ⟨v, dss, rfl, hR, hD, k1⟩
  have l1 : dss.length ≤ 1048576 := by have := hD.1; omega
  have l2 : ∀ i, i < dss.length → (dss.getD i []).length ≤ 1048576 := fun i hi => by have := hD.2 i hi; omega
  have L2 := Lib.hid l2
  have K1 := k1
  clear hD hbb l2 k1
  go_wp2_with fail
  refine (implNewBoard_any _ _ dss hR l1 L2.out).mono ?_
  rintro e w2 ⟨bvA, rfl, fA, k2⟩
  have rA2 := fA.rd
  have K2 := K1.trans k2
  have KR2 := k2
  obtain ⟨hzA, -⟩ := sz_new dss
  have HZA := Lib.hid hzA
  obtain ⟨T, hT⟩ : ∃ T, T = workB dss := ⟨_, rfl⟩
  have HT := Lib.hid hT
  obtain ⟨DA, hDA⟩ : ∃ D, D = newD dss := ⟨_, rfl⟩
  have HDA := Lib.hid hDA
  obtain ⟨BA, hBA⟩ : ∃ B, B = newB dss := ⟨_, rfl⟩
  have HBA := Lib.hid hBA
  rw [← hDA, ← hBA] at rA2 HZA
  rw [← hT]
  clear fA k2 hzA hT hDA hBA K1
  obtain ⟨aWA, aPA, aLA, aNA, aXA, aTA, aFA, aRA, cWA, cPA, cLA, cN'A, cXA, cTA, cFA, cRA, rfl⟩ := rA2.shapes
  go_upto_region 5 with fail
  obtain ⟨w3, hw⟩ : ∃ W : World, W = w2.alloc (.cells #[.slice aWA DA.length cWA, .slice aPA BA.plc.length cPA, .slice aLA BA.lst.length cLA, .slice aNA BA.nts.length cN'A, .slice aXA BA.nxt.length cXA, .slice aTA BA.sn.length cTA, .slice aFA BA.fr.length cFA, .slice aRA BA.rws.length cRA] 30) := ⟨_, rfl⟩
  have kb : Keep w2 w3 := by rw [hw]; exact (Keep.refl w2).alloc _
  have hA0 : w3.heap[w2.heap.size]? = some (.cells #[.slice aWA DA.length cWA, .slice aPA BA.plc.length cPA, .slice aLA BA.lst.length cLA, .slice aNA BA.nts.length cN'A, .slice aXA BA.nxt.length cXA, .slice aTA BA.sn.length cTA, .slice aFA BA.fr.length cFA, .slice aRA BA.rws.length cRA] 30 (0, 0)) := by rw [hw]; exact heap_alloc_new _ _
  have lA0 : w2.heap.size < w3.heap.size := by rw [hw, heap_size]; omega
  rw [← hw]
  clear hw
  have rA0 := rA2.keep kb
  have KA := Keep.refl w3
  have K2' := K2.trans kb
  have KR2' := KR2.trans kb
  generalize w2.heap.size = gA at *
  clear rA2 K2 kb KR2
  go_wp2_with fail
  refine (drawReading_any _ a0 cap0 zs (RdB.upB hrd K2')).mono ?_
  rintro e w4 ⟨bvB, DB, BB, p, q, rfl, fB, hzB, ⟨p0, p1, q0, q1⟩, k4⟩
  have rB4 := fB.rd
  have HZB := Lib.hid hzB.1
  have K4 := K2'.trans k4
  have KR4 := KR2'.trans k4
  have KA4 := KA.trans k4
  clear fB hzB k4 K2' KR2' KA
  obtain ⟨aWB, aPB, aLB, aNB, aXB, aTB, aFB, aRB, cWB, cPB, cLB, cN'B, cXB, cTB, cFB, cRB, rfl⟩ := rB4.shapes
  go_upto_region 6 with fail
  obtain ⟨w5, hw⟩ : ∃ W : World, W = w4.alloc (.cells #[.slice aWB DB.length cWB, .slice aPB BB.plc.length cPB, .slice aLB BB.lst.length cLB, .slice aNB BB.nts.length cN'B, .slice aXB BB.nxt.length cXB, .slice aTB BB.sn.length cTB, .slice aFB BB.fr.length cFB, .slice aRB BB.rws.length cRB] 30) := ⟨_, rfl⟩
  have kb : Keep w4 w5 := by rw [hw]; exact (Keep.refl w4).alloc _
  have hB0 : w5.heap[w4.heap.size]? = some (.cells #[.slice aWB DB.length cWB, .slice aPB BB.plc.length cPB, .slice aLB BB.lst.length cLB, .slice aNB BB.nts.length cN'B, .slice aXB BB.nxt.length cXB, .slice aTB BB.sn.length cTB, .slice aFB BB.fr.length cFB, .slice aRB BB.rws.length cRB] 30 (0, 0)) := by rw [hw]; exact heap_alloc_new _ _
  have lB0 : w4.heap.size < w5.heap.size := by rw [hw, heap_size]; omega
  rw [← hw]
  clear hw
  have rB0 := rB4.keep kb
  have KB := Keep.refl w5
  have K4' := K4.trans kb
  have KR4' := KR4.trans kb
  have KA4' := KA4.trans kb
  generalize w4.heap.size = gB at *
  clear rB4 K4 kb KR4 KA4
  go_wp2_with (first | refine wpList_load_row rfl 30 _ rfl gB rfl 30 _ (0, 0) _ hB0 Tryz.underlying30 rfl board_info ?_ | fail)
  refine (implReading_any _ _ DB BB p q rB0 HZB.out).mono ?_
  rintro e w6 ⟨rfl, k6⟩
  have K6 := K4'.trans k6
  have KR6 := KR4'.trans k6
  have KA6 := KA4'.trans k6
  have KB6 := KB.trans k6
  obtain ⟨R1, hR1⟩ : ∃ x, x = (rdgB DB BB p q).1 := ⟨_, rfl⟩
  obtain ⟨R2, hR2⟩ : ∃ x, x = (rdgB DB BB p q).2 := ⟨_, rfl⟩
  have HR1 := Lib.hid hR1
  have HR2 := Lib.hid hR2
  rw [← hR1, ← hR2]
  clear k6 K4' KR4' KA4' KB hR1 hR2
  go_wp2_with fail
  refine (drawEnded_any _ a0 cap0 zs (RdB.upB hrd K6)).mono ?_
  rintro e w7 ⟨bvE, DE, BE, rfl, fE, hzE, k7⟩
  have rE7 := fE.rd
  have HZE := Lib.hid hzE.1
  have K7 := K6.trans k7
  have KR7 := KR6.trans k7
  have KA7 := KA6.trans k7
  have KB7 := KB6.trans k7
  clear fE hzE k7 K6 KR6 KA6 KB6
  obtain ⟨aWE, aPE, aLE, aNE, aXE, aTE, aFE, aRE, cWE, cPE, cLE, cN'E, cXE, cTE, cFE, cRE, rfl⟩ := rE7.shapes
  go_upto_region 8 with fail
  obtain ⟨w8, hw⟩ : ∃ W : World, W = w7.alloc (.cells #[.slice aWE DE.length cWE, .slice aPE BE.plc.length cPE, .slice aLE BE.lst.length cLE, .slice aNE BE.nts.length cN'E, .slice aXE BE.nxt.length cXE, .slice aTE BE.sn.length cTE, .slice aFE BE.fr.length cFE, .slice aRE BE.rws.length cRE] 30) := ⟨_, rfl⟩
  have kb : Keep w7 w8 := by rw [hw]; exact (Keep.refl w7).alloc _
  have hE0 : w8.heap[w7.heap.size]? = some (.cells #[.slice aWE DE.length cWE, .slice aPE BE.plc.length cPE, .slice aLE BE.lst.length cLE, .slice aNE BE.nts.length cN'E, .slice aXE BE.nxt.length cXE, .slice aTE BE.sn.length cTE, .slice aFE BE.fr.length cFE, .slice aRE BE.rws.length cRE] 30 (0, 0)) := by rw [hw]; exact heap_alloc_new _ _
  have lE0 : w7.heap.size < w8.heap.size := by rw [hw, heap_size]; omega
  rw [← hw]
  clear hw
  have rE0 := rE7.keep kb
  have KE := Keep.refl w8
  have K7' := K7.trans kb
  have KR7' := KR7.trans kb
  have KA7' := KA7.trans kb
  have KB7' := KB7.trans kb
  generalize w7.heap.size = gE at *
  clear rE7 K7 kb KR7 KA7 KB7
  go_wp2_with (first | refine wpList_load_row rfl 30 _ rfl gE rfl 30 _ (0, 0) _ hE0 Tryz.underlying30 rfl board_info ?_ | fail)
  refine (implShownBoard_any _ _ DE BE rE0 HZE.out).mono ?_
  rintro e w9 ⟨vs, rfl, os, k9⟩
  have rs9 := os.rd
  have K9 := K7'.trans k9
  have KR9 := KR7'.trans k9
  have KA9 := KA7'.trans k9
  have KB9 := KB7'.trans k9
  have KE9 := KE.trans k9
  have gS : (shownB DE BE).length ≤ 1048576 := shown_len HZE.out
  obtain ⟨SE, hSE⟩ : ∃ x, x = shownB DE BE := ⟨_, rfl⟩
  have HSE := Lib.hid hSE
  rw [← hSE] at rs9 gS
  clear k9 os K7' KR7' KA7' KB7' KE hSE
  obtain ⟨aV, cV, rfl, -⟩ := id rs9
  have KS9 := Keep.refl w9
  have CN := specNewBoard_any w9 _ dss (hR.keep KR9) l1 L2.out
  rw [← HT.out, ← HDA.out, ← HBA.out] at CN
  go_wp2_with fail
  refine CN.mono ?_
  rintro e w10 ⟨bvX, rfl, rX10, k10⟩
  have K10 := K9.trans k10
  have KA10 := KA9.trans k10
  have KB10 := KB9.trans k10
  have KE10 := KE9.trans k10
  have KS10 := KS9.trans k10
  clear k10 CN K9 KA9 KB9 KE9 KR9 KS9
  obtain ⟨aWX, aPX, aLX, aNX, aXX, aTX, aFX, aRX, cWX, cPX, cLX, cN'X, cXX, cTX, cFX, cRX, rfl⟩ := rX10.shapes
  go_upto_region 10 with fail
  obtain ⟨w11, hw⟩ : ∃ W : World, W = w10.alloc (.cells #[.slice aWX DA.length cWX, .slice aPX BA.plc.length cPX, .slice aLX BA.lst.length cLX, .slice aNX BA.nts.length cN'X, .slice aXX BA.nxt.length cXX, .slice aTX BA.sn.length cTX, .slice aFX BA.fr.length cFX, .slice aRX BA.rws.length cRX] 30) := ⟨_, rfl⟩
  have kb : Keep w10 w11 := by rw [hw]; exact (Keep.refl w10).alloc _
  have hX0 : w11.heap[w10.heap.size]? = some (.cells #[.slice aWX DA.length cWX, .slice aPX BA.plc.length cPX, .slice aLX BA.lst.length cLX, .slice aNX BA.nts.length cN'X, .slice aXX BA.nxt.length cXX, .slice aTX BA.sn.length cTX, .slice aFX BA.fr.length cFX, .slice aRX BA.rws.length cRX] 30 (0, 0)) := by rw [hw]; exact heap_alloc_new _ _
  have lX0 : w10.heap.size < w11.heap.size := by rw [hw, heap_size]; omega
  rw [← hw]
  clear hw
  have rX0 := rX10.keep kb
  have KX := Keep.refl w11
  have K10' := K10.trans kb
  have KA10' := KA10.trans kb
  have KB10' := KB10.trans kb
  have KE10' := KE10.trans kb
  have KS10' := KS10.trans kb
  generalize w10.heap.size = gX at *
  clear rX10 K10 kb KA10 KB10 KE10 KS10
  have rs := rs9.keep KS10'
  have hA := (Below.block KA10' gA lA0).trans hA0
  have rA := rA0.keep KA10'
  have lA : gA < w11.heap.size := Nat.lt_of_lt_of_le lA0 KA10'.size
  have cA0 : w11.cell? ⟨gA, 0, none⟩ = some (.slice aWA DA.length cWA) := by rw [cell_of_row w11 _ 0 _ _ _ hA]; rfl
  have cA1 : w11.cell? ⟨gA, 1, none⟩ = some (.slice aPA BA.plc.length cPA) := by rw [cell_of_row w11 _ 1 _ _ _ hA]; rfl
  have cA2 : w11.cell? ⟨gA, 2, none⟩ = some (.slice aLA BA.lst.length cLA) := by rw [cell_of_row w11 _ 2 _ _ _ hA]; rfl
  have cA3 : w11.cell? ⟨gA, 3, none⟩ = some (.slice aNA BA.nts.length cN'A) := by rw [cell_of_row w11 _ 3 _ _ _ hA]; rfl
  have cA4 : w11.cell? ⟨gA, 4, none⟩ = some (.slice aXA BA.nxt.length cXA) := by rw [cell_of_row w11 _ 4 _ _ _ hA]; rfl
  have cA5 : w11.cell? ⟨gA, 5, none⟩ = some (.slice aTA BA.sn.length cTA) := by rw [cell_of_row w11 _ 5 _ _ _ hA]; rfl
  have cA6 : w11.cell? ⟨gA, 6, none⟩ = some (.slice aFA BA.fr.length cFA) := by rw [cell_of_row w11 _ 6 _ _ _ hA]; rfl
  have cA7 : w11.cell? ⟨gA, 7, none⟩ = some (.slice aRA BA.rws.length cRA) := by rw [cell_of_row w11 _ 7 _ _ _ hA]; rfl
  have hX := (Below.block KX gX lX0).trans hX0
  have rX := rX0.keep KX
  have lX : gX < w11.heap.size := Nat.lt_of_lt_of_le lX0 KX.size
  have cX0 : w11.cell? ⟨gX, 0, none⟩ = some (.slice aWX DA.length cWX) := by rw [cell_of_row w11 _ 0 _ _ _ hX]; rfl
  have cX1 : w11.cell? ⟨gX, 1, none⟩ = some (.slice aPX BA.plc.length cPX) := by rw [cell_of_row w11 _ 1 _ _ _ hX]; rfl
  have cX2 : w11.cell? ⟨gX, 2, none⟩ = some (.slice aLX BA.lst.length cLX) := by rw [cell_of_row w11 _ 2 _ _ _ hX]; rfl
  have cX3 : w11.cell? ⟨gX, 3, none⟩ = some (.slice aNX BA.nts.length cN'X) := by rw [cell_of_row w11 _ 3 _ _ _ hX]; rfl
  have cX4 : w11.cell? ⟨gX, 4, none⟩ = some (.slice aXX BA.nxt.length cXX) := by rw [cell_of_row w11 _ 4 _ _ _ hX]; rfl
  have cX5 : w11.cell? ⟨gX, 5, none⟩ = some (.slice aTX BA.sn.length cTX) := by rw [cell_of_row w11 _ 5 _ _ _ hX]; rfl
  have cX6 : w11.cell? ⟨gX, 6, none⟩ = some (.slice aFX BA.fr.length cFX) := by rw [cell_of_row w11 _ 6 _ _ _ hX]; rfl
  have cX7 : w11.cell? ⟨gX, 7, none⟩ = some (.slice aRX BA.rws.length cRX) := by rw [cell_of_row w11 _ 7 _ _ _ hX]; rfl
  have hE := (Below.block KE10' gE lE0).trans hE0
  have rE := rE0.keep KE10'
  have lE : gE < w11.heap.size := Nat.lt_of_lt_of_le lE0 KE10'.size
  have cE0 : w11.cell? ⟨gE, 0, none⟩ = some (.slice aWE DE.length cWE) := by rw [cell_of_row w11 _ 0 _ _ _ hE]; rfl
  have cE1 : w11.cell? ⟨gE, 1, none⟩ = some (.slice aPE BE.plc.length cPE) := by rw [cell_of_row w11 _ 1 _ _ _ hE]; rfl
  have cE2 : w11.cell? ⟨gE, 2, none⟩ = some (.slice aLE BE.lst.length cLE) := by rw [cell_of_row w11 _ 2 _ _ _ hE]; rfl
  have cE3 : w11.cell? ⟨gE, 3, none⟩ = some (.slice aNE BE.nts.length cN'E) := by rw [cell_of_row w11 _ 3 _ _ _ hE]; rfl
  have cE4 : w11.cell? ⟨gE, 4, none⟩ = some (.slice aXE BE.nxt.length cXE) := by rw [cell_of_row w11 _ 4 _ _ _ hE]; rfl
  have cE5 : w11.cell? ⟨gE, 5, none⟩ = some (.slice aTE BE.sn.length cTE) := by rw [cell_of_row w11 _ 5 _ _ _ hE]; rfl
  have cE6 : w11.cell? ⟨gE, 6, none⟩ = some (.slice aFE BE.fr.length cFE) := by rw [cell_of_row w11 _ 6 _ _ _ hE]; rfl
  have cE7 : w11.cell? ⟨gE, 7, none⟩ = some (.slice aRE BE.rws.length cRE) := by rw [cell_of_row w11 _ 7 _ _ _ hE]; rfl
  have hB := (Below.block KB10' gB lB0).trans hB0
  have rB := rB0.keep KB10'
  have lB : gB < w11.heap.size := Nat.lt_of_lt_of_le lB0 KB10'.size
  have cB0 : w11.cell? ⟨gB, 0, none⟩ = some (.slice aWB DB.length cWB) := by rw [cell_of_row w11 _ 0 _ _ _ hB]; rfl
  have cB1 : w11.cell? ⟨gB, 1, none⟩ = some (.slice aPB BB.plc.length cPB) := by rw [cell_of_row w11 _ 1 _ _ _ hB]; rfl
  have cB2 : w11.cell? ⟨gB, 2, none⟩ = some (.slice aLB BB.lst.length cLB) := by rw [cell_of_row w11 _ 2 _ _ _ hB]; rfl
  have cB3 : w11.cell? ⟨gB, 3, none⟩ = some (.slice aNB BB.nts.length cN'B) := by rw [cell_of_row w11 _ 3 _ _ _ hB]; rfl
  have cB4 : w11.cell? ⟨gB, 4, none⟩ = some (.slice aXB BB.nxt.length cXB) := by rw [cell_of_row w11 _ 4 _ _ _ hB]; rfl
  have cB5 : w11.cell? ⟨gB, 5, none⟩ = some (.slice aTB BB.sn.length cTB) := by rw [cell_of_row w11 _ 5 _ _ _ hB]; rfl
  have cB6 : w11.cell? ⟨gB, 6, none⟩ = some (.slice aFB BB.fr.length cFB) := by rw [cell_of_row w11 _ 6 _ _ _ hB]; rfl
  have cB7 : w11.cell? ⟨gB, 7, none⟩ = some (.slice aRB BB.rws.length cRB) := by rw [cell_of_row w11 _ 7 _ _ _ hB]; rfl
  have hTT : (T != T) = false := by cases T <;> rfl
  have SK : Hid (∀ W W' : World, Keep W W' → w11.heap.size ≤ W.heap.size → W.cell? ⟨gA, 0, none⟩ = some (.slice aWA DA.length cWA) ∧ W.cell? ⟨gA, 1, none⟩ = some (.slice aPA BA.plc.length cPA) ∧ W.cell? ⟨gA, 2, none⟩ = some (.slice aLA BA.lst.length cLA) ∧ W.cell? ⟨gA, 3, none⟩ = some (.slice aNA BA.nts.length cN'A) ∧ W.cell? ⟨gA, 4, none⟩ = some (.slice aXA BA.nxt.length cXA) ∧ W.cell? ⟨gA, 5, none⟩ = some (.slice aTA BA.sn.length cTA) ∧ W.cell? ⟨gA, 6, none⟩ = some (.slice aFA BA.fr.length cFA) ∧ W.cell? ⟨gA, 7, none⟩ = some (.slice aRA BA.rws.length cRA) ∧ W.cell? ⟨gX, 0, none⟩ = some (.slice aWX DA.length cWX) ∧ W.cell? ⟨gX, 1, none⟩ = some (.slice aPX BA.plc.length cPX) ∧ W.cell? ⟨gX, 2, none⟩ = some (.slice aLX BA.lst.length cLX) ∧ W.cell? ⟨gX, 3, none⟩ = some (.slice aNX BA.nts.length cN'X) ∧ W.cell? ⟨gX, 4, none⟩ = some (.slice aXX BA.nxt.length cXX) ∧ W.cell? ⟨gX, 5, none⟩ = some (.slice aTX BA.sn.length cTX) ∧ W.cell? ⟨gX, 6, none⟩ = some (.slice aFX BA.fr.length cFX) ∧ W.cell? ⟨gX, 7, none⟩ = some (.slice aRX BA.rws.length cRX) ∧ W.cell? ⟨gE, 0, none⟩ = some (.slice aWE DE.length cWE) ∧ W.cell? ⟨gE, 1, none⟩ = some (.slice aPE BE.plc.length cPE) ∧ W.cell? ⟨gE, 2, none⟩ = some (.slice aLE BE.lst.length cLE) ∧ W.cell? ⟨gE, 3, none⟩ = some (.slice aNE BE.nts.length cN'E) ∧ W.cell? ⟨gE, 4, none⟩ = some (.slice aXE BE.nxt.length cXE) ∧ W.cell? ⟨gE, 5, none⟩ = some (.slice aTE BE.sn.length cTE) ∧ W.cell? ⟨gE, 6, none⟩ = some (.slice aFE BE.fr.length cFE) ∧ W.cell? ⟨gE, 7, none⟩ = some (.slice aRE BE.rws.length cRE) ∧ W.cell? ⟨gB, 0, none⟩ = some (.slice aWB DB.length cWB) ∧ W.cell? ⟨gB, 1, none⟩ = some (.slice aPB BB.plc.length cPB) ∧ W.cell? ⟨gB, 2, none⟩ = some (.slice aLB BB.lst.length cLB) ∧ W.cell? ⟨gB, 3, none⟩ = some (.slice aNB BB.nts.length cN'B) ∧ W.cell? ⟨gB, 4, none⟩ = some (.slice aXB BB.nxt.length cXB) ∧ W.cell? ⟨gB, 5, none⟩ = some (.slice aTB BB.sn.length cTB) ∧ W.cell? ⟨gB, 6, none⟩ = some (.slice aFB BB.fr.length cFB) ∧ W.cell? ⟨gB, 7, none⟩ = some (.slice aRB BB.rws.length cRB) → W'.cell? ⟨gA, 0, none⟩ = some (.slice aWA DA.length cWA) ∧ W'.cell? ⟨gA, 1, none⟩ = some (.slice aPA BA.plc.length cPA) ∧ W'.cell? ⟨gA, 2, none⟩ = some (.slice aLA BA.lst.length cLA) ∧ W'.cell? ⟨gA, 3, none⟩ = some (.slice aNA BA.nts.length cN'A) ∧ W'.cell? ⟨gA, 4, none⟩ = some (.slice aXA BA.nxt.length cXA) ∧ W'.cell? ⟨gA, 5, none⟩ = some (.slice aTA BA.sn.length cTA) ∧ W'.cell? ⟨gA, 6, none⟩ = some (.slice aFA BA.fr.length cFA) ∧ W'.cell? ⟨gA, 7, none⟩ = some (.slice aRA BA.rws.length cRA) ∧ W'.cell? ⟨gX, 0, none⟩ = some (.slice aWX DA.length cWX) ∧ W'.cell? ⟨gX, 1, none⟩ = some (.slice aPX BA.plc.length cPX) ∧ W'.cell? ⟨gX, 2, none⟩ = some (.slice aLX BA.lst.length cLX) ∧ W'.cell? ⟨gX, 3, none⟩ = some (.slice aNX BA.nts.length cN'X) ∧ W'.cell? ⟨gX, 4, none⟩ = some (.slice aXX BA.nxt.length cXX) ∧ W'.cell? ⟨gX, 5, none⟩ = some (.slice aTX BA.sn.length cTX) ∧ W'.cell? ⟨gX, 6, none⟩ = some (.slice aFX BA.fr.length cFX) ∧ W'.cell? ⟨gX, 7, none⟩ = some (.slice aRX BA.rws.length cRX) ∧ W'.cell? ⟨gE, 0, none⟩ = some (.slice aWE DE.length cWE) ∧ W'.cell? ⟨gE, 1, none⟩ = some (.slice aPE BE.plc.length cPE) ∧ W'.cell? ⟨gE, 2, none⟩ = some (.slice aLE BE.lst.length cLE) ∧ W'.cell? ⟨gE, 3, none⟩ = some (.slice aNE BE.nts.length cN'E) ∧ W'.cell? ⟨gE, 4, none⟩ = some (.slice aXE BE.nxt.length cXE) ∧ W'.cell? ⟨gE, 5, none⟩ = some (.slice aTE BE.sn.length cTE) ∧ W'.cell? ⟨gE, 6, none⟩ = some (.slice aFE BE.fr.length cFE) ∧ W'.cell? ⟨gE, 7, none⟩ = some (.slice aRE BE.rws.length cRE) ∧ W'.cell? ⟨gB, 0, none⟩ = some (.slice aWB DB.length cWB) ∧ W'.cell? ⟨gB, 1, none⟩ = some (.slice aPB BB.plc.length cPB) ∧ W'.cell? ⟨gB, 2, none⟩ = some (.slice aLB BB.lst.length cLB) ∧ W'.cell? ⟨gB, 3, none⟩ = some (.slice aNB BB.nts.length cN'B) ∧ W'.cell? ⟨gB, 4, none⟩ = some (.slice aXB BB.nxt.length cXB) ∧ W'.cell? ⟨gB, 5, none⟩ = some (.slice aTB BB.sn.length cTB) ∧ W'.cell? ⟨gB, 6, none⟩ = some (.slice aFB BB.fr.length cFB) ∧ W'.cell? ⟨gB, 7, none⟩ = some (.slice aRB BB.rws.length cRB)) := Lib.hid (by
    rintro W W' k hs ⟨h0, h1, h2, h3, h4, h5, h6, h7, h8, h9, h10, h11, h12, h13, h14, h15, h16, h17, h18, h19, h20, h21, h22, h23, h24, h25, h26, h27, h28, h29, h30, h31⟩
    exact ⟨(k.cell (by omega)).trans h0, (k.cell (by omega)).trans h1, (k.cell (by omega)).trans h2, (k.cell (by omega)).trans h3, (k.cell (by omega)).trans h4, (k.cell (by omega)).trans h5, (k.cell (by omega)).trans h6, (k.cell (by omega)).trans h7, (k.cell (by omega)).trans h8, (k.cell (by omega)).trans h9, (k.cell (by omega)).trans h10, (k.cell (by omega)).trans h11, (k.cell (by omega)).trans h12, (k.cell (by omega)).trans h13, (k.cell (by omega)).trans h14, (k.cell (by omega)).trans h15, (k.cell (by omega)).trans h16, (k.cell (by omega)).trans h17, (k.cell (by omega)).trans h18, (k.cell (by omega)).trans h19, (k.cell (by omega)).trans h20, (k.cell (by omega)).trans h21, (k.cell (by omega)).trans h22, (k.cell (by omega)).trans h23, (k.cell (by omega)).trans h24, (k.cell (by omega)).trans h25, (k.cell (by omega)).trans h26, (k.cell (by omega)).trans h27, (k.cell (by omega)).trans h28, (k.cell (by omega)).trans h29, (k.cell (by omega)).trans h30, (k.cell (by omega)).trans h31⟩)
  go_cut [81] from 21 (fun s wx => s = .bool false ∧ Keep w11 wx)
  case first =>
    have KD : Keep w11 w11.drew := (Keep.refl w11).drew
    have LL := Lib.hid HZE.out
    refine wp_region_held_drew (S := (fun w' => w'.cell? ⟨gA, 0, none⟩ = some (.slice aWA DA.length cWA) ∧ w'.cell? ⟨gA, 1, none⟩ = some (.slice aPA BA.plc.length cPA) ∧ w'.cell? ⟨gA, 2, none⟩ = some (.slice aLA BA.lst.length cLA) ∧ w'.cell? ⟨gA, 3, none⟩ = some (.slice aNA BA.nts.length cN'A) ∧ w'.cell? ⟨gA, 4, none⟩ = some (.slice aXA BA.nxt.length cXA) ∧ w'.cell? ⟨gA, 5, none⟩ = some (.slice aTA BA.sn.length cTA) ∧ w'.cell? ⟨gA, 6, none⟩ = some (.slice aFA BA.fr.length cFA) ∧ w'.cell? ⟨gA, 7, none⟩ = some (.slice aRA BA.rws.length cRA) ∧ w'.cell? ⟨gX, 0, none⟩ = some (.slice aWX DA.length cWX) ∧ w'.cell? ⟨gX, 1, none⟩ = some (.slice aPX BA.plc.length cPX) ∧ w'.cell? ⟨gX, 2, none⟩ = some (.slice aLX BA.lst.length cLX) ∧ w'.cell? ⟨gX, 3, none⟩ = some (.slice aNX BA.nts.length cN'X) ∧ w'.cell? ⟨gX, 4, none⟩ = some (.slice aXX BA.nxt.length cXX) ∧ w'.cell? ⟨gX, 5, none⟩ = some (.slice aTX BA.sn.length cTX) ∧ w'.cell? ⟨gX, 6, none⟩ = some (.slice aFX BA.fr.length cFX) ∧ w'.cell? ⟨gX, 7, none⟩ = some (.slice aRX BA.rws.length cRX) ∧ w'.cell? ⟨gE, 0, none⟩ = some (.slice aWE DE.length cWE) ∧ w'.cell? ⟨gE, 1, none⟩ = some (.slice aPE BE.plc.length cPE) ∧ w'.cell? ⟨gE, 2, none⟩ = some (.slice aLE BE.lst.length cLE) ∧ w'.cell? ⟨gE, 3, none⟩ = some (.slice aNE BE.nts.length cN'E) ∧ w'.cell? ⟨gE, 4, none⟩ = some (.slice aXE BE.nxt.length cXE) ∧ w'.cell? ⟨gE, 5, none⟩ = some (.slice aTE BE.sn.length cTE) ∧ w'.cell? ⟨gE, 6, none⟩ = some (.slice aFE BE.fr.length cFE) ∧ w'.cell? ⟨gE, 7, none⟩ = some (.slice aRE BE.rws.length cRE) ∧ w'.cell? ⟨gB, 0, none⟩ = some (.slice aWB DB.length cWB) ∧ w'.cell? ⟨gB, 1, none⟩ = some (.slice aPB BB.plc.length cPB) ∧ w'.cell? ⟨gB, 2, none⟩ = some (.slice aLB BB.lst.length cLB) ∧ w'.cell? ⟨gB, 3, none⟩ = some (.slice aNB BB.nts.length cN'B) ∧ w'.cell? ⟨gB, 4, none⟩ = some (.slice aXB BB.nxt.length cXB) ∧ w'.cell? ⟨gB, 5, none⟩ = some (.slice aTB BB.sn.length cTB) ∧ w'.cell? ⟨gB, 6, none⟩ = some (.slice aFB BB.fr.length cFB) ∧ w'.cell? ⟨gB, 7, none⟩ = some (.slice aRB BB.rws.length cRB))) (by kernel_rfl) ?_ (fun hHeld => ?_)
    · exact ⟨cA0, cA1, cA2, cA3, cA4, cA5, cA6, cA7, cX0, cX1, cX2, cX3, cX4, cX5, cX6, cX7, cE0, cE1, cE2, cE3, cE4, cE5, cE6, cE7, cB0, cB1, cB2, cB3, cB4, cB5, cB6, cB7⟩
    refine takeQ 0 52 (v := ?_) ?_ ?_
    rotate_left
    · intro wx hSw
      go_simp
      with_reducible rfl
    simp only [Act.put, List.setIfInBounds_toArray, List.set_cons_zero, List.set_cons_succ]
    refine takeQ 1 53 (v := ?_) ?_ ?_
    rotate_left
    · intro wx hSw
      go_simp
      with_reducible rfl
    simp only [Act.put, List.setIfInBounds_toArray, List.set_cons_zero, List.set_cons_succ]
    refine takeQ 2 54 (v := ?_) ?_ ?_
    rotate_left
    · intro wx hSw
      go_simp
      with_reducible rfl
    simp only [Act.put, List.setIfInBounds_toArray, List.set_cons_zero, List.set_cons_succ]
    refine takeQ 3 55 (v := ?_) ?_ ?_
    rotate_left
    · intro wx hSw
      go_simp
      with_reducible rfl
    simp only [Act.put, List.setIfInBounds_toArray, List.set_cons_zero, List.set_cons_succ]
    refine takeQ 4 56 (v := ?_) ?_ ?_
    rotate_left
    · intro wx hSw
      go_simp
      with_reducible rfl
    simp only [Act.put, List.setIfInBounds_toArray, List.set_cons_zero, List.set_cons_succ]
    refine takeQ 5 57 (v := ?_) ?_ ?_
    rotate_left
    · intro wx hSw
      go_simp
      with_reducible rfl
    simp only [Act.put, List.setIfInBounds_toArray, List.set_cons_zero, List.set_cons_succ]
    refine wpAnyH_ready (rs := [6]) (by kernel_rfl) (by simp) ?_
    refine AllReadyH.cons rfl (fun K hK => ?_) AllReadyH.nil
    go_simp
    refine (likeBoard_same _ _ _ DA BA (rA.keep KD) (rX.keep KD) HZA.out).mono ?_
    rintro e v1 ⟨rfl, kk1⟩
    have KD1 := KD.trans kk1
    go_wp2_with fail
    refine hK.out _ _ ?_ (fun hHeld => ?_)
    · exact SK.out _ _ kk1 KD.size hHeld
    clear hK K
    refine takeQ 7 59 (v := ?_) ?_ ?_
    rotate_left
    · intro wx hSw
      go_simp
      with_reducible rfl
    simp only [Act.put, List.setIfInBounds_toArray, List.set_cons_zero, List.set_cons_succ]
    refine takeQ 8 60 (v := ?_) ?_ ?_
    rotate_left
    · intro wx hSw
      go_simp
      with_reducible rfl
    simp only [Act.put, List.setIfInBounds_toArray, List.set_cons_zero, List.set_cons_succ]
    refine takeQ 9 61 (v := ?_) ?_ ?_
    rotate_left
    · intro wx hSw
      go_simp
      with_reducible rfl
    simp only [Act.put, List.setIfInBounds_toArray, List.set_cons_zero, List.set_cons_succ]
    refine takeQ 10 62 (v := ?_) ?_ ?_
    rotate_left
    · intro wx hSw
      go_simp
      with_reducible rfl
    simp only [Act.put, List.setIfInBounds_toArray, List.set_cons_zero, List.set_cons_succ]
    refine takeQ 12 64 (v := ?_) ?_ ?_
    rotate_left
    · intro wx hSw
      go_simp
      with_reducible rfl
    simp only [Act.put, List.setIfInBounds_toArray, List.set_cons_zero, List.set_cons_succ]
    refine wpAnyH_ready (rs := [11]) (by kernel_rfl) (by simp) ?_
    refine AllReadyH.cons rfl (fun K hK => ?_) AllReadyH.nil
    go_simp
    refine (implEnded_any _ _ DE BE (rE.keep KD1) HZE.out).mono ?_
    rintro e v2 ⟨rfl, kk2⟩
    have KD2 := KD1.trans kk2
    go_wp2_with fail
    refine hK.out _ _ ?_ (fun hHeld => ?_)
    · exact SK.out _ _ kk2 KD1.size hHeld
    clear hK K
    refine wpAnyH_ready (rs := [13]) (by kernel_rfl) (by simp) ?_
    refine AllReadyH.cons rfl (fun K hK => ?_) AllReadyH.nil
    go_simp
    refine (specEnded_any _ _ DE BE (rE.keep KD2) HZE.out).mono ?_
    rintro e v3 ⟨rfl, kk3⟩
    have KD3 := KD2.trans kk3
    generalize endedB DE BE = EN at *
    have hEN : (EN != EN) = false := by cases EN <;> rfl
    go_wp2_with fail
    refine hK.out _ _ ?_ (fun hHeld => ?_)
    · exact SK.out _ _ kk3 KD2.size hHeld
    clear hK K
    refine takeQ 14 66 (v := ?_) ?_ ?_
    rotate_left
    · intro wx hSw
      go_simp
      with_reducible rfl
    simp only [Act.put, List.setIfInBounds_toArray, List.set_cons_zero, List.set_cons_succ]
    refine takeQ 15 67 (v := ?_) ?_ ?_
    rotate_left
    · intro wx hSw
      go_simp
      with_reducible rfl
    simp only [Act.put, List.setIfInBounds_toArray, List.set_cons_zero, List.set_cons_succ]
    refine takeQ 16 68 (v := ?_) ?_ ?_
    rotate_left
    · intro wx hSw
      go_simp
      with_reducible rfl
    simp only [Act.put, List.setIfInBounds_toArray, List.set_cons_zero, List.set_cons_succ]
    refine takeQ 17 69 (v := ?_) ?_ ?_
    rotate_left
    · intro wx hSw
      go_simp
      with_reducible rfl
    simp only [Act.put, List.setIfInBounds_toArray, List.set_cons_zero, List.set_cons_succ]
    refine takeQ 18 70 (v := ?_) ?_ ?_
    rotate_left
    · intro wx hSw
      go_simp
      with_reducible rfl
    simp only [Act.put, List.setIfInBounds_toArray, List.set_cons_zero, List.set_cons_succ]
    refine wpAnyH_ready (rs := [19]) (by kernel_rfl) (by simp) ?_
    refine AllReadyH.cons rfl (fun K hK => ?_) AllReadyH.nil
    go_simp
    refine (specShownBoard_any _ _ DE BE (rE.keep KD3) HZE.out).mono ?_
    rintro e v4 ⟨vx, rfl, ox, kk4⟩
    have KD4 := KD3.trans kk4
    have rx := ox.rd
    rw [← HSE.out] at rx
    obtain ⟨ax, cx, rfl, -⟩ := id rx
    go_wp2_with fail
    refine hK.out _ _ ?_ (fun hHeld => ?_)
    · exact SK.out _ _ kk4 KD3.size hHeld
    clear hK K
    refine wpAnyH_ready (rs := [20]) (by kernel_rfl) (by simp) ?_
    refine AllReadyH.cons rfl (fun K hK => ?_) AllReadyH.nil
    go_simp
    refine (likeSelf_any _ _ _ SE (rs.keep KD4) rx gS).mono ?_
    rintro e v5 ⟨rfl, kk5⟩
    have KD5 := KD4.trans kk5
    go_wp2_with fail
    refine hK.out _ _ ?_ (fun hHeld => ?_)
    · exact SK.out _ _ kk5 KD4.size hHeld
    clear hK K
    refine takeQ 21 73 (v := ?_) ?_ ?_
    rotate_left
    · intro wx hSw
      go_simp
      with_reducible rfl
    simp only [Act.put, List.setIfInBounds_toArray, List.set_cons_zero, List.set_cons_succ]
    refine takeQ 22 74 (v := ?_) ?_ ?_
    rotate_left
    · intro wx hSw
      go_simp
      with_reducible rfl
    simp only [Act.put, List.setIfInBounds_toArray, List.set_cons_zero, List.set_cons_succ]
    refine takeQ 23 75 (v := ?_) ?_ ?_
    rotate_left
    · intro wx hSw
      go_simp
      with_reducible rfl
    simp only [Act.put, List.setIfInBounds_toArray, List.set_cons_zero, List.set_cons_succ]
    refine takeQ 24 76 (v := ?_) ?_ ?_
    rotate_left
    · intro wx hSw
      go_simp
      with_reducible rfl
    simp only [Act.put, List.setIfInBounds_toArray, List.set_cons_zero, List.set_cons_succ]
    refine takeQ 26 78 (v := ?_) ?_ ?_
    rotate_left
    · intro wx hSw
      go_simp
      with_reducible rfl
    simp only [Act.put, List.setIfInBounds_toArray, List.set_cons_zero, List.set_cons_succ]
    refine wpAnyH_ready (rs := [25]) (by kernel_rfl) (by simp) ?_
    refine AllReadyH.cons rfl (fun K hK => ?_) AllReadyH.nil
    go_simp
    refine (implBoardOk_any _ _ DB BB (rB.keep KD5) HZB.out).mono ?_
    rintro e v6 ⟨rfl, kk6⟩
    have KD6 := KD5.trans kk6
    go_wp2_with fail
    refine hK.out _ _ ?_ (fun hHeld => ?_)
    · exact SK.out _ _ kk6 KD5.size hHeld
    clear hK K
    refine wpAnyH_ready (rs := [27]) (by kernel_rfl) (by simp) ?_
    refine AllReadyH.cons rfl (fun K hK => ?_) AllReadyH.nil
    go_simp
    refine (specBoardOk_any _ _ DB BB (rB.keep KD6) HZB.out).mono ?_
    rintro e v7 ⟨rfl, kk7⟩
    have KD7 := KD6.trans kk7
    generalize boardB DB BB = OK at *
    have hOK : (OK != OK) = false := by cases OK <;> rfl
    go_wp2_with fail
    refine hK.out _ _ ?_ (fun hHeld => ?_)
    · exact SK.out _ _ kk7 KD6.size hHeld
    clear hK K
    refine takeQ 28 80 (v := ?_) ?_ ?_
    rotate_left
    · intro wx hSw
      go_simp
      with_reducible rfl
    simp only [Act.put, List.setIfInBounds_toArray, List.set_cons_zero, List.set_cons_succ]
    refine takeQ 29 81 (v := ?_) ?_ ?_
    rotate_left
    · intro wx hSw
      go_simp
      with_reducible rfl
    simp only [Act.put, List.setIfInBounds_toArray, List.set_cons_zero, List.set_cons_succ]
    refine wpAnyH_done (by kernel_rfl) ?_ _
    go_wp2
    go_meet
    case rel => exact ⟨rfl, KD7⟩
  case rest =>
    obtain ⟨rfl, kd⟩ := hcut
    obtain ⟨wd, hwd⟩ : ∃ W : World, W = wc := ⟨_, rfl⟩
    subst hwd
    have hB12 := (Below.block kd gB lB).trans hB
    have CR := specReading_any wd _ DB BB p q (rB.keep kd) HZB.out
    rw [← HR1.out, ← HR2.out] at CR
    have t1 : (R1 != R1) = false := by simp
    have t2 : (R2 != R2) = false := by simp
    go_wp2_with (first | refine wpList_load_row rfl 30 _ rfl gB rfl 30 _ (0, 0) _ hB12 Tryz.underlying30 rfl board_info ?_ | fail)
    refine CR.mono ?_
    rintro e w13 ⟨rfl, k13⟩
    have kd13 := kd.trans k13
    have zA13 : gA < w13.heap.size := Nat.lt_of_lt_of_le lA kd13.size
    clear CR hB12
    go_upto_region 15 with fail
    go_cut [126] from 21 (fun s wx => s = .bool false ∧ Keep w13 wx)
    case first =>
      have WR : Hid (IntKind.i64.wrap ((BA.sn.length : Int) + 3) = (BA.sn.length : Int) + 3) := Lib.hid (by rw [IntKind.wrap_i64]; have := HZA.out.sn; omega)
      have KE : Keep w13 w13.drew := (Keep.refl w13).drew
      have FA : workB dss = true → Hid (boardB DA BA = true) ∧ Hid (BA.plc = [0, 0, 0]) ∧ Hid (BA.lst = [0, 1, 2]) ∧ Hid ((shownB DA BA).length = BA.sn.length + 3) := fun hw => by
        have e1 : DA = dss := by rw [HDA.out, newD, if_pos hw]
        have e2 : BA = newM dss := by rw [HBA.out, newB, if_pos hw]
        have e3 := new_board hw
        rw [e1, e2]
        refine ⟨Lib.hid e3, Lib.hid rfl, Lib.hid rfl, Lib.hid ?_⟩
        rw [shownB, if_pos e3, List.length_append]
        rfl
      cases T
      · clear FA
        refine wp_region_held_drew (S := (fun w' => w'.cell? ⟨gA, 0, none⟩ = some (.slice aWA DA.length cWA) ∧ w'.cell? ⟨gA, 1, none⟩ = some (.slice aPA BA.plc.length cPA) ∧ w'.cell? ⟨gA, 2, none⟩ = some (.slice aLA BA.lst.length cLA) ∧ w'.cell? ⟨gA, 3, none⟩ = some (.slice aNA BA.nts.length cN'A) ∧ w'.cell? ⟨gA, 4, none⟩ = some (.slice aXA BA.nxt.length cXA) ∧ w'.cell? ⟨gA, 5, none⟩ = some (.slice aTA BA.sn.length cTA) ∧ w'.cell? ⟨gA, 6, none⟩ = some (.slice aFA BA.fr.length cFA) ∧ w'.cell? ⟨gA, 7, none⟩ = some (.slice aRA BA.rws.length cRA))) (by kernel_rfl) ?_ (fun hHeld => ?_)
        · exact ⟨(kd13.cell lA).trans cA0, (kd13.cell lA).trans cA1, (kd13.cell lA).trans cA2, (kd13.cell lA).trans cA3, (kd13.cell lA).trans cA4, (kd13.cell lA).trans cA5, (kd13.cell lA).trans cA6, (kd13.cell lA).trans cA7⟩
        refine takeQ 0 97 (v := ?_) ?_ ?_
        rotate_left
        · intro wx hSw
          go_simp
          with_reducible rfl
        simp only [Act.put, List.setIfInBounds_toArray, List.set_cons_zero, List.set_cons_succ]
        refine takeQ 1 98 (v := ?_) ?_ ?_
        rotate_left
        · intro wx hSw
          go_simp
          with_reducible rfl
        simp only [Act.put, List.setIfInBounds_toArray, List.set_cons_zero, List.set_cons_succ]
        refine skipH 2 99 rfl rfl (by kernel_rfl) (by kernel_rfl) (by kernel_rfl) (fun _ _ _ h => h) (by rfl) (by assumption) ?_
        simp only [Act.put, List.setIfInBounds_toArray, List.set_cons_zero, List.set_cons_succ]
        refine skipH 3 100 rfl rfl (by kernel_rfl) (by kernel_rfl) (by kernel_rfl) (fun _ _ _ h => h) (by rfl) (by assumption) ?_
        simp only [Act.put, List.setIfInBounds_toArray, List.set_cons_zero, List.set_cons_succ]
        refine skipH 4 101 rfl rfl (by kernel_rfl) (by kernel_rfl) (by kernel_rfl) (fun _ _ _ h => h) (by rfl) (by assumption) ?_
        simp only [Act.put, List.setIfInBounds_toArray, List.set_cons_zero, List.set_cons_succ]
        refine skipH 5 102 rfl rfl (by kernel_rfl) (by kernel_rfl) (by kernel_rfl) (fun _ _ _ h => h) (by rfl) (by assumption) ?_
        simp only [Act.put, List.setIfInBounds_toArray, List.set_cons_zero, List.set_cons_succ]
        refine skipH 6 103 rfl rfl (by kernel_rfl) (by kernel_rfl) (by kernel_rfl) (fun _ _ _ h => h) (by rfl) (by assumption) ?_
        simp only [Act.put, List.setIfInBounds_toArray, List.set_cons_zero, List.set_cons_succ]
        refine skipH 7 104 rfl rfl (by kernel_rfl) (by kernel_rfl) (by kernel_rfl) (fun _ _ _ h => h) (by rfl) (by assumption) ?_
        simp only [Act.put, List.setIfInBounds_toArray, List.set_cons_zero, List.set_cons_succ]
        refine skipH 8 105 rfl rfl (by kernel_rfl) (by kernel_rfl) (by kernel_rfl) (fun _ _ _ h => h) (by rfl) (by assumption) ?_
        simp only [Act.put, List.setIfInBounds_toArray, List.set_cons_zero, List.set_cons_succ]
        refine skipH 9 106 rfl rfl (by kernel_rfl) (by kernel_rfl) (by kernel_rfl) (fun _ _ _ h => h) (by rfl) (by assumption) ?_
        simp only [Act.put, List.setIfInBounds_toArray, List.set_cons_zero, List.set_cons_succ]
        refine skipH 10 107 rfl rfl (by kernel_rfl) (by kernel_rfl) (by kernel_rfl) (fun _ _ _ h => h) (by rfl) (by assumption) ?_
        simp only [Act.put, List.setIfInBounds_toArray, List.set_cons_zero, List.set_cons_succ]
        refine skipH 11 108 rfl rfl (by kernel_rfl) (by kernel_rfl) (by kernel_rfl) (fun _ _ _ h => h) (by rfl) (by assumption) ?_
        simp only [Act.put, List.setIfInBounds_toArray, List.set_cons_zero, List.set_cons_succ]
        refine skipH 12 109 rfl rfl (by kernel_rfl) (by kernel_rfl) (by kernel_rfl) (fun _ _ _ h => h) (by rfl) (by assumption) ?_
        simp only [Act.put, List.setIfInBounds_toArray, List.set_cons_zero, List.set_cons_succ]
        refine skipH 13 110 rfl rfl (by kernel_rfl) (by kernel_rfl) (by kernel_rfl) (fun _ _ _ h => h) (by rfl) (by assumption) ?_
        simp only [Act.put, List.setIfInBounds_toArray, List.set_cons_zero, List.set_cons_succ]
        refine skipH 14 111 rfl rfl (by kernel_rfl) (by kernel_rfl) (by kernel_rfl) (fun _ _ _ h => h) (by rfl) (by assumption) ?_
        simp only [Act.put, List.setIfInBounds_toArray, List.set_cons_zero, List.set_cons_succ]
        refine skipH 15 112 rfl rfl (by kernel_rfl) (by kernel_rfl) (by kernel_rfl) (fun _ _ _ h => h) (by rfl) (by assumption) ?_
        simp only [Act.put, List.setIfInBounds_toArray, List.set_cons_zero, List.set_cons_succ]
        refine skipH 16 113 rfl rfl (by kernel_rfl) (by kernel_rfl) (by kernel_rfl) (fun _ _ _ h => h) (by rfl) (by assumption) ?_
        simp only [Act.put, List.setIfInBounds_toArray, List.set_cons_zero, List.set_cons_succ]
        refine skipH 17 114 rfl rfl (by kernel_rfl) (by kernel_rfl) (by kernel_rfl) (fun _ _ _ h => h) (by rfl) (by assumption) ?_
        simp only [Act.put, List.setIfInBounds_toArray, List.set_cons_zero, List.set_cons_succ]
        refine skipH 18 115 rfl rfl (by kernel_rfl) (by kernel_rfl) (by kernel_rfl) (fun _ _ _ h => h) (by rfl) (by assumption) ?_
        simp only [Act.put, List.setIfInBounds_toArray, List.set_cons_zero, List.set_cons_succ]
        refine skipH 19 116 rfl rfl (by kernel_rfl) (by kernel_rfl) (by kernel_rfl) (fun _ _ _ h => h) (by rfl) (by assumption) ?_
        simp only [Act.put, List.setIfInBounds_toArray, List.set_cons_zero, List.set_cons_succ]
        refine skipH 20 117 rfl rfl (by kernel_rfl) (by kernel_rfl) (by kernel_rfl) (fun _ _ _ h => h) (by rfl) (by assumption) ?_
        simp only [Act.put, List.setIfInBounds_toArray, List.set_cons_zero, List.set_cons_succ]
        refine skipH 21 118 rfl rfl (by kernel_rfl) (by kernel_rfl) (by kernel_rfl) (fun _ _ _ h => h) (by rfl) (by assumption) ?_
        simp only [Act.put, List.setIfInBounds_toArray, List.set_cons_zero, List.set_cons_succ]
        refine skipH 22 119 rfl rfl (by kernel_rfl) (by kernel_rfl) (by kernel_rfl) (fun _ _ _ h => h) (by rfl) (by assumption) ?_
        simp only [Act.put, List.setIfInBounds_toArray, List.set_cons_zero, List.set_cons_succ]
        refine skipH 23 120 rfl rfl (by kernel_rfl) (by kernel_rfl) (by kernel_rfl) (fun _ _ _ h => h) (by rfl) (by assumption) ?_
        simp only [Act.put, List.setIfInBounds_toArray, List.set_cons_zero, List.set_cons_succ]
        refine skipH 24 121 rfl rfl (by kernel_rfl) (by kernel_rfl) (by kernel_rfl) (fun _ _ _ h => h) (by rfl) (by assumption) ?_
        simp only [Act.put, List.setIfInBounds_toArray, List.set_cons_zero, List.set_cons_succ]
        refine skipH 25 122 rfl rfl (by kernel_rfl) (by kernel_rfl) (by kernel_rfl) (fun _ _ _ h => h) (by rfl) (by assumption) ?_
        simp only [Act.put, List.setIfInBounds_toArray, List.set_cons_zero, List.set_cons_succ]
        refine skipH 26 123 rfl rfl (by kernel_rfl) (by kernel_rfl) (by kernel_rfl) (fun _ _ _ h => h) (by rfl) (by assumption) ?_
        simp only [Act.put, List.setIfInBounds_toArray, List.set_cons_zero, List.set_cons_succ]
        refine skipH 27 124 rfl rfl (by kernel_rfl) (by kernel_rfl) (by kernel_rfl) (fun _ _ _ h => h) (by rfl) (by assumption) ?_
        simp only [Act.put, List.setIfInBounds_toArray, List.set_cons_zero, List.set_cons_succ]
        refine skipH 28 125 rfl rfl (by kernel_rfl) (by kernel_rfl) (by kernel_rfl) (fun _ _ _ h => h) (by rfl) (by assumption) ?_
        simp only [Act.put, List.setIfInBounds_toArray, List.set_cons_zero, List.set_cons_succ]
        refine takeQ 29 126 (v := ?_) ?_ ?_
        rotate_left
        · intro wx hSw
          go_simp
          with_reducible rfl
        simp only [Act.put, List.setIfInBounds_toArray, List.set_cons_zero, List.set_cons_succ]
        refine wpAnyH_done (by kernel_rfl) ?_ _
        go_wp2
        go_meet
        case rel => exact ⟨rfl, KE⟩
      · obtain ⟨FA1, FA2, FA3, FA4⟩ := FA HT.out.symm
        refine wp_region_held_drew (S := (fun w' => w'.cell? ⟨gA, 0, none⟩ = some (.slice aWA DA.length cWA) ∧ w'.cell? ⟨gA, 1, none⟩ = some (.slice aPA BA.plc.length cPA) ∧ w'.cell? ⟨gA, 2, none⟩ = some (.slice aLA BA.lst.length cLA) ∧ w'.cell? ⟨gA, 3, none⟩ = some (.slice aNA BA.nts.length cN'A) ∧ w'.cell? ⟨gA, 4, none⟩ = some (.slice aXA BA.nxt.length cXA) ∧ w'.cell? ⟨gA, 5, none⟩ = some (.slice aTA BA.sn.length cTA) ∧ w'.cell? ⟨gA, 6, none⟩ = some (.slice aFA BA.fr.length cFA) ∧ w'.cell? ⟨gA, 7, none⟩ = some (.slice aRA BA.rws.length cRA))) (by kernel_rfl) ?_ (fun hHeld => ?_)
        · exact ⟨(kd13.cell lA).trans cA0, (kd13.cell lA).trans cA1, (kd13.cell lA).trans cA2, (kd13.cell lA).trans cA3, (kd13.cell lA).trans cA4, (kd13.cell lA).trans cA5, (kd13.cell lA).trans cA6, (kd13.cell lA).trans cA7⟩
        refine takeQ 0 97 (v := ?_) ?_ ?_
        rotate_left
        · intro wx hSw
          go_simp
          with_reducible rfl
        simp only [Act.put, List.setIfInBounds_toArray, List.set_cons_zero, List.set_cons_succ]
        refine takeQ 1 98 (v := ?_) ?_ ?_
        rotate_left
        · intro wx hSw
          go_simp
          with_reducible rfl
        simp only [Act.put, List.setIfInBounds_toArray, List.set_cons_zero, List.set_cons_succ]
        refine takeQ 2 99 (v := ?_) ?_ ?_
        rotate_left
        · intro wx hSw
          go_simp
          with_reducible rfl
        simp only [Act.put, List.setIfInBounds_toArray, List.set_cons_zero, List.set_cons_succ]
        refine wpAnyH_ready (rs := [3]) (by kernel_rfl) (by simp) ?_
        refine AllReadyH.cons rfl (fun K hK => ?_) AllReadyH.nil
        go_simp
        refine (implBoardOk_any _ _ DA BA (rA.keep (kd13.trans KE)) HZA.out).mono ?_
        rintro e v21 ⟨rfl, kk21⟩
        have KE21 := KE.trans kk21
        rw [FA1.out]
        go_wp2_with fail
        refine hK.out _ _ ?_ (fun hHeld => ?_)
        · exact ⟨(kk21.cell (Nat.lt_of_lt_of_le zA13 KE.size)).trans hHeld.1, (kk21.cell (Nat.lt_of_lt_of_le zA13 KE.size)).trans hHeld.2.1, (kk21.cell (Nat.lt_of_lt_of_le zA13 KE.size)).trans hHeld.2.2.1, (kk21.cell (Nat.lt_of_lt_of_le zA13 KE.size)).trans hHeld.2.2.2.1, (kk21.cell (Nat.lt_of_lt_of_le zA13 KE.size)).trans hHeld.2.2.2.2.1, (kk21.cell (Nat.lt_of_lt_of_le zA13 KE.size)).trans hHeld.2.2.2.2.2.1, (kk21.cell (Nat.lt_of_lt_of_le zA13 KE.size)).trans hHeld.2.2.2.2.2.2.1, (kk21.cell (Nat.lt_of_lt_of_le zA13 KE.size)).trans hHeld.2.2.2.2.2.2.2⟩
        clear hK K
        refine takeQ 4 101 (v := ?_) ?_ ?_
        rotate_left
        · intro wx hSw
          go_simp
          with_reducible rfl
        simp only [Act.put, List.setIfInBounds_toArray, List.set_cons_zero, List.set_cons_succ]
        refine takeQ 5 102 (v := ?_) ?_ ?_
        rotate_left
        · intro wx hSw
          go_simp
          with_reducible rfl
        simp only [Act.put, List.setIfInBounds_toArray, List.set_cons_zero, List.set_cons_succ]
        refine takeQ 6 103 (v := ?_) ?_ ?_
        rotate_left
        · intro wx hSw
          go_simp
          with_reducible rfl
        simp only [Act.put, List.setIfInBounds_toArray, List.set_cons_zero, List.set_cons_succ]
        refine takeQ 7 104 (v := ?_) ?_ ?_
        rotate_left
        · intro wx hSw
          go_simp
          with_reducible rfl
        simp only [Act.put, List.setIfInBounds_toArray, List.set_cons_zero, List.set_cons_succ]
        refine wpAnyH_ready (rs := [8]) (by kernel_rfl) (by simp) ?_
        refine AllReadyH.cons rfl (fun K hK => ?_) AllReadyH.nil
        go_simp
        have kk22 : Keep v21 (v21.alloc (.cells #[.int .i64 0, .int .i64 0, .int .i64 0] 2)) := (Keep.refl _).alloc _
        have KE22 := KE21.trans kk22
        have q0o : Own (v21.alloc (.cells #[.int .i64 0, .int .i64 0, .int .i64 0] 2)) v21.heap.size (.slice (some ⟨v21.heap.size, 0, none⟩) 3 3) [0, 0, 0] := World.ownsRow_lit v21 _ 3 (Nat.le_refl _) (by decide) rfl
        have q0 := q0o.rd
        clear q0o
        refine hK.out _ _ ?_ (fun hHeld => ?_)
        · exact ⟨(kk22.cell (Nat.lt_of_lt_of_le zA13 KE21.size)).trans hHeld.1, (kk22.cell (Nat.lt_of_lt_of_le zA13 KE21.size)).trans hHeld.2.1, (kk22.cell (Nat.lt_of_lt_of_le zA13 KE21.size)).trans hHeld.2.2.1, (kk22.cell (Nat.lt_of_lt_of_le zA13 KE21.size)).trans hHeld.2.2.2.1, (kk22.cell (Nat.lt_of_lt_of_le zA13 KE21.size)).trans hHeld.2.2.2.2.1, (kk22.cell (Nat.lt_of_lt_of_le zA13 KE21.size)).trans hHeld.2.2.2.2.2.1, (kk22.cell (Nat.lt_of_lt_of_le zA13 KE21.size)).trans hHeld.2.2.2.2.2.2.1, (kk22.cell (Nat.lt_of_lt_of_le zA13 KE21.size)).trans hHeld.2.2.2.2.2.2.2⟩
        clear hK K
        refine wpAnyH_ready (rs := [9]) (by kernel_rfl) (by simp) ?_
        refine AllReadyH.cons rfl (fun K hK => ?_) AllReadyH.nil
        go_simp
        refine (likeSelf_any _ _ _ [0, 0, 0] ((congrArg (Rd _ _) FA2.out).mp (rA.keep (kd13.trans KE22)).P) q0 (by decide)).mono ?_
        rintro e v23 ⟨rfl, kk23⟩
        have KE23 := KE22.trans kk23
        go_wp2_with fail
        refine hK.out _ _ ?_ (fun hHeld => ?_)
        · exact ⟨(kk23.cell (Nat.lt_of_lt_of_le zA13 KE22.size)).trans hHeld.1, (kk23.cell (Nat.lt_of_lt_of_le zA13 KE22.size)).trans hHeld.2.1, (kk23.cell (Nat.lt_of_lt_of_le zA13 KE22.size)).trans hHeld.2.2.1, (kk23.cell (Nat.lt_of_lt_of_le zA13 KE22.size)).trans hHeld.2.2.2.1, (kk23.cell (Nat.lt_of_lt_of_le zA13 KE22.size)).trans hHeld.2.2.2.2.1, (kk23.cell (Nat.lt_of_lt_of_le zA13 KE22.size)).trans hHeld.2.2.2.2.2.1, (kk23.cell (Nat.lt_of_lt_of_le zA13 KE22.size)).trans hHeld.2.2.2.2.2.2.1, (kk23.cell (Nat.lt_of_lt_of_le zA13 KE22.size)).trans hHeld.2.2.2.2.2.2.2⟩
        clear hK K
        refine takeQ 10 107 (v := ?_) ?_ ?_
        rotate_left
        · intro wx hSw
          go_simp
          with_reducible rfl
        simp only [Act.put, List.setIfInBounds_toArray, List.set_cons_zero, List.set_cons_succ]
        refine takeQ 11 108 (v := ?_) ?_ ?_
        rotate_left
        · intro wx hSw
          go_simp
          with_reducible rfl
        simp only [Act.put, List.setIfInBounds_toArray, List.set_cons_zero, List.set_cons_succ]
        refine takeQ 12 109 (v := ?_) ?_ ?_
        rotate_left
        · intro wx hSw
          go_simp
          with_reducible rfl
        simp only [Act.put, List.setIfInBounds_toArray, List.set_cons_zero, List.set_cons_succ]
        refine takeQ 13 110 (v := ?_) ?_ ?_
        rotate_left
        · intro wx hSw
          go_simp
          with_reducible rfl
        simp only [Act.put, List.setIfInBounds_toArray, List.set_cons_zero, List.set_cons_succ]
        refine takeQ 14 111 (v := ?_) ?_ ?_
        rotate_left
        · intro wx hSw
          go_simp
          with_reducible rfl
        simp only [Act.put, List.setIfInBounds_toArray, List.set_cons_zero, List.set_cons_succ]
        refine wpAnyH_ready (rs := [15]) (by kernel_rfl) (by simp) ?_
        refine AllReadyH.cons rfl (fun K hK => ?_) AllReadyH.nil
        go_simp
        have kk24 : Keep v23 (v23.alloc (.cells #[.int .i64 0, .int .i64 1, .int .i64 2] 2)) := (Keep.refl _).alloc _
        have KE24 := KE23.trans kk24
        have q1o : Own (v23.alloc (.cells #[.int .i64 0, .int .i64 1, .int .i64 2] 2)) v23.heap.size (.slice (some ⟨v23.heap.size, 0, none⟩) 3 3) [0, 1, 2] := World.ownsRow_lit v23 _ 3 (Nat.le_refl _) (by decide) rfl
        have q1 := q1o.rd
        clear q1o
        refine hK.out _ _ ?_ (fun hHeld => ?_)
        · exact ⟨(kk24.cell (Nat.lt_of_lt_of_le zA13 KE23.size)).trans hHeld.1, (kk24.cell (Nat.lt_of_lt_of_le zA13 KE23.size)).trans hHeld.2.1, (kk24.cell (Nat.lt_of_lt_of_le zA13 KE23.size)).trans hHeld.2.2.1, (kk24.cell (Nat.lt_of_lt_of_le zA13 KE23.size)).trans hHeld.2.2.2.1, (kk24.cell (Nat.lt_of_lt_of_le zA13 KE23.size)).trans hHeld.2.2.2.2.1, (kk24.cell (Nat.lt_of_lt_of_le zA13 KE23.size)).trans hHeld.2.2.2.2.2.1, (kk24.cell (Nat.lt_of_lt_of_le zA13 KE23.size)).trans hHeld.2.2.2.2.2.2.1, (kk24.cell (Nat.lt_of_lt_of_le zA13 KE23.size)).trans hHeld.2.2.2.2.2.2.2⟩
        clear hK K
        refine wpAnyH_ready (rs := [16]) (by kernel_rfl) (by simp) ?_
        refine AllReadyH.cons rfl (fun K hK => ?_) AllReadyH.nil
        go_simp
        refine (likeSelf_any _ _ _ [0, 1, 2] ((congrArg (Rd _ _) FA3.out).mp (rA.keep (kd13.trans KE24)).L) q1 (by decide)).mono ?_
        rintro e v25 ⟨rfl, kk25⟩
        have KE25 := KE24.trans kk25
        go_wp2_with fail
        refine hK.out _ _ ?_ (fun hHeld => ?_)
        · exact ⟨(kk25.cell (Nat.lt_of_lt_of_le zA13 KE24.size)).trans hHeld.1, (kk25.cell (Nat.lt_of_lt_of_le zA13 KE24.size)).trans hHeld.2.1, (kk25.cell (Nat.lt_of_lt_of_le zA13 KE24.size)).trans hHeld.2.2.1, (kk25.cell (Nat.lt_of_lt_of_le zA13 KE24.size)).trans hHeld.2.2.2.1, (kk25.cell (Nat.lt_of_lt_of_le zA13 KE24.size)).trans hHeld.2.2.2.2.1, (kk25.cell (Nat.lt_of_lt_of_le zA13 KE24.size)).trans hHeld.2.2.2.2.2.1, (kk25.cell (Nat.lt_of_lt_of_le zA13 KE24.size)).trans hHeld.2.2.2.2.2.2.1, (kk25.cell (Nat.lt_of_lt_of_le zA13 KE24.size)).trans hHeld.2.2.2.2.2.2.2⟩
        clear hK K
        refine takeQ 17 114 (v := ?_) ?_ ?_
        rotate_left
        · intro wx hSw
          go_simp
          with_reducible rfl
        simp only [Act.put, List.setIfInBounds_toArray, List.set_cons_zero, List.set_cons_succ]
        refine takeQ 18 115 (v := ?_) ?_ ?_
        rotate_left
        · intro wx hSw
          go_simp
          with_reducible rfl
        simp only [Act.put, List.setIfInBounds_toArray, List.set_cons_zero, List.set_cons_succ]
        refine takeQ 19 116 (v := ?_) ?_ ?_
        rotate_left
        · intro wx hSw
          go_simp
          with_reducible rfl
        simp only [Act.put, List.setIfInBounds_toArray, List.set_cons_zero, List.set_cons_succ]
        refine takeQ 20 117 (v := ?_) ?_ ?_
        rotate_left
        · intro wx hSw
          go_simp
          with_reducible rfl
        simp only [Act.put, List.setIfInBounds_toArray, List.set_cons_zero, List.set_cons_succ]
        refine takeQ 23 120 (v := ?_) ?_ ?_
        rotate_left
        · intro wx hSw
          go_simp
          with_reducible rfl
        simp only [Act.put, List.setIfInBounds_toArray, List.set_cons_zero, List.set_cons_succ]
        refine takeQ 24 121 (v := ?_) ?_ ?_
        rotate_left
        · intro wx hSw
          go_simp
          with_reducible rfl
        simp only [Act.put, List.setIfInBounds_toArray, List.set_cons_zero, List.set_cons_succ]
        refine takeQ 25 122 (v := ?_) ?_ ?_
        rotate_left
        · intro wx hSw
          go_simp
          with_reducible rfl
        simp only [Act.put, List.setIfInBounds_toArray, List.set_cons_zero, List.set_cons_succ]
        refine takeQ 26 123 (v := ?_) ?_ ?_
        rotate_left
        · intro wx hSw
          go_simp
          with_reducible rfl
        simp only [Act.put, List.setIfInBounds_toArray, List.set_cons_zero, List.set_cons_succ]
        refine wpAnyH_ready (rs := [21]) (by kernel_rfl) (by simp) ?_
        refine AllReadyH.cons rfl (fun K hK => ?_) AllReadyH.nil
        go_simp
        refine (implShownBoard_any _ _ DA BA (rA.keep (kd13.trans KE25)) HZA.out).mono ?_
        rintro e v26 ⟨vz, rfl, oz, kk26⟩
        have KE26 := KE25.trans kk26
        have rz := oz.rd
        obtain ⟨az, cz, rfl, -⟩ := id rz
        rw [FA4.out]
        clear rz oz
        go_wp2_with fail
        refine hK.out _ _ ?_ (fun hHeld => ?_)
        · exact ⟨(kk26.cell (Nat.lt_of_lt_of_le zA13 KE25.size)).trans hHeld.1, (kk26.cell (Nat.lt_of_lt_of_le zA13 KE25.size)).trans hHeld.2.1, (kk26.cell (Nat.lt_of_lt_of_le zA13 KE25.size)).trans hHeld.2.2.1, (kk26.cell (Nat.lt_of_lt_of_le zA13 KE25.size)).trans hHeld.2.2.2.1, (kk26.cell (Nat.lt_of_lt_of_le zA13 KE25.size)).trans hHeld.2.2.2.2.1, (kk26.cell (Nat.lt_of_lt_of_le zA13 KE25.size)).trans hHeld.2.2.2.2.2.1, (kk26.cell (Nat.lt_of_lt_of_le zA13 KE25.size)).trans hHeld.2.2.2.2.2.2.1, (kk26.cell (Nat.lt_of_lt_of_le zA13 KE25.size)).trans hHeld.2.2.2.2.2.2.2⟩
        clear hK K
        refine takeQ 22 119 (v := ?_) ?_ ?_
        rotate_left
        · intro wx hSw
          go_simp
          with_reducible rfl
        simp only [Act.put, List.setIfInBounds_toArray, List.set_cons_zero, List.set_cons_succ]
        refine takeQ 27 124 (v := ?_) ?_ ?_
        rotate_left
        · intro wx hSw
          go_simp
          with_reducible rfl
        simp only [Act.put, List.setIfInBounds_toArray, List.set_cons_zero, List.set_cons_succ]
        refine takeQ 28 125 (v := ?_) ?_ ?_
        rotate_left
        · intro wx hSw
          go_simp
          with_reducible rfl
        simp only [Act.put, List.setIfInBounds_toArray, List.set_cons_zero, List.set_cons_succ]
        refine takeQ 29 126 (v := ?_) ?_ ?_
        rotate_left
        · intro wx hSw
          go_simp
          with_reducible rfl
        simp only [Act.put, List.setIfInBounds_toArray, List.set_cons_zero, List.set_cons_succ]
        refine wpAnyH_done (by kernel_rfl) ?_ _
        go_wp2
        go_meet
        case rel => exact ⟨by rw [WR.out]; simp, KE26⟩
    case rest =>
      obtain ⟨rfl, ke⟩ := hcut
      obtain ⟨wz, hwz⟩ : ∃ W : World, W = wc := ⟨_, rfl⟩
      subst hwz
      have kk := kd13.trans ke
      clear ke kd13 kd k13 HZA rA rX rE cA0 cA1 cA2 cA3 cA4 cA5 cA6 cA7 cX0 cX1 cX2 cX3 cX4 cX5 cX6 cX7 cE0 cE1 cE2 cE3 cE4 cE5 cE6 cE7 hA hX hE SK rs
      have eB0 := (kk.cell lB).trans cB0
      have eB1 := (kk.cell lB).trans cB1
      have eB2 := (kk.cell lB).trans cB2
      have eB3 := (kk.cell lB).trans cB3
      have eB4 := (kk.cell lB).trans cB4
      have eB5 := (kk.cell lB).trans cB5
      have eB6 := (kk.cell lB).trans cB6
      have eB7 := (kk.cell lB).trans cB7
      by_cases hneg : R1 < 0
      · skip
        have hBz := (Below.block kk gB lB).trans hB
        have hz1 : decide (R1 < 0) = true := by simpa using hneg
        have CO := specBoardOk_any wz _ DB BB (rB.keep kk) HZB.out
        have HNO := Lib.hid (rdg_none (by rw [← HR1.out]; exact hneg))
        go_wp2_with (first | refine wpList_load_row rfl 30 _ rfl gB rfl 30 _ (0, 0) _ hBz Tryz.underlying30 rfl board_info ?_ | fail)
        refine CO.mono ?_
        rintro e w15 ⟨rfl, k15⟩
        have KZ := (K10'.trans kk).trans k15
        have cB15 := (k15.cell (Nat.lt_of_lt_of_le lB kk.size)).trans eB0
        clear CO hBz
        cases hob : boardB DB BB
        · go_wp2
          go_ret
          exact ⟨rfl, KZ⟩
        by_cases x1 : p < 0
        · have y1 : decide (p < 0) = true := by simpa using x1
          go_wp2
          go_ret
          exact ⟨rfl, KZ⟩
        have y1 : decide (p < 0) = false := by simpa using x1
        by_cases x2 : (DB.length : Int) ≤ p
        · have y2 : decide ((DB.length : Int) ≤ p) = true := by simpa using x2
          go_wp2
          go_ret
          exact ⟨rfl, KZ⟩
        have y2 : decide ((DB.length : Int) ≤ p) = false := by simpa using x2
        by_cases x3 : q < 0
        · have y3 : decide (q < 0) = true := by simpa using x3
          go_wp2
          go_ret
          exact ⟨rfl, KZ⟩
        have y3 : decide (q < 0) = false := by simpa using x3
        by_cases x4 : 2 < q
        · have y4 : decide (2 < q) = true := by simpa using x4
          go_wp2
          go_ret
          exact ⟨rfl, KZ⟩
        exfalso
        have := HNO.out
        rw [hob] at this
        simp only [reduceCtorEq, false_or] at this
        omega
      · skip
        obtain ⟨ob, p0', p1', q0', q1', hrm⟩ := rdg_some (by rw [← HR1.out]; exact hneg)
        have hz1 : decide (R1 < 0) = false := by simpa using hneg
        obtain ⟨P, rfl⟩ : ∃ P : Nat, p = (P : Int) := ⟨p.toNat, by omega⟩
        obtain ⟨Q, rfl⟩ : ∃ Q : Nat, q = (Q : Int) := ⟨q.toNat, by omega⟩
        rw [Int.toNat_natCast, Int.toNat_natCast, rdg_last] at hrm
        have HRM := Lib.hid hrm
        obtain ⟨-, g3, g4, -, g6, -, -, -, -, g10⟩ := board_all ob
        have hPn : P < BB.nts.length := by omega
        have hQp : Q < BB.plc.length := by omega
        have hQl : Q < BB.lst.length := by omega
        have hnl : (BB.nts.getD P []).length ≤ 1048576 := by have := g10 P (by omega); omega
        have rz := rB.keep kk
        obtain ⟨a', c', he', hN⟩ := rz.N
        simp only [Value.slice.injEq, true_and] at he'
        obtain ⟨rfl, rfl⟩ := he'
        rcases hN with h0 | ⟨bn, on, rfl, hbn, hcn⟩
        · exfalso; rw [h0] at hPn; simp at hPn
        obtain ⟨a', c', he', hP⟩ := rz.P
        simp only [Value.slice.injEq, true_and] at he'
        obtain ⟨rfl, rfl⟩ := he'
        rcases hP with h0 | ⟨bp, op, rfl, hbp, hcp⟩
        · exfalso; rw [h0] at hQp; simp at hQp
        obtain ⟨a', c', he', hL⟩ := rz.L
        simp only [Value.slice.injEq, true_and] at he'
        obtain ⟨rfl, rfl⟩ := he'
        rcases hL with h0 | ⟨bl, ol, rfl, hbl, hcl⟩
        · exfalso; rw [h0] at hQl; simp at hQl
        obtain ⟨vn, d3, r3⟩ := hcn P hPn
        have d1 := hcp Q hQp
        have d2 := hcl Q hQl
        obtain ⟨an, cn, rfl, r3⟩ := r3
        clear hrm g3 g4 g6 g10 hcn hcp hcl rz
        generalize BB.nts.getD P [] = ns at *
        generalize BB.plc.getD Q 0 = xp at *
        generalize BB.lst.getD Q 0 = xl at *
        have j1 : (0 : Int) ≤ (P : Int) := Int.natCast_nonneg _
        have j2 : (P : Int) < (BB.nts.length : Int) := by omega
        have j3 : (0 : Int) ≤ (Q : Int) := Int.natCast_nonneg _
        have j4 : (Q : Int) < (BB.plc.length : Int) := by omega
        have j5 : (Q : Int) < (BB.lst.length : Int) := by omega
        have KZ := K10'.trans kk
        go_wp2
        go_loopw [17, 18, 19] (fun a l i wr => ∃ k : Nat, k ≤ ns.length ∧ i = .int .i64 (k : Int) ∧ a = .int .i64 (lastN (Q : Int) (xp, xl) ns k).1 ∧ l = .int .i64 (lastN (Q : Int) (xp, xl) ns k).2 ∧ Keep wz wr) (fun _ _ i _ => ((ns.length : Int) - intOf i).toNat)
        case atStart => exact ⟨0, Nat.zero_le _, rfl, rfl, rfl, Keep.refl _⟩
        case round =>
          obtain ⟨k, hk, rfl, rfl, rfl, kr⟩ := hrel
          have kkr := kk.trans kr
          have f0 := (kr.cell (Nat.lt_of_lt_of_le lB kk.size)).trans eB0
          have f1 := (kr.cell (Nat.lt_of_lt_of_le lB kk.size)).trans eB1
          have f2 := (kr.cell (Nat.lt_of_lt_of_le lB kk.size)).trans eB2
          have f3 := (kr.cell (Nat.lt_of_lt_of_le lB kk.size)).trans eB3
          have f4 := (kr.cell (Nat.lt_of_lt_of_le lB kk.size)).trans eB4
          have f5 := (kr.cell (Nat.lt_of_lt_of_le lB kk.size)).trans eB5
          have f6 := (kr.cell (Nat.lt_of_lt_of_le lB kk.size)).trans eB6
          have f7 := (kr.cell (Nat.lt_of_lt_of_le lB kk.size)).trans eB7
          have d3r := (kr.cell hbn).trans d3
          by_cases hkl : k < ns.length
          · have t1 : decide ((k : Int) < (ns.length : Int)) = true := by simpa using hkl
            rcases r3 with h0 | ⟨bq, oq, rfl, hbq, hcq⟩
            · exfalso; rw [h0] at hkl; simp at hkl
            obtain ⟨g0, g1, g2⟩ := atN (hcq k _ (nts_get hkl))
            have g0r := (kr.cell hbq).trans g0
            have g1r := (kr.cell hbq).trans g1
            have g2r := (kr.cell hbq).trans g2
            have HL : Hid (lastN (Q : Int) (xp, xl) ns (k + 1) = if (ns.getD k (0, 0, 0)).1 = (Q : Int) then (ns.getD k (0, 0, 0)).2 else lastN (Q : Int) (xp, xl) ns k) := Lib.hid rfl
            generalize ns.getD k (0, 0, 0) = y at g0r g1r g2r HL
            obtain ⟨y0, y1, y2⟩ := y
            simp only at g0r g1r g2r HL
            have k1 : (0 : Int) ≤ (k : Int) := Int.natCast_nonneg _
            have k2 : (k : Int) < (ns.length : Int) := by omega
            have k3 : IntKind.i64.wrap ((k : Int) + 1) = (k : Int) + 1 := by rw [IntKind.wrap_i64]; omega
            clear hcq g0 g1 g2
            generalize lastN (Q : Int) (xp, xl) ns k = LK at *
            by_cases e : y0 = (Q : Int)
            · have eb : (y0 == (Q : Int)) = true := by simp [e]
              have HE : Hid (lastN (Q : Int) (xp, xl) ns (k + 1) = (y1, y2)) := Lib.hid (by rw [HL.out, if_pos e])
              clear e HL
              go_wp2
              go_roundw
              case rel => exact ⟨k + 1, hkl, by push_cast; rfl, by rw [HE.out], by rw [HE.out], kr.alloc _⟩
              case measure => simp [intOf]; omega
            · have eb : (y0 == (Q : Int)) = false := by simp [e]
              have HE : Hid (lastN (Q : Int) (xp, xl) ns (k + 1) = LK) := Lib.hid (by rw [HL.out, if_neg e])
              clear e HL
              go_wp2
              go_roundw
              case rel => exact ⟨k + 1, hkl, by push_cast; rfl, by rw [HE.out], by rw [HE.out], kr.alloc _⟩
              case measure => simp [intOf]; omega
          · obtain rfl : k = ns.length := by omega
            have t1 : decide (((ns.length : Nat) : Int) < (ns.length : Int)) = false := by simp
            have HX1 : Hid (R1 = (lastN (Q : Int) (xp, xl) ns ns.length).1) := Lib.hid (by rw [HR1.out, HRM.out])
            have HX2 : Hid (R2 = (lastN (Q : Int) (xp, xl) ns ns.length).2) := Lib.hid (by rw [HR2.out, HRM.out])
            generalize lastN (Q : Int) (xp, xl) ns ns.length = LK at *
            have s1 : (R1 == LK.1) = true := by rw [HX1.out]; simp
            have s2 : (R2 == LK.2) = true := by rw [HX2.out]; simp
            go_wp2
            go_ret
            exact ⟨rfl, KZ.trans kr⟩

set_option maxRecDepth 100000 in
theorem lifted (os : Os) (started : os.Started) (H : Type) (enc : TypeId × Value → H) :
    ReturnsInHanded {} Tryz.checked os 3 .any (Rows.fnBoardsSpec.pre6 enc Tryz.prog Tryz.f3 Rows.fnBoardsRow.domain false) (Rows.fnBoardsSpec.post enc Tryz.prog Tryz.f3 false true false false) := by
  refine returnsInHanded_of_change (C := Tryz.checked) own started (by kernel_rfl) Tryz.func3
    (ChangeSpec.witness6 (enc := enc) (C := Tryz.checked) false ⟨#[], #[.slice none 0 0], []⟩ 8 (by kernel_rfl) (by kernel_rfl) (by kernel_rfl) (by kernel_rfl)) ?_
  intro W base args ds gs before hval0 hW hcnd _

  have hval : ∀ (j : Nat) t v, Tryz.f3.params[j]? = some t → args[j]? = some v → Value.okWide Tryz.prog W .any base t v := hval0
  have hW' := hW
  obtain ⟨p, q, hA0, hV, rfl, hfz, hnd⟩ := hW
  have hA : DataW.TrodAll enc Tryz.prog W 0 (fun _ => true) true Tryz.f3.params.toList args.toList ds p := hA0
  rw [Tryz.params3] at hA hval
  obtain ⟨v0, vs0, d0, ds0, p0, q0, hargs, rfl, rfl, h0, r0⟩ := trodAll_cons hA
  obtain ⟨rfl, rfl, rfl⟩ := trodAll_nil r0
  obtain rfl : args = #[v0] := by cases args; simp_all
  obtain ⟨rfl, rfl⟩ := trodVars_none hV
  have k0 := h0
  have lt0 : ∀ x ∈ p0, x.block < W.heap.size := by obtain ⟨m, hm⟩ := k0; exact DataW.trod_lt m _ _ _ hm
  obtain ⟨a0, len0, cap0, rfl⟩ := okWide_slice Tryz.underlying22 (hval 0 22 v0 rfl rfl)
  obtain ⟨z0, w0⟩ : ∃ zs, IsRow .u8 W a0 len0 cap0 zs := by
    obtain ⟨fuel, hf⟩ := h0
    rcases open_ints Tryz.underlying22 Tryz.underlying5 (by kernel_rfl) hf with ⟨hcs, _⟩ | ⟨x, l, c, zs, hcs, _, hl, hm, hz, _, hcell, hwz⟩
    · simp [Value.cells] at hcs
      obtain ⟨rfl, rfl, rfl⟩ := hcs
      exact ⟨[], .inl ⟨rfl, rfl, rfl, rfl⟩⟩
    · simp [Value.cells] at hcs
      obtain ⟨rfl, rfl, rfl⟩ := hcs
      exact ⟨zs, .inr ⟨_, rfl, hl, hm, by simpa using hz, hcell, hwz⟩⟩
  clear hA0 hval0
  refine (walk a0 len0 cap0 z0 W w0).mono fun e W' ⟨he, bel⟩ => ?_
  subst he
  exact ⟨_, rfl, _, _, _, [], _, [], hW', trodAll_mk1 (shut_bool Tryz.underlying4 _), (trodAll_cons_mk (Below.trod laidOut (by kernel_rfl) (of_decide_eq_true (by kernel_rfl)) k0 bel lt0) trodAll_mk0), rfl, bel.frame _, fun h => by cases h⟩

theorem over : Rows.fnBoardsRow.holds Tryz.pinned (OpenSpec.ofChange Rows.fnBoardsSpec) :=
  OpenClaim.holds_of_wide 3 Tryz.f3 rfl rfl rfl rfl rfl rfl rfl ⟨rfl, rfl, rfl, rfl, rfl⟩ rfl rfl rfl rfl rfl (by kernel_rfl) Tryz.func3 (by kernel_rfl)
    (of_decide_eq_true (by kernel_rfl)) (by unfold Func.isWrapper; first | (rw [if_pos (by decide +kernel)]; kernel_rfl) | (rw [if_neg (by decide +kernel)]; exact ⟨rfl, rfl⟩))
    (fun os started H enc _ => lifted os started H enc)

#print axioms over
end Go.Proofs.YtgakfkjjkobpiaaGreat.fnBoards
namespace Go.Proofs.YtgakfkjjkobpiaaGreat
theorem fnBoards_holds : Rows.FnBoardsSaid := fnBoards.over
end Go.Proofs.YtgakfkjjkobpiaaGreat
