/- At every string of bytes the law FnQuick answers true and its argument stays. -/
import Derived.Test.YtgakfkjjkobpiaaRows
import Derived.WalkKit
import Derived.ProofKit
import Derived.OpenShut
import Derived.ShutString
import Derived.ChangeOld
import Derived.Below
import Derived.Test.YtgakfkjjkobpiaaMV
import Derived.Test.YtgakfkjjkobpiaaMW
import Derived.Test.YtgakfkjjkobpiaaMQ
import Derived.Deep.Cut
import Derived.Deep.RegionHeld3
namespace Go.Proofs.Ytgakfkjjkobpiaa.fnQuick
open Go.ChangeShapes Go.WideShapes Go.ChangeAt Go.RowKit
open Go.ChangeMaps (open_string shut_string)
set_option linter.unusedVariables false

theorem own : ownKnob Try.prog.godebug = none := by kernel_rfl
theorem laidOut : laidOutB Try.prog = true := by kernel_rfl

/-- What the walk is told of a slice of bytes that came in: it is nil, or it leads to a row of cells, each fitting its kind. -/
def IsRow (k : IntKind) (w : World) (a : Option Addr) (len cap : Nat) (zs : List Int) : Prop :=
  (a = none ∧ len = 0 ∧ cap = 0 ∧ zs = []) ∨
  ∃ x, a = some x ∧ len ≤ cap ∧ cap ≤ maxLen ∧ zs.length = cap ∧ (∀ i, i < zs.length → w.cell? (x.add i) = some (.int k (zs.getD i 0))) ∧ ∀ n ∈ zs, (Lit.int k n).wf = true

set_option maxRecDepth 100000 in
set_option maxHeartbeats 8000000 in
theorem walk (a0 : Option Addr) (len0 cap0 : Nat) (z0 : List Int) (w : World) (w0 : IsRow .u8 w a0 len0 cap0 z0) :
    Calls Try.prog 3 #[.slice a0 len0 cap0] w fun e w' => e = .returned (.bool true) ∧ Below w.heap.size w w' := by
  by_cases hbig : 4096 < len0
  · have hbb : decide (4096 < len0) = true := by simpa using hbig
    go_enter Try.func3, Try.ntmps3
    go_wp2_with (go_at_call 6; refine (big_any _ _ _ _).mono ?_; rintro e w' ⟨rfl, rfl⟩)
    go_ret
    exact ⟨rfl, Below.refl _ _⟩
  have hbb : decide (4096 < len0) = false := by simpa using hbig
  obtain ⟨zs, hzl, hrd⟩ : ∃ zs : List Int, zs.length = len0 ∧ RdB w w.heap.size a0 zs := rdb_of_row (by omega) w0
  have hz12 : zs.length ≤ 4096 := by omega
  subst hzl
  clear w0 hbig
  go_enter Try.func3, Try.ntmps3
  go_wp2_with fail
  refine (big_any _ _ _ _).mono ?_
  rintro e w' ⟨rfl, rfl⟩
  go_wp2_with fail
  refine (drawQuick_any _ a0 cap0 zs hrd).mono ?_
  rintro e w1 ⟨bv, dss, b, p, rfl, fB, ⟨hz, hlo⟩, ⟨p0, p1⟩, k1⟩
  have rB1 := fB.rd
  have K1 := k1
  have HZ := Lib.hid hz
  have HLO := Lib.hid hlo
  clear fB hz hlo k1 hbb
  obtain ⟨aWB, aPB, aLB, aNB, aXB, aTB, aFB, aRB, cWB, cPB, cLB, cN'B, cXB, cTB, cFB, cRB, rfl⟩ := rB1.shapes
  go_upto_region 4 with fail
  obtain ⟨w2, hw⟩ : ∃ W : World, W = w1.alloc (.cells #[.slice aWB dss.length cWB, .slice aPB b.plc.length cPB, .slice aLB b.lst.length cLB, .slice aNB b.nts.length cN'B, .slice aXB b.nxt.length cXB, .slice aTB b.sn.length cTB, .slice aFB b.fr.length cFB, .slice aRB b.rws.length cRB] 29) := ⟨_, rfl⟩
  have kb : Keep w1 w2 := by rw [hw]; exact (Keep.refl w1).alloc _
  have hB : w2.heap[w1.heap.size]? = some (.cells #[.slice aWB dss.length cWB, .slice aPB b.plc.length cPB, .slice aLB b.lst.length cLB, .slice aNB b.nts.length cN'B, .slice aXB b.nxt.length cXB, .slice aTB b.sn.length cTB, .slice aFB b.fr.length cFB, .slice aRB b.rws.length cRB] 29 (0, 0)) := by rw [hw]; exact heap_alloc_new _ _
  have lB : w1.heap.size < w2.heap.size := by rw [hw, heap_size]; omega
  rw [← hw]
  clear hw
  have Kw2 := K1.trans kb
  have rB2 := rB1.keep kb
  generalize w1.heap.size = B at *
  clear rB1 kb K1
  obtain ⟨hzq, -⟩ := sz_quick dss b p
  have HZQ := Lib.hid hzq
  clear hzq
  have CI := implQuick_low w2 _ dss b p rB2 HZ.out HLO.out
  obtain ⟨D, hD⟩ : ∃ D, D = qkD dss b := ⟨_, rfl⟩
  obtain ⟨Q, hQ⟩ : ∃ Q, Q = qkB dss b p := ⟨_, rfl⟩
  obtain ⟨T, hT⟩ : ∃ T, T = (boardB dss b && qkT dss b p) := ⟨_, rfl⟩
  rw [← hD, ← hQ] at HZQ
  rw [← hD, ← hQ, ← hT] at CI
  have HD := Lib.hid hD
  have HQ := Lib.hid hQ
  have HTT := Lib.hid hT
  clear hD hQ hT
  go_wp2_with (first | refine wpList_load_row rfl 29 _ rfl B rfl 29 _ (0, 0) _ hB Try.underlying29 rfl board_info ?_ | fail)
  refine CI.mono ?_
  rintro e w3 ⟨bvX, rfl, fX, k3⟩
  have rX3 := fX.rd
  have K3 := Kw2.trans k3
  have s3 := k3.size
  replace hB := (Below.block k3 B (by omega)).trans hB
  have rB3 := rB2.keep k3
  clear CI fX k3 Kw2 rB2
  obtain ⟨aWX, aPX, aLX, aNX, aXX, aTX, aFX, aRX, cWX, cPX, cLX, cN'X, cXX, cTX, cFX, cRX, rfl⟩ := rX3.shapes
  go_upto_region 5 with fail
  obtain ⟨w4, hw⟩ : ∃ W : World, W = w3.alloc (.cells #[.slice aWX D.length cWX, .slice aPX Q.plc.length cPX, .slice aLX Q.lst.length cLX, .slice aNX Q.nts.length cN'X, .slice aXX Q.nxt.length cXX, .slice aTX Q.sn.length cTX, .slice aFX Q.fr.length cFX, .slice aRX Q.rws.length cRX] 29) := ⟨_, rfl⟩
  have kb : Keep w3 w4 := by rw [hw]; exact (Keep.refl w3).alloc _
  have hX : w4.heap[w3.heap.size]? = some (.cells #[.slice aWX D.length cWX, .slice aPX Q.plc.length cPX, .slice aLX Q.lst.length cLX, .slice aNX Q.nts.length cN'X, .slice aXX Q.nxt.length cXX, .slice aTX Q.sn.length cTX, .slice aFX Q.fr.length cFX, .slice aRX Q.rws.length cRX] 29 (0, 0)) := by rw [hw]; exact heap_alloc_new _ _
  have lX : w3.heap.size < w4.heap.size := by rw [hw, heap_size]; omega
  rw [← hw]
  clear hw
  have Kw4 := K3.trans kb
  have rX4 := rX3.keep kb
  have rB4 := rB3.keep kb
  replace hB := (Below.block kb B (by omega)).trans hB
  have zB : B < w3.heap.size := by omega
  generalize w3.heap.size = X at *
  clear rX3 rB3 kb K3
  have CS := specQuick_any w4 _ dss b p rB4 HZ.out
  rw [← HD.out, ← HQ.out, ← HTT.out] at CS
  go_wp2_with (first | refine wpList_load_row rfl 29 _ rfl B rfl 29 _ (0, 0) _ hB Try.underlying29 rfl board_info ?_ | fail)
  refine CS.mono ?_
  rintro e w5 ⟨bvY, rfl, rY5, k5⟩
  have K5 := Kw4.trans k5
  have s5 := k5.size
  replace hB := (Below.block k5 B (by omega)).trans hB
  replace hX := (Below.block k5 X (by omega)).trans hX
  have rB5 := rB4.keep k5
  have rX5 := rX4.keep k5
  clear CS k5 Kw4 rB4 rX4
  obtain ⟨aWY, aPY, aLY, aNY, aXY, aTY, aFY, aRY, cWY, cPY, cLY, cN'Y, cXY, cTY, cFY, cRY, rfl⟩ := rY5.shapes
  go_upto_region 6 with fail
  obtain ⟨w6, hw⟩ : ∃ W : World, W = w5.alloc (.cells #[.slice aWY D.length cWY, .slice aPY Q.plc.length cPY, .slice aLY Q.lst.length cLY, .slice aNY Q.nts.length cN'Y, .slice aXY Q.nxt.length cXY, .slice aTY Q.sn.length cTY, .slice aFY Q.fr.length cFY, .slice aRY Q.rws.length cRY] 29) := ⟨_, rfl⟩
  have kb : Keep w5 w6 := by rw [hw]; exact (Keep.refl w5).alloc _
  have hY : w6.heap[w5.heap.size]? = some (.cells #[.slice aWY D.length cWY, .slice aPY Q.plc.length cPY, .slice aLY Q.lst.length cLY, .slice aNY Q.nts.length cN'Y, .slice aXY Q.nxt.length cXY, .slice aTY Q.sn.length cTY, .slice aFY Q.fr.length cFY, .slice aRY Q.rws.length cRY] 29 (0, 0)) := by rw [hw]; exact heap_alloc_new _ _
  have lY : w5.heap.size < w6.heap.size := by rw [hw, heap_size]; omega
  rw [← hw]
  clear hw
  have Kw6 := K5.trans kb
  have rX6 := rX5.keep kb
  have rB6 := rB5.keep kb
  have rY6 := rY5.keep kb
  replace hB := (Below.block kb B (by omega)).trans hB
  replace hX := (Below.block kb X (by omega)).trans hX
  have zX : X < w5.heap.size := by omega
  generalize w5.heap.size = Y at *
  clear rX5 rB5 rY5 kb K5
  have hTT : (T != T) = false := by cases T <;> rfl
  have xX0 : w6.cell? ⟨X, 0, none⟩ = some (.slice aWX D.length cWX) := by rw [cell_of_row w6 _ 0 _ _ _ hX]; rfl
  have xX1 : w6.cell? ⟨X, 1, none⟩ = some (.slice aPX Q.plc.length cPX) := by rw [cell_of_row w6 _ 1 _ _ _ hX]; rfl
  have xX2 : w6.cell? ⟨X, 2, none⟩ = some (.slice aLX Q.lst.length cLX) := by rw [cell_of_row w6 _ 2 _ _ _ hX]; rfl
  have xX3 : w6.cell? ⟨X, 3, none⟩ = some (.slice aNX Q.nts.length cN'X) := by rw [cell_of_row w6 _ 3 _ _ _ hX]; rfl
  have xX4 : w6.cell? ⟨X, 4, none⟩ = some (.slice aXX Q.nxt.length cXX) := by rw [cell_of_row w6 _ 4 _ _ _ hX]; rfl
  have xX5 : w6.cell? ⟨X, 5, none⟩ = some (.slice aTX Q.sn.length cTX) := by rw [cell_of_row w6 _ 5 _ _ _ hX]; rfl
  have xX6 : w6.cell? ⟨X, 6, none⟩ = some (.slice aFX Q.fr.length cFX) := by rw [cell_of_row w6 _ 6 _ _ _ hX]; rfl
  have xX7 : w6.cell? ⟨X, 7, none⟩ = some (.slice aRX Q.rws.length cRX) := by rw [cell_of_row w6 _ 7 _ _ _ hX]; rfl
  have xY0 : w6.cell? ⟨Y, 0, none⟩ = some (.slice aWY D.length cWY) := by rw [cell_of_row w6 _ 0 _ _ _ hY]; rfl
  have xY1 : w6.cell? ⟨Y, 1, none⟩ = some (.slice aPY Q.plc.length cPY) := by rw [cell_of_row w6 _ 1 _ _ _ hY]; rfl
  have xY2 : w6.cell? ⟨Y, 2, none⟩ = some (.slice aLY Q.lst.length cLY) := by rw [cell_of_row w6 _ 2 _ _ _ hY]; rfl
  have xY3 : w6.cell? ⟨Y, 3, none⟩ = some (.slice aNY Q.nts.length cN'Y) := by rw [cell_of_row w6 _ 3 _ _ _ hY]; rfl
  have xY4 : w6.cell? ⟨Y, 4, none⟩ = some (.slice aXY Q.nxt.length cXY) := by rw [cell_of_row w6 _ 4 _ _ _ hY]; rfl
  have xY5 : w6.cell? ⟨Y, 5, none⟩ = some (.slice aTY Q.sn.length cTY) := by rw [cell_of_row w6 _ 5 _ _ _ hY]; rfl
  have xY6 : w6.cell? ⟨Y, 6, none⟩ = some (.slice aFY Q.fr.length cFY) := by rw [cell_of_row w6 _ 6 _ _ _ hY]; rfl
  have xY7 : w6.cell? ⟨Y, 7, none⟩ = some (.slice aRY Q.rws.length cRY) := by rw [cell_of_row w6 _ 7 _ _ _ hY]; rfl
  go_wp2_with fail
  refine (likeBoard_same _ _ _ D Q rX6 rY6 HZQ.out).mono ?_
  rintro e w7 ⟨rfl, k7⟩
  have K7 := Kw6.trans k7
  have s7 := k7.size
  replace hB := (Below.block k7 B (by omega)).trans hB
  replace hX := (Below.block k7 X (by omega)).trans hX
  have rX7 := rX6.keep k7
  have rB7 := rB6.keep k7
  clear xX0 xX1 xX2 xX3 xX4 xX5 xX6 xX7 xY0 xY1 xY2 xY3 xY4 xY5 xY6 xY7 rX6 rB6 rY6 k7 Kw6 hY
  go_wp2_with (first | refine wpList_load_row rfl 29 _ rfl B rfl 29 _ (0, 0) _ hB Try.underlying29 rfl board_info ?_ | fail)
  refine (specBoardOk_any _ _ dss b rB7 HZ.out).mono ?_
  rintro e w8 ⟨rfl, k8⟩
  have K8 := K7.trans k8
  have s8 := k8.size
  replace hB := (Below.block k8 B (by omega)).trans hB
  replace hX := (Below.block k8 X (by omega)).trans hX
  have rX8 := rX7.keep k8
  have rB8 := rB7.keep k8
  clear rX7 rB7 k8 K7
  cases hob : boardB dss b
  · have e1 := Lib.hid (show D = [] by rw [HD.out, qkD, hob, if_neg (by simp)])
    have e2 := Lib.hid (show Q = zBd by rw [HQ.out, qkB, hob, if_neg (by simp)])
    have e3 : T = false := by rw [HTT.out, hob]; rfl
    clear HTT hTT HD HQ hob
    subst e3
    have xX0 : w8.cell? ⟨X, 0, none⟩ = some (.slice aWX D.length cWX) := by rw [cell_of_row w8 _ 0 _ _ _ hX]; rfl
    have xX1 : w8.cell? ⟨X, 1, none⟩ = some (.slice aPX Q.plc.length cPX) := by rw [cell_of_row w8 _ 1 _ _ _ hX]; rfl
    have xX2 : w8.cell? ⟨X, 2, none⟩ = some (.slice aLX Q.lst.length cLX) := by rw [cell_of_row w8 _ 2 _ _ _ hX]; rfl
    have xX3 : w8.cell? ⟨X, 3, none⟩ = some (.slice aNX Q.nts.length cN'X) := by rw [cell_of_row w8 _ 3 _ _ _ hX]; rfl
    have xX4 : w8.cell? ⟨X, 4, none⟩ = some (.slice aXX Q.nxt.length cXX) := by rw [cell_of_row w8 _ 4 _ _ _ hX]; rfl
    have xX5 : w8.cell? ⟨X, 5, none⟩ = some (.slice aTX Q.sn.length cTX) := by rw [cell_of_row w8 _ 5 _ _ _ hX]; rfl
    have xX6 : w8.cell? ⟨X, 6, none⟩ = some (.slice aFX Q.fr.length cFX) := by rw [cell_of_row w8 _ 6 _ _ _ hX]; rfl
    have xX7 : w8.cell? ⟨X, 7, none⟩ = some (.slice aRX Q.rws.length cRX) := by rw [cell_of_row w8 _ 7 _ _ _ hX]; rfl
    have HL := Lib.hid (fun (W : World) (k : Keep w8 W) => likeBoard_same W _ bd0 D Q (rX8.keep k) (by rw [e1.out, e2.out]; exact rd_zero W) HZQ.out)
    clear e1 e2
    go_wp2_with fail
    refine (HL.out _ (Keep.refl _)).mono ?_
    rintro e w9 ⟨rfl, k9⟩
    have K9 := K8.trans k9
    go_wp2
    go_ret
    exact ⟨rfl, K9⟩
  have e1 : D = dss := by rw [HD.out, qkD, hob, if_pos rfl]
  have e2 := Lib.hid (show Q = qkM dss b p by rw [HQ.out, qkB, hob, if_pos rfl])
  have hT : T = qkT dss b p := by rw [HTT.out, hob, Bool.true_and]
  have HOB := Lib.hid hob
  clear hob HD HQ HTT
  subst e1
  cases hqt : qkT D b p
  · rw [hqt] at hT
    have e3 : Q = b := by rw [e2.out, qkM, hqt, if_neg (by simp)]
    clear e2 hqt hTT
    subst hT
    subst e3
    go_wp2_with (first | refine wpList_load_row rfl 29 _ rfl X rfl 29 _ (0, 0) _ hX Try.underlying29 rfl board_info ?_ | refine wpList_load_row rfl 29 _ rfl B rfl 29 _ (0, 0) _ hB Try.underlying29 rfl board_info ?_ | fail)
    refine (likeBoard_same _ _ _ D Q rX8 rB8 HZ.out).mono ?_
    rintro e w9 ⟨rfl, k9⟩
    have K9 := K8.trans k9
    go_wp2
    go_ret
    exact ⟨rfl, K9⟩
  rw [hqt] at hT
  clear hTT
  subst hT
  have e3 : Q = quickM D (eventsB D) b p.toNat := by rw [e2.out, qkM, if_pos hqt]
  have HT : Hid (qkT D b p = true) := Lib.hid hqt
  simp only [qkT, Bool.and_eq_true, decide_eq_true_eq] at hqt
  obtain ⟨⟨hp0, hpl⟩, hcan⟩ := hqt
  obtain ⟨c, rfl⟩ : ∃ c : Nat, p = (c : Int) := ⟨p.toNat, by omega⟩
  rw [Int.toNat_natCast] at hcan e3
  have hc : c < D.length := by omega
  have hs : isB (possM D b) (c : Int) = true := by
    rw [isB, List.any_eq_true]
    exact ⟨(c : Int), List.mem_append.2 (.inl (List.mem_map.2 ⟨c, List.mem_filter.2 ⟨List.mem_range.2 hc, hcan⟩, rfl⟩)), by simp⟩
  have sD : stpD D b = D := by rw [stpD, if_pos HOB.out]
  have sB : stpB D b (c : Int) = stepM D (eventsB D) b (c : Int) := by rw [stpB, if_pos HOB.out, stepB, if_pos hs]
  have hSB := step_board HOB.out HLO.out.1 HLO.out.2 hc hcan
  have HSB := Lib.hid hSB
  have h3 : D.length ≤ 3 := (workB_useR (RB.any HOB.out).work).1
  have CT := specStepped_any w8 _ D b (c : Int) rB8 HZ.out
  rw [sD, sB] at CT
  have HE : Hid (Q = if ((stepM D (eventsB D) b (c : Int)).nts.getD c []).isEmpty = true then stepM D (eventsB D) b (c : Int) else stepM D (eventsB D) (stepM D (eventsB D) b (c : Int)) (10 + (c : Int))) := Lib.hid e3
  have hSN : D.length ≤ (stepM D (eventsB D) b (c : Int)).nts.length := Nat.le_of_eq (RB.any hSB).nts.symm
  obtain ⟨hz5, -⟩ := (RB.any hSB).sz (by omega) (by omega)
  have HZS := Lib.hid hz5
  generalize stepM D (eventsB D) b (c : Int) = SB at *
  clear e2 e3 hs sD sB hSB hz5 hcan hp0 hpl HT p0 p1
  go_wp2_with (first | refine wpList_load_row rfl 29 _ rfl B rfl 29 _ (0, 0) _ hB Try.underlying29 rfl board_info ?_ | fail)
  refine CT.mono ?_
  rintro e w9 ⟨bvS, rfl, rS9, k9⟩
  have K9 := K8.trans k9
  have s9 := k9.size
  replace hX := (Below.block k9 X (by omega)).trans hX
  have rX9 := rX8.keep k9
  clear CT k9 K8 rX8 rB8 hB
  obtain ⟨aWS, aPS, aLS, aNS, aXS, aTS, aFS, aRS, cWS, cPS, cLS, cN'S, cXS, cTS, cFS, cRS, rfl⟩ := rS9.shapes
  go_upto_region 13 with fail
  obtain ⟨w10, hw⟩ : ∃ W : World, W = w9.alloc (.cells #[.slice aWS D.length cWS, .slice aPS SB.plc.length cPS, .slice aLS SB.lst.length cLS, .slice aNS SB.nts.length cN'S, .slice aXS SB.nxt.length cXS, .slice aTS SB.sn.length cTS, .slice aFS SB.fr.length cFS, .slice aRS SB.rws.length cRS] 29) := ⟨_, rfl⟩
  have kb : Keep w9 w10 := by rw [hw]; exact (Keep.refl w9).alloc _
  have hS : w10.heap[w9.heap.size]? = some (.cells #[.slice aWS D.length cWS, .slice aPS SB.plc.length cPS, .slice aLS SB.lst.length cLS, .slice aNS SB.nts.length cN'S, .slice aXS SB.nxt.length cXS, .slice aTS SB.sn.length cTS, .slice aFS SB.fr.length cFS, .slice aRS SB.rws.length cRS] 29 (0, 0)) := by rw [hw]; exact heap_alloc_new _ _
  have lS : w9.heap.size < w10.heap.size := by rw [hw, heap_size]; omega
  rw [← hw]
  clear hw
  have Kw10 := K9.trans kb
  have rX10 := rX9.keep kb
  have rS10 := rS9.keep kb
  replace hX := (Below.block kb X (by omega)).trans hX
  have zS : X < w9.heap.size := by omega
  have HLOW := Lib.hid K9.size
  have k910 : Keep w9 w10 := kb
  generalize hS9 : w9.heap.size = S at *
  have HS9 := Lib.hid hS9
  clear rS9 kb K9 hS9
  have xS0 : w10.cell? ⟨S, 0, none⟩ = some (.slice aWS D.length cWS) := by rw [cell_of_row w10 _ 0 _ _ _ hS]; rfl
  have xS1 : w10.cell? ⟨S, 1, none⟩ = some (.slice aPS SB.plc.length cPS) := by rw [cell_of_row w10 _ 1 _ _ _ hS]; rfl
  have xS2 : w10.cell? ⟨S, 2, none⟩ = some (.slice aLS SB.lst.length cLS) := by rw [cell_of_row w10 _ 2 _ _ _ hS]; rfl
  have xS3 : w10.cell? ⟨S, 3, none⟩ = some (.slice aNS SB.nts.length cN'S) := by rw [cell_of_row w10 _ 3 _ _ _ hS]; rfl
  have xS4 : w10.cell? ⟨S, 4, none⟩ = some (.slice aXS SB.nxt.length cXS) := by rw [cell_of_row w10 _ 4 _ _ _ hS]; rfl
  have xS5 : w10.cell? ⟨S, 5, none⟩ = some (.slice aTS SB.sn.length cTS) := by rw [cell_of_row w10 _ 5 _ _ _ hS]; rfl
  have xS6 : w10.cell? ⟨S, 6, none⟩ = some (.slice aFS SB.fr.length cFS) := by rw [cell_of_row w10 _ 6 _ _ _ hS]; rfl
  have xS7 : w10.cell? ⟨S, 7, none⟩ = some (.slice aRS SB.rws.length cRS) := by rw [cell_of_row w10 _ 7 _ _ _ hS]; rfl
  have hcn' : c < SB.nts.length := by omega
  have rN := rS10.N
  obtain ⟨a', c', he', hN⟩ := rN
  simp only [Value.slice.injEq, true_and] at he'
  obtain ⟨rfl, rfl⟩ := he'
  rcases hN with h0 | ⟨bn, on, rfl, hbn, hcn⟩
  · exfalso; rw [h0] at hcn'; simp at hcn'
  obtain ⟨vn, d3, r3⟩ := hcn c hcn'
  obtain ⟨an, cn, rfl, r3⟩ := r3
  have i1 : IntKind.i64.wrap (10 + (c : Int)) = 10 + (c : Int) := by rw [IntKind.wrap_i64]; omega
  have i2 : (0 : Int) ≤ (c : Int) := Int.natCast_nonneg _
  have i3 : (c : Int) < (SB.nts.length : Int) := by omega
  clear hcn r3 hcn'
  cases hzn : SB.nts.getD c [] with
  | nil =>
    have e4 : Q = SB := by rw [HE.out, hzn]; rfl
    rw [hzn] at d3
    clear HE hzn
    subst e4
    clear xS0 xS1 xS2  xS4 xS5 xS6 xS7
    go_wp2_with (first | refine wpList_load_row rfl 29 _ rfl X rfl 29 _ (0, 0) _ hX Try.underlying29 rfl board_info ?_ | refine wpList_load_row rfl 29 _ rfl S rfl 29 _ (0, 0) _ hS Try.underlying29 rfl board_info ?_ | fail)
    refine (likeBoard_same _ _ _ D Q rX10 rS10 HZQ.out).mono ?_
    rintro e w11 ⟨rfl, k11⟩
    have K11 := Kw10.trans k11
    go_wp2
    go_ret
    exact ⟨rfl, K11⟩
  | cons x r =>
    have hs2 : isB (possM D SB) (10 + (c : Int)) = true := by
      rw [isB, List.any_eq_true]
      exact ⟨10 + (c : Int), List.mem_append.2 (.inr (List.mem_map.2 ⟨c, List.mem_filter.2 ⟨List.mem_range.2 hc, by rw [hzn]; rfl⟩, rfl⟩)), by simp⟩
    have e4 : stepB D SB (10 + (c : Int)) = Q := by
      rw [stepB, if_pos hs2, HE.out, hzn]
      rfl
    have CT := specStepped_right w10 _ D SB (10 + (c : Int)) rS10 HZS.out HSB.out
    rw [e4] at CT
    rw [hzn] at d3
    have hl : decide ((0 : Int) < (((x :: r).length : Nat) : Int)) = true := by simp
    have hL : 0 < (x :: r).length := by simp
    generalize (x :: r).length = L at *
    clear HE hzn e4 hs2 xS0 xS1 xS2  xS4 xS5 xS6 xS7
    go_wp2_with (first | refine wpList_load_row rfl 29 _ rfl S rfl 29 _ (0, 0) _ hS Try.underlying29 rfl board_info ?_ | fail)
    refine CT.mono ?_
    rintro e w11 ⟨bvU, nvU, rvU, bsU, NU, rfl, oU, hbU, k11⟩
    have K11 := Kw10.trans k11
    have s11 := k11.size
    have l10 : S < w10.heap.size := by omega
    replace hX := (Below.block k11 X (by omega)).trans hX
    replace hS := (Below.block k11 S (by omega)).trans hS
    have k911 := k910.trans k11
    clear CT k11 Kw10 rX10 rS10
    obtain ⟨aWU, aPU, aLU, aNU, aXU, aTU, aFU, aRU, cWU, cPU, cLU, cN'U, cXU, cTU, cFU, cRU, rfl⟩ : ∃ (aW aP aL aN aX aT aF aR : Option Addr) (cW cP cL cQ cX cT cF cR : Nat), bvU = ⟨.slice aW D.length cW, .slice aP Q.plc.length cP, .slice aL Q.lst.length cL, .slice aN Q.nts.length cQ, .slice aX Q.nxt.length cX, .slice aT Q.sn.length cT, .slice aF Q.fr.length cF, .slice aR Q.rws.length cR⟩ := oU.rd0.shapes
    have HG := Lib.hid (grown_row3 w11 S #[.slice aWU D.length cWU, .slice aPU Q.plc.length cPU, .slice aLU Q.lst.length cLU, .slice aNU Q.nts.length cN'U, .slice aXU Q.nxt.length cXU, .slice aTU Q.sn.length cTU, .slice aFU Q.fr.length cFU, .slice aRU Q.rws.length cRU])
    have hS2 := setRow_heap w11 S _ #[.slice aWU D.length cWU, .slice aPU Q.plc.length cPU, .slice aLU Q.lst.length cLU, .slice aNU Q.nts.length cN'U, .slice aXU Q.nxt.length cXU, .slice aTU Q.sn.length cTU, .slice aFU Q.fr.length cFU, .slice aRU Q.rws.length cRU] _ _ hS
    have hX2 := (HG.out.block X (by omega) (fun e => by have := Option.some.inj e; omega)).trans hX
    have HK := Lib.hid (K11.grown HG.out (fun k hk => by have := Option.some.inj hk; have := HLOW.out; omega))
    have HRX := Lib.hid (rX9.keep (k911.grown HG.out (fun k hk => by have := Option.some.inj hk; have := HS9.out; omega)))
    have HRU := Lib.hid ((oU.far HG.out (fun k hk => by have := Option.some.inj hk; omega)).rd0)
    clear oU k911 rX9 hX
    go_wp2_with (first | refine wpList_store_row rfl 29 _ _ rfl S _ rfl rfl 29 _ hS board_info rfl (by simp [Value.oneCell']) ?_ | refine wpList_load_row rfl 29 _ rfl X rfl 29 _ (0, 0) _ hX2 Try.underlying29 rfl board_info ?_ | refine wpList_load_row rfl 29 _ rfl S rfl 29 _ (0, 0) _ hS2 Try.underlying29 rfl board_info ?_ | fail)
    refine (likeBoard_same _ _ _ D Q HRX.out HRU.out HZQ.out).mono ?_
    rintro e w13 ⟨rfl, k13⟩
    have K13 := HK.out.trans k13
    go_wp2
    go_ret
    exact ⟨rfl, K13⟩

set_option maxRecDepth 100000 in
theorem lifted (os : Os) (started : os.Started) (H : Type) (enc : TypeId × Value → H) :
    ReturnsInHanded {} Try.checked os 3 .any (Rows.fnQuickSpec.pre6 enc Try.prog Try.f3 Rows.fnQuickRow.domain false) (Rows.fnQuickSpec.post enc Try.prog Try.f3 false true false false) := by
  refine returnsInHanded_of_change (C := Try.checked) own started (by kernel_rfl) Try.func3
    (ChangeSpec.witness6 (enc := enc) (C := Try.checked) false ⟨#[], #[.slice none 0 0], []⟩ 8 (by kernel_rfl) (by kernel_rfl) (by kernel_rfl) (by kernel_rfl)) ?_
  intro W base args ds gs before hval0 hW hcnd _

  have hval : ∀ (j : Nat) t v, Try.f3.params[j]? = some t → args[j]? = some v → Value.okWide Try.prog W .any base t v := hval0
  have hW' := hW
  obtain ⟨p, q, hA0, hV, rfl, hfz, hnd⟩ := hW
  have hA : DataW.TrodAll enc Try.prog W 0 (fun _ => true) true Try.f3.params.toList args.toList ds p := hA0
  rw [Try.params3] at hA hval
  obtain ⟨v0, vs0, d0, ds0, p0, q0, hargs, rfl, rfl, h0, r0⟩ := trodAll_cons hA
  obtain ⟨rfl, rfl, rfl⟩ := trodAll_nil r0
  obtain rfl : args = #[v0] := by cases args; simp_all
  obtain ⟨rfl, rfl⟩ := trodVars_none hV
  have k0 := h0
  have lt0 : ∀ x ∈ p0, x.block < W.heap.size := by obtain ⟨m, hm⟩ := k0; exact DataW.trod_lt m _ _ _ hm
  obtain ⟨a0, len0, cap0, rfl⟩ := okWide_slice Try.underlying22 (hval 0 22 v0 rfl rfl)
  obtain ⟨z0, w0⟩ : ∃ zs, IsRow .u8 W a0 len0 cap0 zs := by
    obtain ⟨fuel, hf⟩ := h0
    rcases open_ints Try.underlying22 Try.underlying5 (by kernel_rfl) hf with ⟨hcs, _⟩ | ⟨x, l, c, zs, hcs, _, hl, hm, hz, _, hcell, hwz⟩
    · simp [Value.cells] at hcs
      obtain ⟨rfl, rfl, rfl⟩ := hcs
      exact ⟨[], .inl ⟨rfl, rfl, rfl, rfl⟩⟩
    · simp [Value.cells] at hcs
      obtain ⟨rfl, rfl, rfl⟩ := hcs
      exact ⟨zs, .inr ⟨_, rfl, hl, hm, by simpa using hz, hcell, hwz⟩⟩
  clear hA0 hval0
  refine (walk a0 len0 cap0 z0 W w0).mono fun e W' ⟨he, bel⟩ => ?_
  subst he
  exact ⟨_, rfl, _, _, _, [], _, [], hW', trodAll_mk1 (shut_bool Try.underlying4 _), (trodAll_cons_mk (Below.trod laidOut (by kernel_rfl) (of_decide_eq_true (by kernel_rfl)) k0 bel lt0) trodAll_mk0), rfl, bel.frame _, fun h => by cases h⟩

theorem over : Rows.fnQuickRow.holds Try.pinned (OpenSpec.ofChange Rows.fnQuickSpec) :=
  OpenClaim.holds_of_wide 3 Try.f3 rfl rfl rfl rfl rfl rfl rfl ⟨rfl, rfl, rfl, rfl, rfl⟩ rfl rfl rfl rfl rfl (by kernel_rfl) Try.func3 (by kernel_rfl)
    (of_decide_eq_true (by kernel_rfl)) (by unfold Func.isWrapper; first | (rw [if_pos (by decide +kernel)]; kernel_rfl) | (rw [if_neg (by decide +kernel)]; exact ⟨rfl, rfl⟩))
    (fun os started H enc _ => lifted os started H enc)

#print axioms over
end Go.Proofs.Ytgakfkjjkobpiaa.fnQuick
namespace Go.Proofs.Ytgakfkjjkobpiaa
theorem fnQuick_holds : Rows.FnQuickSaid := fnQuick.over
end Go.Proofs.Ytgakfkjjkobpiaa
