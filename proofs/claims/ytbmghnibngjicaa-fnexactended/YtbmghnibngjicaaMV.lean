/- Gathered texts. -/
import Derived.Test.YtbmghnibngjicaaMM
import Derived.Test.YtbmghnibngjicaaMU
set_option maxRecDepth 100000
set_option maxHeartbeats 8000000
namespace Go.Proofs.Ytbmghnibngjicaa
open Go.ChangeShapes Go.WideShapes Go.ChangeAt Go.RowKit
theorem l14Ended_any (w : World) (v : BV) (dss : List (List Dd)) (b : Bd) (h : RdBd w v dss b) (hd : dss.length ≤ 1048576) (hx : dss.length ≤ b.nxt.length) (hn : dss.length ≤ b.nts.length) :
    Calls Try.prog 62 #[v.agg] w fun e w' => e = .returned (.bool (endZ dss b)) ∧ Keep w w' := by
  obtain ⟨aW, aP, aL, aN, aX, aS, aF, aR, cW, cP, cL, cN, cX, cS, cF, cR, rfl⟩ := h.shapes
  have KW : Keep w (w.alloc (.cells #[.slice aW dss.length cW, .slice aP b.plc.length cP, .slice aL b.lst.length cL, .slice aN b.nts.length cN, .slice aX b.nxt.length cX, .slice aS b.sn.length cS, .slice aF b.fr.length cF, .slice aR b.rws.length cR] 33)) := (Keep.refl w).alloc _
  have c0 : (w.alloc (.cells #[.slice aW dss.length cW, .slice aP b.plc.length cP, .slice aL b.lst.length cL, .slice aN b.nts.length cN, .slice aX b.nxt.length cX, .slice aS b.sn.length cS, .slice aF b.fr.length cF, .slice aR b.rws.length cR] 33)).cell? ⟨w.heap.size, 0, none⟩ = some (.slice aW dss.length cW) := box_cell (Keep.refl _) 0
  have c3 : (w.alloc (.cells #[.slice aW dss.length cW, .slice aP b.plc.length cP, .slice aL b.lst.length cL, .slice aN b.nts.length cN, .slice aX b.nxt.length cX, .slice aS b.sn.length cS, .slice aF b.fr.length cF, .slice aR b.rws.length cR] 33)).cell? ⟨w.heap.size, 3, none⟩ = some (.slice aN b.nts.length cN) := box_cell (Keep.refl _) 3
  have c4 : (w.alloc (.cells #[.slice aW dss.length cW, .slice aP b.plc.length cP, .slice aL b.lst.length cL, .slice aN b.nts.length cN, .slice aX b.nxt.length cX, .slice aS b.sn.length cS, .slice aF b.fr.length cF, .slice aR b.rws.length cR] 33)).cell? ⟨w.heap.size, 4, none⟩ = some (.slice aX b.nxt.length cX) := box_cell (Keep.refl _) 4
  have h' := h.keep KW
  have z1 : w.heap.size < (w.alloc (.cells #[.slice aW dss.length cW, .slice aP b.plc.length cP, .slice aL b.lst.length cL, .slice aN b.nts.length cN, .slice aX b.nxt.length cX, .slice aS b.sn.length cS, .slice aF b.fr.length cF, .slice aR b.rws.length cR] 33)).heap.size := by rw [heap_size]; omega
  go_enter Try.func62, Try.ntmps62
  go_wp2
  generalize w.alloc (.cells #[.slice aW dss.length cW, .slice aP b.plc.length cP, .slice aL b.lst.length cL, .slice aN b.nts.length cN, .slice aX b.nxt.length cX, .slice aS b.sn.length cS, .slice aF b.fr.length cF, .slice aR b.rws.length cR] 33) = w1 at *
  have HH := Lib.hid h'
  clear h h'
  go_loopw [3] (fun i wr => ∃ k : Nat, k ≤ dss.length ∧ i = .int .i64 k ∧ Hid (∀ j, j < k → (decide (((dss.getD j []).length : Int) ≤ b.nxt.getD j 0) && (b.nts.getD j []).isEmpty) = true) ∧ Keep w1 wr) (fun i _ => dss.length - (intOf i).toNat)
  case atStart => exact ⟨0, Nat.zero_le _, rfl, Lib.hid (fun j hj => absurd hj (Nat.not_lt_zero _)), Keep.refl _⟩
  case round =>
    obtain ⟨k, hk, rfl, hno, hK⟩ := hrel
    have e0 := (hK.cell z1).trans c0
    have e3 := (hK.cell z1).trans c3
    have e4 := (hK.cell z1).trans c4
    by_cases hlt : k < dss.length
    · have lX : k < b.nxt.length := by omega
      have lN : k < b.nts.length := by omega
      obtain ⟨a', c', he', hX⟩ := HH.out.X.keep hK
      simp only [Value.slice.injEq, true_and] at he'
      obtain ⟨rfl, rfl⟩ := he'
      rcases hX with h0 | ⟨bx, ox, rfl, hbx, hcx⟩
      · exfalso; rw [h0] at lX; simp at lX
      obtain ⟨a', c', he', hW⟩ := HH.out.W.keep hK
      simp only [Value.slice.injEq, true_and] at he'
      obtain ⟨rfl, rfl⟩ := he'
      rcases hW with h0 | ⟨bw, ow, rfl, hbw, hcw⟩
      · exfalso; rw [h0] at hlt; simp at hlt
      obtain ⟨a', c', he', hN⟩ := HH.out.N.keep hK
      simp only [Value.slice.injEq, true_and] at he'
      obtain ⟨rfl, rfl⟩ := he'
      rcases hN with h0 | ⟨bn, on, rfl, hbn, hcn⟩
      · exfalso; rw [h0] at lN; simp at lN
      have d1 := hcx k lX
      obtain ⟨vw, d2, r2⟩ := hcw k hlt
      obtain ⟨vn, d3, r3⟩ := hcn k lN
      have HF : (decide (((dss.getD k []).length : Int) ≤ b.nxt.getD k 0) && (b.nts.getD k []).isEmpty) = false → Hid (endZ dss b = false) := fun e => Lib.hid (all_range_false hlt e)
      have HT : (decide (((dss.getD k []).length : Int) ≤ b.nxt.getD k 0) && (b.nts.getD k []).isEmpty) = true → Hid (∀ j, j < k + 1 → (decide (((dss.getD j []).length : Int) ≤ b.nxt.getD j 0) && (b.nts.getD j []).isEmpty) = true) := fun e => Lib.hid (fun j hj => by
        by_cases e' : j = k
        · rw [e']; exact e
        · exact hno.out j (by omega))
      obtain ⟨aw, cw, rfl, -⟩ := r2
      obtain ⟨an, cn, rfl, -⟩ := r3
      generalize b.nxt.getD k 0 = x at d1 HF HT
      generalize (dss.getD k []).length = wl at d2 HF HT
      generalize b.nts.getD k [] = ns at d3 HF HT
      have j1 : (0 : Int) ≤ (k : Int) := Int.natCast_nonneg _
      have j2 : (k : Int) < (dss.length : Int) := by omega
      have j3 : (k : Int) < (b.nxt.length : Int) := by omega
      have j4 : (k : Int) < (b.nts.length : Int) := by omega
      clear hcx hcw hcn hno
      by_cases t1 : x < (wl : Int)
      · have HE := HF (by rw [decide_eq_false (by omega)]; rfl)
        clear HF HT
        go_wp2
        go_quiet (fail)
        go_wp2
        go_ret
        exact ⟨by rw [HE.out]; rfl, (KW.trans hK).drewN _⟩
      have t1' : decide (x < (wl : Int)) = false := decide_eq_false t1
      by_cases t2 : 0 < ns.length
      · have HE := HF (by
          have : ns.isEmpty = false := by cases ns with | nil => simp at t2 | cons _ _ => rfl
          rw [this]; simp)
        have t2' : decide (0 < ns.length) = true := decide_eq_true t2
        clear HF HT t1
        go_wp2
        go_quiet (fail)
        go_wp2
        go_ret
        exact ⟨by rw [HE.out]; rfl, (KW.trans hK).drewN _⟩
      · have HE := HT (by
          have : ns.isEmpty = true := by cases ns with | nil => rfl | cons _ _ => simp at t2
          rw [this, decide_eq_true (by omega)]; rfl)
        have t2' : decide (0 < ns.length) = false := decide_eq_false t2
        clear HF HT t1 t2
        go_wp2
        go_quiet (fail)
        go_wp2
        go_roundw
        case rel => exact ⟨k + 1, by omega, by go_num, HE, hK.drewN _⟩
        case measure => simp [intOf]; omega
    · obtain rfl : k = dss.length := by omega
      have HE : Hid (endZ dss b = true) := Lib.hid (all_range_true hno.out)
      go_wp2
      go_ret
      exact ⟨by rw [HE.out]; rfl, KW.trans hK⟩
theorem specEnded_any (w : World) (v : BV) (dss : List (List Dd)) (b : Bd) (h : RdBd w v dss b) (hz : SzBd dss b) :
    Calls Try.prog 23 #[v.agg] w fun e w' => e = .returned (.bool (endedB dss b)) ∧ Keep w w' := by
  obtain ⟨aW, aP, aL, aN, aX, aS, aF, aR, cW, cP, cL, cN, cX, cS, cF, cR, rfl⟩ := h.shapes
  have CB := fun (W : World) (kW : Keep w W) => specBoardOk_any W _ dss b (h.keep kW) hz
  have HH := Lib.hid h
  have HD : Hid (endedB dss b = (boardB dss b && endZ dss b)) := Lib.hid rfl
  have hd := hz.w1
  clear h hz
  go_enter Try.func23, Try.ntmps23
  go_wp2_with fail
  refine (CB _ ((Keep.refl w).alloc _)).mono ?_
  rintro e w1 ⟨rfl, k1⟩
  have K1 := ((Keep.refl w).alloc _).trans k1
  have c0 := box_cell k1 0
  have c1 := box_cell k1 1
  have c2 := box_cell k1 2
  have c3 := box_cell k1 3
  have c4 := box_cell k1 4
  have c5 := box_cell k1 5
  have c6 := box_cell k1 6
  have c7 := box_cell k1 7
  simp at c0 c1 c2 c3 c4 c5 c6 c7
  clear CB
  cases hb : boardB dss b
  · have HE : Hid (endedB dss b = false) := Lib.hid (by rw [HD.out, hb]; rfl)
    go_wp2
    go_ret
    exact ⟨by rw [HE.out]; rfl, K1⟩
  · have HE : Hid (endedB dss b = endZ dss b) := Lib.hid (by rw [HD.out, hb]; rfl)
    obtain ⟨u1, u2⟩ := board_lens hb
    have CL := l14Ended_any w1 _ dss b (HH.out.keep K1) hd (by omega) (by omega)
    generalize endZ dss b = ANS at CL HE
    clear u1 u2 hb HD
    go_wp2_with fail
    refine CL.mono ?_
    rintro e w2 ⟨rfl, k2⟩
    go_wp2
    go_ret
    exact ⟨by rw [HE.out]; rfl, K1.trans k2⟩
end Go.Proofs.Ytbmghnibngjicaa
