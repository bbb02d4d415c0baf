/- Gathered texts. -/
import Derived.Test.YtgakfkjjkobpiaaMX
set_option maxRecDepth 100000
set_option maxHeartbeats 8000000
namespace Go.Proofs.Ytgakfkjjkobpiaa
open Go.ChangeShapes Go.WideShapes Go.ChangeAt Go.RowKit
theorem implQuick_low (w : World) (v : BV) (dss : List (List Dd)) (b : Bd) (c : Int) (h : RdBd w v dss b) (hz : SzBd dss b) (hlo : (∀ c, (b.nts.getD c []).length ≤ 7) ∧ ∀ p, (b.rws.getD p []).length ≤ 15) :
    Calls Try.prog 8 #[v.agg, .int .i64 c] w fun e w' => ∃ bv' : BV, e = .returned (.tuple #[bv'.agg, .bool (boardB dss b && qkT dss b c)]) ∧ FreeBd w' w.heap.size w'.heap.size bv' (qkD dss b) (qkB dss b c) ∧ Keep w w' := by
  have XRB := Lib.hid h
  have XSZ := Lib.hid hz
  have XLO := Lib.hid hlo
  have hx := hz.w1
  obtain ⟨aW, aP, aL, aN, aX, aS, aF, aR, cW, cP, cL, cN, cX, cS, cF, cR, rfl⟩ := h.shapes
  clear h hz hlo
  obtain ⟨w1, hw1⟩ : ∃ W : World, W = (w.alloc (.cells #[.slice aW dss.length cW, .slice aP b.plc.length cP, .slice aL b.lst.length cL, .slice aN b.nts.length cN, .slice aX b.nxt.length cX, .slice aS b.sn.length cS, .slice aF b.fr.length cF, .slice aR b.rws.length cR] 29)).alloc (.cells #[nilS, nilS, nilS, nilS, nilS, nilS, nilS, nilS] 29) := ⟨_, rfl⟩
  have K1 : Keep w w1 := by rw [hw1]; exact ((Keep.refl w).alloc _).alloc _
  have s1 : w.heap.size + 1 < w1.heap.size := by rw [hw1, heap_size, heap_size]; omega
  have hB1 : w1.heap[w.heap.size]? = some (.cells #[.slice aW dss.length cW, .slice aP b.plc.length cP, .slice aL b.lst.length cL, .slice aN b.nts.length cN, .slice aX b.nxt.length cX, .slice aS b.sn.length cS, .slice aF b.fr.length cF, .slice aR b.rws.length cR] 29 (0, 0)) := by rw [hw1]; exact box_heap ((Keep.refl _).alloc _)
  have hR1 : w1.heap[w.heap.size + 1]? = some (.cells #[nilS, nilS, nilS, nilS, nilS, nilS, nilS, nilS] 29 (0, 0)) := by rw [hw1, ← heap_size w (.cells #[.slice aW dss.length cW, .slice aP b.plc.length cP, .slice aL b.lst.length cL, .slice aN b.nts.length cN, .slice aX b.nxt.length cX, .slice aS b.sn.length cS, .slice aF b.fr.length cF, .slice aR b.rws.length cR] 29)]; exact heap_alloc_new _ _
  have z0 : w1.cell? ⟨w.heap.size, 0, none⟩ = some (.slice aW dss.length cW) := by rw [cell_of_row w1 _ 0 _ _ _ hB1]; rfl
  have hw2 : IntKind.i64.wrap ((dss.length : Int) - 1) = (dss.length : Int) - 1 := by rw [IntKind.wrap_i64]; omega
  go_enter Try.func8, Try.ntmps8
  go_upto_region 1 with fail
  rw [← hw1]
  clear hw1
  go_wp2_with fail
  refine (isFrom_any _ _ _ _).mono ?_
  rintro e wa ⟨rfl, hwa⟩
  rw [hwa]
  clear hwa
  by_cases hin : ∃ cc : Nat, cc < dss.length ∧ c = (cc : Int)
  · obtain ⟨cc, hcc, rfl⟩ := hin
    have hI : inB (cc : Int) 0 ((dss.length : Int) - 1) = true := by unfold inB; simp; omega
    rw [hI]
    clear hI z0
    go_upto_region 3 with fail
    go_cut [6, 7] from 8 (fun s6 s7 wx => ∃ (yW yP yL yN yX yS yF yR : Option Addr) (ycW ycP ycL ycN ycX ycS ycF ycR Mb : Nat) (D1 : List (List Dd)) (B1 : Bd), s6 = .pointer (some ⟨Mb, 0, none⟩) ∧ s7 = .bool (stpT dss b ((cc : Int))) ∧ D1 = stpD dss b ∧ B1 = stpB dss b ((cc : Int)) ∧ Keep w wx ∧ w1.heap.size ≤ Mb ∧ Mb < wx.heap.size ∧ wx.heap[Mb]? = some (.cells #[.slice yW D1.length ycW, .slice yP B1.plc.length ycP, .slice yL B1.lst.length ycL, .slice yN B1.nts.length ycN, .slice yX B1.nxt.length ycX, .slice yS B1.sn.length ycS, .slice yF B1.fr.length ycF, .slice yR B1.rws.length ycR] 29 (0, 0)) ∧ wx.heap[w.heap.size + 1]? = some (.cells #[nilS, nilS, nilS, nilS, nilS, nilS, nilS, nilS] 29 (0, 0)) ∧ FreeBd wx w1.heap.size Mb ⟨.slice yW D1.length ycW, .slice yP B1.plc.length ycP, .slice yL B1.lst.length ycL, .slice yN B1.nts.length ycN, .slice yX B1.nxt.length ycX, .slice yS B1.sn.length ycS, .slice yF B1.fr.length ycF, .slice yR B1.rws.length ycR⟩ D1 B1)
    case first =>
      have CS := implStepped_any w1 _ dss b ((cc : Int)) (XRB.out.keep K1) XSZ.out
      go_wp2_with (first | refine wpList_load_row rfl 29 _ rfl w.heap.size rfl 29 _ (0, 0) _ hB1 Try.underlying29 rfl board_info ?_ | fail)
      refine CS.mono ?_
      rintro e w2 ⟨bv, rfl, F2, k2⟩
      obtain ⟨yW, yP, yL, yN, yX, yS, yF, yR, ycW, ycP, ycL, ycN, ycX, ycS, ycF, ycR, rfl⟩ := F2.rd.shapes
      obtain ⟨w3, hw3⟩ : ∃ W : World, W = w2.alloc (.cells #[.slice yW (stpD dss b).length ycW, .slice yP (stpB dss b ((cc : Int))).plc.length ycP, .slice yL (stpB dss b ((cc : Int))).lst.length ycL, .slice yN (stpB dss b ((cc : Int))).nts.length ycN, .slice yX (stpB dss b ((cc : Int))).nxt.length ycX, .slice yS (stpB dss b ((cc : Int))).sn.length ycS, .slice yF (stpB dss b ((cc : Int))).fr.length ycF, .slice yR (stpB dss b ((cc : Int))).rws.length ycR] 29) := ⟨_, rfl⟩
      have k3 : Keep w2 w3 := by rw [hw3]; exact (Keep.refl w2).alloc _
      have hM3 : w3.heap[w2.heap.size]? = some (.cells #[.slice yW (stpD dss b).length ycW, .slice yP (stpB dss b ((cc : Int))).plc.length ycP, .slice yL (stpB dss b ((cc : Int))).lst.length ycL, .slice yN (stpB dss b ((cc : Int))).nts.length ycN, .slice yX (stpB dss b ((cc : Int))).nxt.length ycX, .slice yS (stpB dss b ((cc : Int))).sn.length ycS, .slice yF (stpB dss b ((cc : Int))).fr.length ycF, .slice yR (stpB dss b ((cc : Int))).rws.length ycR] 29 (0, 0)) := by rw [hw3]; exact heap_alloc_new _ _
      have s2 := k2.size
      have s3 : w2.heap.size < w3.heap.size := by rw [hw3, heap_size]; omega
      have XK := Lib.hid ((K1.trans k2).trans k3)
      have XR := Lib.hid ((Below.block (k2.trans k3) (w.heap.size + 1) (by omega)).trans hR1)
      have XF := Lib.hid (F2.keep k3)
      have XM := Lib.hid hM3
      clear F2 CS k2 hM3
      go_wp2
      rw [← hw3]
      clear hw3
      go_meet
      case rel => exact ⟨_, _, _, _, _, _, _, _, _, _, _, _, _, _, _, _, _, _, _, rfl, rfl, rfl, rfl, XK.out, s2, s3, XM.out, XR.out, XF.out⟩
    case rest =>
      obtain ⟨yW, yP, yL, yN, yX, yS, yF, yR, ycW, ycP, ycL, ycN, ycX, ycS, ycF, ycR, Mb, D1, B1, rfl, rfl, hD1, hB1', K3, s2, s3, hM3, hR3, XF3'⟩ := hcut
      have XF3 := Lib.hid XF3'
      have XD1 := Lib.hid hD1
      have XB1 := Lib.hid hB1'
      clear XF3' hD1 hB1' hB1 hR1 K1
      cases hT : stpT dss b (cc : Int) with
      | false =>
        have hqt : (boardB dss b && qkT dss b (cc : Int)) = false := by
          unfold stpT at hT
          cases hb : boardB dss b with
          | false => rfl
          | true =>
            rw [hb] at hT
            have d3 : dss.length ≤ 3 := (workB_useR (Shp.of hb).work).1
            cases hcan : canM dss b cc with
            | true => rw [poss_canI d3 hcan hcc] at hT; simp at hT
            | false => unfold qkT; simp [hcan]
        have HT : Hid ((boardB dss b && qkT dss b (cc : Int)) = false) := Lib.hid hqt
        have HD : Hid (qkD dss b = D1) := Lib.hid (by rw [XD1.out]; rfl)
        have HB : Hid (qkB dss b (cc : Int) = B1) := Lib.hid (by
          rw [XB1.out]
          unfold qkB stpB
          cases hb : boardB dss b with
          | false => rfl
          | true =>
            rw [if_pos rfl, if_pos rfl]
            rw [hb] at hqt
            unfold stpT at hT
            rw [hb] at hT
            have q1 : qkT dss b (cc : Int) = false := by simpa using hqt
            have q2 : isB (possM dss b) (cc : Int) = false := by simpa using hT
            unfold qkM stepB
            rw [q1, q2]
            simp only [Bool.false_eq_true, if_false])
        clear hqt hT
        have HG := Lib.hid (grown_row3 wc (w.heap.size + 1) #[.slice yW D1.length ycW, .slice yP B1.plc.length ycP, .slice yL B1.lst.length ycL, .slice yN B1.nts.length ycN, .slice yX B1.nxt.length ycX, .slice yS B1.sn.length ycS, .slice yF B1.fr.length ycF, .slice yR B1.rws.length ycR])
        have HZ := Lib.hid (setRow_heap wc (w.heap.size + 1) _ #[.slice yW D1.length ycW, .slice yP B1.plc.length ycP, .slice yL B1.lst.length ycL, .slice yN B1.nts.length ycN, .slice yX B1.nxt.length ycX, .slice yS B1.sn.length ycS, .slice yF B1.fr.length ycF, .slice yR B1.rws.length ycR] _ _ hR3)
        have HF := Lib.hid (((XF3.out).above (w' := wc.setRow (w.heap.size + 1) #[.slice yW D1.length ycW, .slice yP B1.plc.length ycP, .slice yL B1.lst.length ycL, .slice yN B1.nts.length ycN, .slice yX B1.nxt.length ycX, .slice yS B1.sn.length ycS, .slice yF B1.fr.length ycF, .slice yR B1.rws.length ycR]) (fun q h1 h2 => HG.out.block q h2 (fun e => by have := Option.some.inj e; omega)) HG.out.size).wide (show w.heap.size ≤ _ by omega) (Nat.le_trans (by omega) HG.out.size))
        have HKK := Lib.hid ((K3).grown HG.out (fun q hq => by have := Option.some.inj hq; omega))
        go_wp2_with (first | refine wpList_load_row rfl 29 _ rfl Mb rfl 29 _ (0, 0) _ hM3 Try.underlying29 rfl board_info ?_ | refine wpList_store_row rfl 29 _ _ rfl (w.heap.size + 1) _ rfl rfl 29 _ hR3 board_info rfl (by simp [Value.oneCell']) ?_ | fail)
        refine bodyPost_ret (results_row_tmp (by rfl) _ _ (w.heap.size + 1) _ _ (0, 0) _ (.bool false) rfl HZ.out rfl Try.underlying29 rfl board_info) rfl ?_
        exact ⟨⟨.slice yW D1.length ycW, .slice yP B1.plc.length ycP, .slice yL B1.lst.length ycL, .slice yN B1.nts.length ycN, .slice yX B1.nxt.length ycX, .slice yS B1.sn.length ycS, .slice yF B1.fr.length ycF, .slice yR B1.rws.length ycR⟩, by rw [HT.out], by rw [HD.out, HB.out]; exact HF.out, HKK.out⟩
      | true =>
        have hb : boardB dss b = true := by unfold stpT at hT; simp at hT; exact hT.1
        have d3 : dss.length ≤ 3 := (workB_useR (Shp.of hb).work).1
        have hcan : canM dss b cc = true := by
          cases hcan : canM dss b cc with
          | true => rfl
          | false =>
            unfold stpT at hT
            rw [poss_noI (fun d hd e => by obtain rfl : d = cc := by omega
                                           exact hcan) (fun d hd e => by omega)] at hT
            simp at hT
        have hpo := poss_canI d3 hcan hcc
        have eD1 : dss = D1 := by rw [XD1.out]; unfold stpD; rw [if_pos hb]
        subst eD1
        have eB1 : B1 = stepM dss (eventsB dss) b (cc : Int) := by rw [XB1.out]; unfold stpB stepB; rw [if_pos hb, if_pos hpo]
        have hb1 : boardB dss B1 = true := by rw [eB1]; exact step_board hb XLO.out.1 XLO.out.2 hcc hcan
        have HT : Hid ((boardB dss b && qkT dss b (cc : Int)) = true) := Lib.hid (by unfold qkT; simp [hb, hcan]; omega)
        have HD : Hid (qkD dss b = dss) := Lib.hid (by unfold qkD; rw [if_pos hb])
        have HQ : Hid (qkB dss b (cc : Int) = if (B1.nts.getD cc []).isEmpty = true then B1 else stepM dss (eventsB dss) B1 (10 + (cc : Int))) := Lib.hid (by
          unfold qkB qkM
          rw [if_pos hb, if_pos (by unfold qkT; simp [hcan]; omega)]
          unfold quickM
          rw [eB1]
          simp only [Int.toNat_natCast])
        have XF4 := XF3.out
        have lnt : cc < B1.nts.length := by rw [(Shp.of hb1).nts]; exact hcc
        have rd4 : RdBd wc ⟨.slice yW dss.length ycW, .slice yP B1.plc.length ycP, .slice yL B1.lst.length ycL, .slice yN B1.nts.length ycN, .slice yX B1.nxt.length ycX, .slice yS B1.sn.length ycS, .slice yF B1.fr.length ycF, .slice yR B1.rws.length ycR⟩ dss B1 := XF4.rd
        have CH := hasNotes_any wc _ dss B1 cc rd4 lnt
        have XF5 := Lib.hid XF4
        have XRD := Lib.hid rd4
        have HB1 := Lib.hid hb1
        clear hpo eB1 hb1 hT XF4 rd4 XF3
        have z0 : wc.cell? ⟨Mb, 0, none⟩ = some (.slice yW dss.length ycW) := by rw [cell_of_row wc _ 0 _ _ _ hM3]; rfl
        have z1 : wc.cell? ⟨Mb, 1, none⟩ = some (.slice yP B1.plc.length ycP) := by rw [cell_of_row wc _ 1 _ _ _ hM3]; rfl
        have z2 : wc.cell? ⟨Mb, 2, none⟩ = some (.slice yL B1.lst.length ycL) := by rw [cell_of_row wc _ 2 _ _ _ hM3]; rfl
        have z3 : wc.cell? ⟨Mb, 3, none⟩ = some (.slice yN B1.nts.length ycN) := by rw [cell_of_row wc _ 3 _ _ _ hM3]; rfl
        have z4 : wc.cell? ⟨Mb, 4, none⟩ = some (.slice yX B1.nxt.length ycX) := by rw [cell_of_row wc _ 4 _ _ _ hM3]; rfl
        have z5 : wc.cell? ⟨Mb, 5, none⟩ = some (.slice yS B1.sn.length ycS) := by rw [cell_of_row wc _ 5 _ _ _ hM3]; rfl
        have z6 : wc.cell? ⟨Mb, 6, none⟩ = some (.slice yF B1.fr.length ycF) := by rw [cell_of_row wc _ 6 _ _ _ hM3]; rfl
        have z7 : wc.cell? ⟨Mb, 7, none⟩ = some (.slice yR B1.rws.length ycR) := by rw [cell_of_row wc _ 7 _ _ _ hM3]; rfl
        go_wp2_with fail
        refine CH.mono ?_
        rintro e w4 ⟨rfl, k4⟩
        have s4 := k4.size
        have hM4 := (Below.block k4 Mb s3).trans hM3
        have hR4 := (Below.block k4 (w.heap.size + 1) (by omega)).trans hR3
        have K4 := K3.trans k4
        clear z0 z1 z2 z3 z4 z5 z6 z7 CH hM3 hR3
        cases hN : decide (0 < (B1.nts.getD cc []).length) with
        | false =>
          have HB : Hid (qkB dss b (cc : Int) = B1) := Lib.hid (by
            rw [HQ.out, if_pos]
            cases e : B1.nts.getD cc [] with
            | nil => rfl
            | cons x r => rw [e] at hN; simp at hN)
          have HD : Hid (qkD dss b = dss) := HD
          have FX := XF5.out.keep k4
          clear hN
          have HG := Lib.hid (grown_row3 w4 (w.heap.size + 1) #[.slice yW dss.length ycW, .slice yP B1.plc.length ycP, .slice yL B1.lst.length ycL, .slice yN B1.nts.length ycN, .slice yX B1.nxt.length ycX, .slice yS B1.sn.length ycS, .slice yF B1.fr.length ycF, .slice yR B1.rws.length ycR])
          have HZ := Lib.hid (setRow_heap w4 (w.heap.size + 1) _ #[.slice yW dss.length ycW, .slice yP B1.plc.length ycP, .slice yL B1.lst.length ycL, .slice yN B1.nts.length ycN, .slice yX B1.nxt.length ycX, .slice yS B1.sn.length ycS, .slice yF B1.fr.length ycF, .slice yR B1.rws.length ycR] _ _ hR4)
          have HF := Lib.hid (((FX).above (w' := w4.setRow (w.heap.size + 1) #[.slice yW dss.length ycW, .slice yP B1.plc.length ycP, .slice yL B1.lst.length ycL, .slice yN B1.nts.length ycN, .slice yX B1.nxt.length ycX, .slice yS B1.sn.length ycS, .slice yF B1.fr.length ycF, .slice yR B1.rws.length ycR]) (fun q h1 h2 => HG.out.block q h2 (fun e => by have := Option.some.inj e; omega)) HG.out.size).wide (show w.heap.size ≤ _ by omega) (Nat.le_trans (by omega) HG.out.size))
          have HKK := Lib.hid ((K4).grown HG.out (fun q hq => by have := Option.some.inj hq; omega))
          go_wp2_with (first | refine wpList_load_row rfl 29 _ rfl Mb rfl 29 _ (0, 0) _ hM4 Try.underlying29 rfl board_info ?_ | refine wpList_store_row rfl 29 _ _ rfl (w.heap.size + 1) _ rfl rfl 29 _ hR4 board_info rfl (by simp [Value.oneCell']) ?_ | fail)
          refine bodyPost_ret (results_row_tmp (by rfl) _ _ (w.heap.size + 1) _ _ (0, 0) _ (.bool true) rfl HZ.out rfl Try.underlying29 rfl board_info) rfl ?_
          exact ⟨⟨.slice yW dss.length ycW, .slice yP B1.plc.length ycP, .slice yL B1.lst.length ycL, .slice yN B1.nts.length ycN, .slice yX B1.nxt.length ycX, .slice yS B1.sn.length ycS, .slice yF B1.fr.length ycF, .slice yR B1.rws.length ycR⟩, by rw [HT.out], by rw [HD.out, HB.out]; exact HF.out, HKK.out⟩
        | true =>
          have hw10 : IntKind.i64.wrap (10 + (cc : Int)) = 10 + (cc : Int) := by rw [IntKind.wrap_i64]; omega
          have HB : Hid (qkB dss b (cc : Int) = stpB dss B1 (10 + (cc : Int))) := Lib.hid (by
            rw [HQ.out, if_neg]
            · unfold stpB stepB
              rw [if_pos HB1.out, poss_noteI hN hcc, if_pos rfl]
            · intro q
              cases e : B1.nts.getD cc [] with
              | nil => rw [e] at hN; simp at hN
              | cons x r => rw [e] at q; simp at q)
          have HE : Hid (stpD dss B1 = dss) := Lib.hid (by unfold stpD; rw [if_pos HB1.out])
          have CS := implStepped_any w4 _ dss B1 (10 + (cc : Int)) (XRD.out.keep k4) ((Shp.of HB1.out).sz (by omega))
          clear hN
          go_wp2_with (first | refine wpList_load_row rfl 29 _ rfl Mb rfl 29 _ (0, 0) _ hM4 Try.underlying29 rfl board_info ?_ | fail)
          refine CS.mono ?_
          rintro e w5 ⟨bv5, rfl, F5, k5⟩
          rw [HE.out] at F5
          obtain ⟨B2, hB2⟩ : ∃ B2, B2 = stpB dss B1 (10 + (cc : Int)) := ⟨_, rfl⟩
          rw [← hB2] at F5
          replace HB : Hid (qkB dss b (cc : Int) = B2) := Lib.hid (by rw [HB.out, hB2])
          obtain ⟨zW, zP, zL, zN, zX, zS, zF, zR, zcW, zcP, zcL, zcN, zcX, zcS, zcF, zcR, rfl⟩ := F5.rd.shapes
          have s5 := k5.size
          have hR5 := (Below.block k5 (w.heap.size + 1) (by omega)).trans hR4
          have hM5 := (Below.block k5 Mb (by omega)).trans hM4
          have G6 := grown_row3 w5 Mb #[.slice zW dss.length zcW, .slice zP B2.plc.length zcP, .slice zL B2.lst.length zcL, .slice zN B2.nts.length zcN, .slice zX B2.nxt.length zcX, .slice zS B2.sn.length zcS, .slice zF B2.fr.length zcF, .slice zR B2.rws.length zcR]
          have hM6 := setRow_heap w5 Mb _ #[.slice zW dss.length zcW, .slice zP B2.plc.length zcP, .slice zL B2.lst.length zcL, .slice zN B2.nts.length zcN, .slice zX B2.nxt.length zcX, .slice zS B2.sn.length zcS, .slice zF B2.fr.length zcF, .slice zR B2.rws.length zcR] _ _ hM5
          have F6 := F5.above (w' := w5.setRow Mb #[.slice zW dss.length zcW, .slice zP B2.plc.length zcP, .slice zL B2.lst.length zcL, .slice zN B2.nts.length zcN, .slice zX B2.nxt.length zcX, .slice zS B2.sn.length zcS, .slice zF B2.fr.length zcF, .slice zR B2.rws.length zcR]) (fun q h1 h2 => G6.block q h2 (fun e => by have := Option.some.inj e; omega)) G6.size
          have K6 := (K4.trans k5).grown G6 (fun q hq => by have := Option.some.inj hq; omega)
          have hR6 := (G6.block (w.heap.size + 1) (by omega) (fun e => by have := Option.some.inj e; omega)).trans hR5
          have s6 := G6.size
          obtain ⟨w6, hw6⟩ : ∃ W : World, W = w5.setRow Mb #[.slice zW dss.length zcW, .slice zP B2.plc.length zcP, .slice zL B2.lst.length zcL, .slice zN B2.nts.length zcN, .slice zX B2.nxt.length zcX, .slice zS B2.sn.length zcS, .slice zF B2.fr.length zcF, .slice zR B2.rws.length zcR] := ⟨_, rfl⟩
          rw [← hw6] at hM6 F6 K6 hR6 s6
          clear F5 hB2 CS G6 hM4 hR4 hR5
          go_upto_region 6 with (first | refine wpList_store_row rfl 29 _ _ rfl Mb _ rfl rfl 29 _ hM5 board_info rfl (by simp [Value.oneCell']) ?_ | fail)
          rw [← hw6]
          clear hw6 hM5
          have HG := Lib.hid (grown_row3 w6 (w.heap.size + 1) #[.slice zW dss.length zcW, .slice zP B2.plc.length zcP, .slice zL B2.lst.length zcL, .slice zN B2.nts.length zcN, .slice zX B2.nxt.length zcX, .slice zS B2.sn.length zcS, .slice zF B2.fr.length zcF, .slice zR B2.rws.length zcR])
          have HZ := Lib.hid (setRow_heap w6 (w.heap.size + 1) _ #[.slice zW dss.length zcW, .slice zP B2.plc.length zcP, .slice zL B2.lst.length zcL, .slice zN B2.nts.length zcN, .slice zX B2.nxt.length zcX, .slice zS B2.sn.length zcS, .slice zF B2.fr.length zcF, .slice zR B2.rws.length zcR] _ _ hR6)
          have HF := Lib.hid (((F6).above (w' := w6.setRow (w.heap.size + 1) #[.slice zW dss.length zcW, .slice zP B2.plc.length zcP, .slice zL B2.lst.length zcL, .slice zN B2.nts.length zcN, .slice zX B2.nxt.length zcX, .slice zS B2.sn.length zcS, .slice zF B2.fr.length zcF, .slice zR B2.rws.length zcR]) (fun q h1 h2 => HG.out.block q h2 (fun e => by have := Option.some.inj e; omega)) HG.out.size).wide (show w.heap.size ≤ _ by omega) (Nat.le_trans (by omega) HG.out.size))
          have HKK := Lib.hid ((K6).grown HG.out (fun q hq => by have := Option.some.inj hq; omega))
          go_wp2_with (first | refine wpList_load_row rfl 29 _ rfl Mb rfl 29 _ (0, 0) _ hM6 Try.underlying29 rfl board_info ?_ | refine wpList_store_row rfl 29 _ _ rfl (w.heap.size + 1) _ rfl rfl 29 _ hR6 board_info rfl (by simp [Value.oneCell']) ?_ | fail)
          refine bodyPost_ret (results_row_tmp (by rfl) _ _ (w.heap.size + 1) _ _ (0, 0) _ (.bool true) rfl HZ.out rfl Try.underlying29 rfl board_info) rfl ?_
          exact ⟨⟨.slice zW dss.length zcW, .slice zP B2.plc.length zcP, .slice zL B2.lst.length zcL, .slice zN B2.nts.length zcN, .slice zX B2.nxt.length zcX, .slice zS B2.sn.length zcS, .slice zF B2.fr.length zcF, .slice zR B2.rws.length zcR⟩, by rw [HT.out], by rw [HD.out, HB.out]; exact HF.out, HKK.out⟩
  · have hI : inB c 0 ((dss.length : Int) - 1) = false := by
      unfold inB
      rw [decide_eq_false]
      rintro ⟨h1, h2⟩
      exact hin ⟨c.toNat, by omega, by omega⟩
    rw [hI]
    clear hI z0
    have hq0 : qkT dss b c = false := by
      unfold qkT
      by_cases h1 : 0 ≤ c
      · rw [decide_eq_false (show ¬ c < (dss.length : Int) from fun h2 => hin ⟨c.toNat, by omega, by omega⟩)]; simp
      · rw [decide_eq_false h1]; rfl
    have hno : isB (possM dss b) (-1) = false := poss_noI (fun d hd e => by omega) (fun d hd e => by omega)
    go_upto_region 3 with fail
    go_cut [6, 7] from 8 (fun s6 s7 wx => ∃ (yW yP yL yN yX yS yF yR : Option Addr) (ycW ycP ycL ycN ycX ycS ycF ycR Mb : Nat) (D1 : List (List Dd)) (B1 : Bd), s6 = .pointer (some ⟨Mb, 0, none⟩) ∧ s7 = .bool (stpT dss b (-1)) ∧ D1 = stpD dss b ∧ B1 = stpB dss b (-1) ∧ Keep w wx ∧ w1.heap.size ≤ Mb ∧ Mb < wx.heap.size ∧ wx.heap[Mb]? = some (.cells #[.slice yW D1.length ycW, .slice yP B1.plc.length ycP, .slice yL B1.lst.length ycL, .slice yN B1.nts.length ycN, .slice yX B1.nxt.length ycX, .slice yS B1.sn.length ycS, .slice yF B1.fr.length ycF, .slice yR B1.rws.length ycR] 29 (0, 0)) ∧ wx.heap[w.heap.size + 1]? = some (.cells #[nilS, nilS, nilS, nilS, nilS, nilS, nilS, nilS] 29 (0, 0)) ∧ FreeBd wx w1.heap.size Mb ⟨.slice yW D1.length ycW, .slice yP B1.plc.length ycP, .slice yL B1.lst.length ycL, .slice yN B1.nts.length ycN, .slice yX B1.nxt.length ycX, .slice yS B1.sn.length ycS, .slice yF B1.fr.length ycF, .slice yR B1.rws.length ycR⟩ D1 B1)
    case first =>
      have CS := implStepped_any w1 _ dss b (-1) (XRB.out.keep K1) XSZ.out
      go_wp2_with (first | refine wpList_load_row rfl 29 _ rfl w.heap.size rfl 29 _ (0, 0) _ hB1 Try.underlying29 rfl board_info ?_ | fail)
      refine CS.mono ?_
      rintro e w2 ⟨bv, rfl, F2, k2⟩
      obtain ⟨yW, yP, yL, yN, yX, yS, yF, yR, ycW, ycP, ycL, ycN, ycX, ycS, ycF, ycR, rfl⟩ := F2.rd.shapes
      obtain ⟨w3, hw3⟩ : ∃ W : World, W = w2.alloc (.cells #[.slice yW (stpD dss b).length ycW, .slice yP (stpB dss b (-1)).plc.length ycP, .slice yL (stpB dss b (-1)).lst.length ycL, .slice yN (stpB dss b (-1)).nts.length ycN, .slice yX (stpB dss b (-1)).nxt.length ycX, .slice yS (stpB dss b (-1)).sn.length ycS, .slice yF (stpB dss b (-1)).fr.length ycF, .slice yR (stpB dss b (-1)).rws.length ycR] 29) := ⟨_, rfl⟩
      have k3 : Keep w2 w3 := by rw [hw3]; exact (Keep.refl w2).alloc _
      have hM3 : w3.heap[w2.heap.size]? = some (.cells #[.slice yW (stpD dss b).length ycW, .slice yP (stpB dss b (-1)).plc.length ycP, .slice yL (stpB dss b (-1)).lst.length ycL, .slice yN (stpB dss b (-1)).nts.length ycN, .slice yX (stpB dss b (-1)).nxt.length ycX, .slice yS (stpB dss b (-1)).sn.length ycS, .slice yF (stpB dss b (-1)).fr.length ycF, .slice yR (stpB dss b (-1)).rws.length ycR] 29 (0, 0)) := by rw [hw3]; exact heap_alloc_new _ _
      have s2 := k2.size
      have s3 : w2.heap.size < w3.heap.size := by rw [hw3, heap_size]; omega
      have XK := Lib.hid ((K1.trans k2).trans k3)
      have XR := Lib.hid ((Below.block (k2.trans k3) (w.heap.size + 1) (by omega)).trans hR1)
      have XF := Lib.hid (F2.keep k3)
      have XM := Lib.hid hM3
      clear F2 CS k2 hM3
      go_wp2
      rw [← hw3]
      clear hw3
      go_meet
      case rel => exact ⟨_, _, _, _, _, _, _, _, _, _, _, _, _, _, _, _, _, _, _, rfl, rfl, rfl, rfl, XK.out, s2, s3, XM.out, XR.out, XF.out⟩
    case rest =>
      obtain ⟨yW, yP, yL, yN, yX, yS, yF, yR, ycW, ycP, ycL, ycN, ycX, ycS, ycF, ycR, Mb, D1, B1, rfl, rfl, hD1, hB1', K3, s2, s3, hM3, hR3, XF3'⟩ := hcut
      have XF3 := Lib.hid XF3'
      have XD1 := Lib.hid hD1
      have XB1 := Lib.hid hB1'
      clear XF3' hD1 hB1' hB1 hR1 K1
      have HS : Hid (stpT dss b (-1) = false) := Lib.hid (by unfold stpT; rw [hno]; simp)
      rw [HS.out]
      have HT : Hid ((boardB dss b && qkT dss b c) = false) := Lib.hid (by rw [hq0]; simp)
      have HD : Hid (qkD dss b = D1) := Lib.hid (by rw [XD1.out]; rfl)
      have HB : Hid (qkB dss b c = B1) := Lib.hid (by
        rw [XB1.out]
        unfold qkB stpB qkM stepB
        rw [hq0, hno]
        simp only [Bool.false_eq_true, if_false])
      clear hq0 hno hin
      have HG := Lib.hid (grown_row3 wc (w.heap.size + 1) #[.slice yW D1.length ycW, .slice yP B1.plc.length ycP, .slice yL B1.lst.length ycL, .slice yN B1.nts.length ycN, .slice yX B1.nxt.length ycX, .slice yS B1.sn.length ycS, .slice yF B1.fr.length ycF, .slice yR B1.rws.length ycR])
      have HZ := Lib.hid (setRow_heap wc (w.heap.size + 1) _ #[.slice yW D1.length ycW, .slice yP B1.plc.length ycP, .slice yL B1.lst.length ycL, .slice yN B1.nts.length ycN, .slice yX B1.nxt.length ycX, .slice yS B1.sn.length ycS, .slice yF B1.fr.length ycF, .slice yR B1.rws.length ycR] _ _ hR3)
      have HF := Lib.hid (((XF3.out).above (w' := wc.setRow (w.heap.size + 1) #[.slice yW D1.length ycW, .slice yP B1.plc.length ycP, .slice yL B1.lst.length ycL, .slice yN B1.nts.length ycN, .slice yX B1.nxt.length ycX, .slice yS B1.sn.length ycS, .slice yF B1.fr.length ycF, .slice yR B1.rws.length ycR]) (fun q h1 h2 => HG.out.block q h2 (fun e => by have := Option.some.inj e; omega)) HG.out.size).wide (show w.heap.size ≤ _ by omega) (Nat.le_trans (by omega) HG.out.size))
      have HKK := Lib.hid ((K3).grown HG.out (fun q hq => by have := Option.some.inj hq; omega))
      go_wp2_with (first | refine wpList_load_row rfl 29 _ rfl Mb rfl 29 _ (0, 0) _ hM3 Try.underlying29 rfl board_info ?_ | refine wpList_store_row rfl 29 _ _ rfl (w.heap.size + 1) _ rfl rfl 29 _ hR3 board_info rfl (by simp [Value.oneCell']) ?_ | fail)
      refine bodyPost_ret (results_row_tmp (by rfl) _ _ (w.heap.size + 1) _ _ (0, 0) _ (.bool false) rfl HZ.out rfl Try.underlying29 rfl board_info) rfl ?_
      exact ⟨⟨.slice yW D1.length ycW, .slice yP B1.plc.length ycP, .slice yL B1.lst.length ycL, .slice yN B1.nts.length ycN, .slice yX B1.nxt.length ycX, .slice yS B1.sn.length ycS, .slice yF B1.fr.length ycF, .slice yR B1.rws.length ycR⟩, by rw [HT.out], by rw [HD.out, HB.out]; exact HF.out, HKK.out⟩
end Go.Proofs.Ytgakfkjjkobpiaa
