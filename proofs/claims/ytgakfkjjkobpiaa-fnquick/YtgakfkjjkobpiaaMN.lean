/- Gathered texts. -/
import Derived.Test.YtgakfkjjkobpiaaMM
import Derived.Deep.QuietTactic
import Derived.BigQuiet
import Derived.Deep.Cut
import Derived.Lib.Hide
import Derived.Test.YtgakfkjjkobpiaaMK
set_option maxRecDepth 100000
set_option maxHeartbeats 8000000
namespace Go.Proofs.Ytgakfkjjkobpiaa
open Go.ChangeShapes Go.WideShapes Go.ChangeAt Go.RowKit
theorem specBoardOk_any (w : World) (v : BV) (dss : List (List Dd)) (b : Bd) (h : RdBd w v dss b) (hz : SzBd dss b) :
    Calls Try.prog 11 #[v.agg] w fun e w' => e = .returned (.bool (boardB dss b)) ∧ Keep w w' := by
  obtain ⟨aW, aP, aL, aN, aX, aS, aF, aR, cW, cP, cL, cN, cX, cS, cF, cR, rfl⟩ := h.shapes
  have HZ := Lib.hid hz
  have HH := Lib.hid h
  have HB : Hid (boardB dss b = (shapeB dss b && (fillB ((eventsB dss).length : Int) (idxB rdE (eventsB dss)).length b && (rowsBd ((eventsB dss).length : Int) b && (List.range dss.length).all (fun i => ckB dss ((eventsB dss).length : Int) b i))))) := Lib.hid rfl
  have CW := fun (W : World) (kW : Keep w W) => specWorkOk_any W _ dss (h.W.keep kW) hz.w1 hz.w2
  clear h hz
  go_enter Try.func11, Try.ntmps11
  go_wp2_with fail
  refine (CW _ ((Keep.refl w).alloc _)).mono ?_
  rintro e w1 ⟨rfl, k1⟩
  have K1 := ((Keep.refl w).alloc _).trans k1
  have c0 := box_cell k1 0
  have c1 := box_cell k1 1
  have c2 := box_cell k1 2
  have c3 := box_cell k1 3
  have c4 := box_cell k1 4
  have c5 := box_cell k1 5
  have c6 := box_cell k1 6
  have c7 := box_cell k1 7
  simp at c0 c1 c2 c3 c4 c5 c6 c7
  have z1 := box_size k1
  clear CW
  cases hb : workB dss
  · have HE : Hid (boardB dss b = false) := Lib.hid (by rw [HB.out, shapeB, hb]; rfl)
    go_wp2
    go_ret
    exact ⟨by rw [HE.out]; rfl, K1⟩
  by_cases qP : b.plc.length = 3
  rotate_left
  · have HE : Hid (boardB dss b = false) := Lib.hid (by rw [HB.out, shapeB, decide_eq_false qP]; simp)
    have tP : ((b.plc.length : Int) != (3 : Int)) = true := by simp; omega
    clear qP
    go_wp2
    go_ret
    exact ⟨by rw [HE.out]; rfl, K1⟩
  have tP : ((b.plc.length : Int) != (3 : Int)) = false := by simp [qP]
  have QP := Lib.hid qP
  clear qP
  by_cases qL : b.lst.length = 3
  rotate_left
  · have HE : Hid (boardB dss b = false) := Lib.hid (by rw [HB.out, shapeB, decide_eq_false qL]; simp)
    have tL : ((b.lst.length : Int) != (3 : Int)) = true := by simp; omega
    clear qL
    go_wp2
    go_ret
    exact ⟨by rw [HE.out]; rfl, K1⟩
  have tL : ((b.lst.length : Int) != (3 : Int)) = false := by simp [qL]
  have QL := Lib.hid qL
  clear qL
  by_cases qR : b.rws.length = 3
  rotate_left
  · have HE : Hid (boardB dss b = false) := Lib.hid (by rw [HB.out, shapeB, decide_eq_false qR]; simp)
    have tR : ((b.rws.length : Int) != (3 : Int)) = true := by simp; omega
    clear qR
    go_wp2
    go_ret
    exact ⟨by rw [HE.out]; rfl, K1⟩
  have tR : ((b.rws.length : Int) != (3 : Int)) = false := by simp [qR]
  have QR := Lib.hid qR
  clear qR
  by_cases qN : b.nts.length = dss.length
  rotate_left
  · have HE : Hid (boardB dss b = false) := Lib.hid (by rw [HB.out, shapeB, decide_eq_false qN]; simp)
    have tN : ((b.nts.length : Int) != (dss.length : Int)) = true := by simp; omega
    clear qN
    go_wp2
    go_ret
    exact ⟨by rw [HE.out]; rfl, K1⟩
  have tN : ((b.nts.length : Int) != (dss.length : Int)) = false := by simp [qN]
  have QN := Lib.hid qN
  clear qN
  by_cases qX : b.nxt.length = dss.length
  rotate_left
  · have HE : Hid (boardB dss b = false) := Lib.hid (by rw [HB.out, shapeB, decide_eq_false qX]; simp)
    have tX : ((b.nxt.length : Int) != (dss.length : Int)) = true := by simp; omega
    clear qX
    go_wp2
    go_ret
    exact ⟨by rw [HE.out]; rfl, K1⟩
  have tX : ((b.nxt.length : Int) != (dss.length : Int)) = false := by simp [qX]
  have QX := Lib.hid qX
  clear qX
  have HB2 : Hid (boardB dss b = (fillB ((evsW dss dss.length).length : Int) (idxB rdE (evsW dss dss.length)).length b && (rowsBd ((evsW dss dss.length).length : Int) b && (List.range dss.length).all (fun i => ckB dss ((evsW dss dss.length).length : Int) b i)))) := Lib.hid (by
    have e1 : eventsB dss = evsW dss dss.length := by rw [eventsB, if_pos hb]
    rw [HB.out, shapeB, hb, decide_eq_true QP.out, decide_eq_true QL.out, decide_eq_true QR.out, decide_eq_true QN.out, decide_eq_true QX.out, e1]; rfl)
  obtain ⟨u1, u2⟩ := workB_useR hb
  have L9 := evsW_9 hb
  clear HB
  go_wp2_with fail
  refine (l6Events_any _ _ dss (HH.out.W.keep K1) u1 u2).mono ?_
  rintro e w2 ⟨ve, rfl, ae, k2⟩
  have re := ae.rd
  generalize evsW dss dss.length = es at *
  obtain ⟨aE, cE', rfl, -⟩ := id re
  have K2 := K1.trans k2
  go_wp2_with fail
  refine (specReadsOf_any _ _ es re (by omega)).mono ?_
  rintro e w3 ⟨vr, rfl, or3, k3⟩
  have K3 := K2.trans k3
  have hrl : (idxB rdE es).length ≤ 12 := by
    unfold idxB
    rw [if_pos (by omega)]
    have := idxK_len rdE es es.length
    omega
  obtain ⟨ar, cr, rfl, -⟩ := id or3.rd
  generalize (idxB rdE es).length = rn at *
  have k13 := k2.trans k3
  replace c0 := (k13.cell z1).trans c0
  replace c1 := (k13.cell z1).trans c1
  replace c2 := (k13.cell z1).trans c2
  replace c3 := (k13.cell z1).trans c3
  replace c4 := (k13.cell z1).trans c4
  replace c5 := (k13.cell z1).trans c5
  replace c6 := (k13.cell z1).trans c6
  replace c7 := (k13.cell z1).trans c7
  replace z1 := Nat.lt_of_lt_of_le z1 k13.size
  clear k1 k2 k3 k13 K1 K2 ae re or3 tP tL tR tN tX
  by_cases qS : b.sn.length = rn
  rotate_left
  · have HE : Hid (boardB dss b = false) := Lib.hid (by rw [HB2.out, fillB, decide_eq_false qS]; simp)
    have tS : ((b.sn.length : Int) != (rn : Int)) = true := by simp; omega
    clear qS
    go_wp2
    go_ret
    exact ⟨by rw [HE.out]; rfl, K3⟩
  have tS : ((b.sn.length : Int) != (rn : Int)) = false := by simp [qS]
  have QS := Lib.hid qS
  clear qS
  by_cases qF : b.fr.length = rn
  rotate_left
  · have HE : Hid (boardB dss b = false) := Lib.hid (by rw [HB2.out, fillB, decide_eq_false qF]; simp)
    have tF : ((b.fr.length : Int) != (rn : Int)) = true := by simp; omega
    clear qF
    go_wp2
    go_ret
    exact ⟨by rw [HE.out]; rfl, K3⟩
  have tF : ((b.fr.length : Int) != (rn : Int)) = false := by simp [qF]
  have QF := Lib.hid qF
  clear qF
  have i1 : IntKind.i64.wrap ((es.length : Int) - 1) = (es.length : Int) - 1 := by rw [IntKind.wrap_i64]; omega
  have CP := l14All_any _ _ b.plc 0 9 3 (HH.out.P.keep K3) HZ.out.plc
  have CL := l14All_any _ _ b.lst 0 ((es.length : Int) - 1) 3 (HH.out.L.keep K3) HZ.out.lst
  have CS := l14All_any _ _ b.sn (-1) 9 12 (HH.out.S.keep K3) HZ.out.sn
  have CF := l14All_any _ _ b.fr (-1) ((es.length : Int) - 1) 12 (HH.out.F.keep K3) HZ.out.fr
  cases qP : allB b.plc 0 9 3
  · have HE : Hid (boardB dss b = false) := Lib.hid (by rw [HB2.out, fillB, qP]; simp)
    rw [qP] at CP
    go_wp2_with fail
    refine CP.mono ?_
    rintro e w4 ⟨rfl, rfl⟩
    go_wp2
    go_ret
    exact ⟨by rw [HE.out]; rfl, K3⟩
  rw [qP] at CP
  cases qL : allB b.lst 0 ((es.length : Int) - 1) 3
  · have HE : Hid (boardB dss b = false) := Lib.hid (by rw [HB2.out, fillB, qL]; simp)
    rw [qL] at CL
    go_wp2_with fail
    refine CP.mono ?_
    rintro e w4 ⟨rfl, rfl⟩
    go_wp2_with fail
    refine CL.mono ?_
    rintro e w5 ⟨rfl, rfl⟩
    go_wp2
    go_ret
    exact ⟨by rw [HE.out]; rfl, K3⟩
  rw [qL] at CL
  cases qS : allB b.sn (-1) 9 12
  · have HE : Hid (boardB dss b = false) := Lib.hid (by rw [HB2.out, fillB, qS]; simp)
    rw [qS] at CS
    go_wp2_with fail
    refine CP.mono ?_
    rintro e w4 ⟨rfl, rfl⟩
    go_wp2_with fail
    refine CL.mono ?_
    rintro e w5 ⟨rfl, rfl⟩
    go_wp2_with fail
    refine CS.mono ?_
    rintro e w6 ⟨rfl, rfl⟩
    go_wp2
    go_ret
    exact ⟨by rw [HE.out]; rfl, K3⟩
  rw [qS] at CS
  cases qF : allB b.fr (-1) ((es.length : Int) - 1) 12
  · have HE : Hid (boardB dss b = false) := Lib.hid (by rw [HB2.out, fillB, qF]; simp)
    rw [qF] at CF
    go_wp2_with fail
    refine CP.mono ?_
    rintro e w4 ⟨rfl, rfl⟩
    go_wp2_with fail
    refine CL.mono ?_
    rintro e w5 ⟨rfl, rfl⟩
    go_wp2_with fail
    refine CS.mono ?_
    rintro e w6 ⟨rfl, rfl⟩
    go_wp2_with fail
    refine CF.mono ?_
    rintro e w7 ⟨rfl, rfl⟩
    go_wp2
    go_ret
    exact ⟨by rw [HE.out]; rfl, K3⟩
  rw [qF] at CF
  have HB3 : Hid (boardB dss b = (rowsBd (es.length : Int) b && (List.range dss.length).all (fun i => ckB dss (es.length : Int) b i))) := Lib.hid (by rw [HB2.out, fillB, decide_eq_true QS.out, decide_eq_true QF.out, qP, qL, qS, qF]; rfl)
  clear HB2
  go_wp2_with fail
  refine CP.mono ?_
  rintro e w4 ⟨rfl, rfl⟩
  go_wp2_with fail
  refine CL.mono ?_
  rintro e w5 ⟨rfl, rfl⟩
  go_wp2_with fail
  refine CS.mono ?_
  rintro e w6 ⟨rfl, rfl⟩
  go_wp2_with fail
  refine CF.mono ?_
  rintro e w7 ⟨rfl, rfl⟩
  clear CP CL CS CF qP qL qS qF tS tF
  go_wp2
  go_loop [6] (fun i => ∃ k : Nat, k ≤ 3 ∧ i = .int .i64 k ∧ Hid (∀ j, j < k → allB (b.rws.getD j []) 0 ((es.length : Int) - 1) 20 = true)) (fun i => 3 - (intOf i).toNat)
  case atStart => exact ⟨0, Nat.zero_le _, rfl, Lib.hid (fun j hj => absurd hj (Nat.not_lt_zero _))⟩
  case round =>
    obtain ⟨k, hk, rfl, hno⟩ := hrel
    by_cases hlt : k < 3
    · obtain ⟨a', c', he', hR⟩ := HH.out.R.keep K3
      simp only [Value.slice.injEq, true_and] at he'
      obtain ⟨rfl, rfl⟩ := he'
      rcases hR with h0 | ⟨bb, o, rfl, hbb, hc⟩
      · exfalso; have := QR.out; rw [h0] at this; simp at this
      obtain ⟨vi, d1, r1⟩ := hc k (by rw [QR.out]; exact hlt)
      have CA := l14All_any _ _ (b.rws.getD k []) 0 ((es.length : Int) - 1) 20 r1 (HZ.out.r2 k (by rw [QR.out]; exact hlt))
      obtain ⟨ai, ci, hvi, -⟩ := id r1
      have j1 : (0 : Int) ≤ (k : Int) := Int.natCast_nonneg _
      have j2 : (k : Int) < 3 := by omega
      have j3 : (k : Int) < (b.rws.length : Int) := by have := QR.out; omega
      clear hc r1
      cases qA : allB (b.rws.getD k []) 0 ((es.length : Int) - 1) 20
      · have HE : Hid (boardB dss b = false) := Lib.hid (by rw [HB3.out, rowsBd, all_range_false hlt qA]; rfl)
        rw [qA] at CA
        clear qA
        generalize (b.rws.getD k []).length = nk at hvi
        subst hvi
        go_wp2_with fail
        refine CA.mono ?_
        rintro e w4 ⟨rfl, rfl⟩
        go_wp2
        go_ret
        exact ⟨by rw [HE.out]; rfl, K3⟩
      · have HN : Hid (∀ j, j < k + 1 → allB (b.rws.getD j []) 0 ((es.length : Int) - 1) 20 = true) := Lib.hid (fun j hj => by
          by_cases e' : j = k
          · rw [e']; exact qA
          · exact hno.out j (by omega))
        rw [qA] at CA
        clear qA
        generalize (b.rws.getD k []).length = nk at hvi
        subst hvi
        go_wp2_with fail
        refine CA.mono ?_
        rintro e w4 ⟨rfl, rfl⟩
        go_wp2
        go_round
        case rel => exact ⟨k + 1, by omega, by go_num, HN⟩
        case measure => simp [intOf]; omega
    · obtain rfl : k = 3 := by omega
      have HB4 : Hid (boardB dss b = (List.range dss.length).all (fun i => ckB dss (es.length : Int) b i)) := Lib.hid (by
        have e : rowsBd (es.length : Int) b = true := all_range_true hno.out
        rw [HB3.out, e]; rfl)
      clear HB3 hno hk hlt
      have K0 := Keep.refl w7
      go_wp2
      go_loopw [7] (fun i wr => ∃ k : Nat, k ≤ dss.length ∧ i = .int .i64 k ∧ Hid (∀ j, j < k → ckB dss (es.length : Int) b j = true) ∧ Keep w7 wr) (fun i _ => dss.length - (intOf i).toNat)
      case atStart => exact ⟨0, Nat.zero_le _, rfl, Lib.hid (fun j hj => absurd hj (Nat.not_lt_zero _)), K0⟩
      case round =>
        obtain ⟨k, hk, rfl, hno, hK⟩ := hrel
        clear K0
        have e0 := (hK.cell z1).trans c0
        have e3 := (hK.cell z1).trans c3
        have e4 := (hK.cell z1).trans c4
        have KR := K3.trans hK
        by_cases hlt : k < dss.length
        · have lX : k < b.nxt.length := by rw [QX.out]; exact hlt
          have lN : k < b.nts.length := by rw [QN.out]; exact hlt
          obtain ⟨a', c', he', hX⟩ := HH.out.X.keep KR
          simp only [Value.slice.injEq, true_and] at he'
          obtain ⟨rfl, rfl⟩ := he'
          rcases hX with h0 | ⟨bx, ox, rfl, hbx, hcx⟩
          · exfalso; rw [h0] at lX; simp at lX
          obtain ⟨a', c', he', hW⟩ := HH.out.W.keep KR
          simp only [Value.slice.injEq, true_and] at he'
          obtain ⟨rfl, rfl⟩ := he'
          rcases hW with h0 | ⟨bw, ow, rfl, hbw, hcw⟩
          · exfalso; rw [h0] at hlt; simp at hlt
          obtain ⟨a', c', he', hN⟩ := HH.out.N.keep K3
          simp only [Value.slice.injEq, true_and] at he'
          obtain ⟨rfl, rfl⟩ := he'
          rcases hN with h0 | ⟨bn, on, rfl, hbn, hcn⟩
          · exfalso; rw [h0] at lN; simp at lN
          have d1 := hcx k lX
          obtain ⟨vw, d2, r2⟩ := hcw k hlt
          obtain ⟨vn, D3, r3⟩ := hcn k lN
          have d3 := (hK.cell hbn (o := on + k)).trans D3
          have HF : ckB dss (es.length : Int) b k = false → Hid (boardB dss b = false) := fun e => Lib.hid (by rw [HB4.out, all_range_false hlt e])
          have HT : ckB dss (es.length : Int) b k = true → Hid (∀ j, j < k + 1 → ckB dss (es.length : Int) b j = true) := fun e => Lib.hid (fun j hj => by
            by_cases e' : j = k
            · rw [e']; exact e
            · exact hno.out j (by omega))
          have HC : Hid (ckB dss (es.length : Int) b k = (inB (b.nxt.getD k 0) 0 ((dss.getD k []).length : Int) && (decide ((b.nts.getD k []).length ≤ 8) && ntsB (es.length : Int) (b.nts.getD k [])))) := Lib.hid (by
            have : inB (b.nxt.getD k 0) 0 ((dss.getD k []).length : Int) = (decide (0 ≤ b.nxt.getD k 0) && decide (b.nxt.getD k 0 ≤ ((dss.getD k []).length : Int))) := by unfold inB; rw [Bool.eq_iff_iff]; simp
            rw [ckB, this])
          have nlen := HZ.out.n2 k lN
          have hwl := HZ.out.w2 k hlt
          obtain ⟨aw, cw, rfl, -⟩ := r2
          have RN := Lib.hid r3
          obtain ⟨an, cn, rfl, r3⟩ := r3
          generalize b.nxt.getD k 0 = x at d1 HC
          generalize (dss.getD k []).length = wl at d2 HC hwl
          generalize b.nts.getD k [] = ns at *
          have j1 : (0 : Int) ≤ (k : Int) := Int.natCast_nonneg _
          have j2 : (k : Int) < (dss.length : Int) := by omega
          have j3 : (k : Int) < (b.nxt.length : Int) := by omega
          have j4 : (k : Int) < (b.nts.length : Int) := by omega
          clear hcx hcw hcn hno
          cases qI : inB x 0 (wl : Int)
          · have HE := HF (by rw [HC.out, qI]; rfl)
            clear HF HT HC
            have CI := fun W : World => l1In_any x 0 (wl : Int) W
            rw [qI] at CI
            go_wp2
            go_quiet ((go_at_call 45; exact Calls.quiet_of_same (CI _)))
            go_wp2
            go_ret
            exact ⟨by rw [HE.out]; rfl, KR.drewN _⟩
          have CI := fun W : World => l1In_any x 0 (wl : Int) W
          rw [qI] at CI
          by_cases q8 : ns.length ≤ 8
          rotate_left
          · have HE := HF (by rw [HC.out, decide_eq_false q8]; simp)
            have t8 : (8 : Int) < (ns.length : Int) := by omega
            clear HF HT HC q8
            go_wp2
            go_quiet ((go_at_call 45; exact Calls.quiet_of_same (CI _)))
            go_wp2
            go_ret
            exact ⟨by rw [HE.out]; rfl, KR.drewN _⟩
          have t8 : decide ((8 : Int) < (ns.length : Int)) = false := by simp; omega
          have HC2 : Hid (ckB dss (es.length : Int) b k = ntsB (es.length : Int) ns) := Lib.hid (by rw [HC.out, qI, decide_eq_true q8]; rfl)
          clear HC
          go_wp2
          go_quiet ((go_at_call 45; exact Calls.quiet_of_same (CI _)))
          have KD : Keep w7 (wr.drewN nq) := hK.drewN _
          clear CI qI d1 d2 d3 e0 e3 e4 hK KR q8 t8
          go_wp2
          go_loopw [8] (fun i wz => ∃ m : Nat, m ≤ ns.length ∧ i = .int .i64 m ∧ Hid (∀ j, j < m → ntB (es.length : Int) (ns.getD j (0, 0, 0)) = true) ∧ Keep w7 wz) (fun i _ => ns.length - (intOf i).toNat)
          case atStart => exact ⟨0, Nat.zero_le _, rfl, Lib.hid (fun j hj => absurd hj (Nat.not_lt_zero _)), KD⟩
          case round =>
            clear KD
            obtain ⟨m, hm, rfl, hnt, hK2⟩ := hrel
            have f3 := (hK2.cell z1).trans c3
            have n3 := (hK2.cell hbn (o := on + k)).trans D3
            by_cases hml : m < ns.length
            · obtain ⟨a', c', he', hA⟩ := RN.out.keep hK2
              simp only [Value.slice.injEq, Nat.add_left_cancel_iff, true_and] at he'
              obtain ⟨rfl, rfl⟩ := he'
              rcases hA with h0 | ⟨bq, oq, rfl, hbq, hcq⟩
              · exfalso; rw [h0] at hml; simp at hml
              obtain ⟨g0, g1, g2⟩ := atN (hcq m _ (nts_get hml))
              have NF : ntB (es.length : Int) (ns.getD m (0, 0, 0)) = false → Hid (boardB dss b = false) := fun e => HF (by rw [HC2.out]; exact ntsB_false hml e)
              have NT : ntB (es.length : Int) (ns.getD m (0, 0, 0)) = true → Hid (∀ j, j < m + 1 → ntB (es.length : Int) (ns.getD j (0, 0, 0)) = true) := fun e => Lib.hid (fun j hj => by
                by_cases e' : j = m
                · rw [e']; exact e
                · exact hnt.out j (by omega))
              have HNB : Hid (∀ y : Nt, ntB (es.length : Int) y = (inB y.1 0 2 && (inB y.2.1 0 9 && inB y.2.2 0 ((es.length : Int) - 1)))) := Lib.hid (fun y => by
                unfold ntB inB
                rw [Bool.eq_iff_iff]
                simp [and_assoc])
              rw [HNB.out] at NF NT
              generalize ns.getD m (0, 0, 0) = y at g0 g1 g2 NF NT
              obtain ⟨y0, y1, y2⟩ := y
              simp only at g0 g1 g2 NF NT
              have I0 := fun W : World => l1In_any y0 0 2 W
              have I1 := fun W : World => l1In_any y1 0 9 W
              have I2 := fun W : World => l1In_any y2 0 ((es.length : Int) - 1) W
              have m1 : (0 : Int) ≤ (m : Int) := Int.natCast_nonneg _
              have m2 : (m : Int) < (ns.length : Int) := by omega
              have KZ := (K3.trans hK2).alloc (.cells #[.int .i64 y0, .int .i64 y1, .int .i64 y2] 66)
              clear hcq HNB hnt
              cases t0 : inB y0 0 2
              · have HE := NF (by rw [t0]; rfl)
                rw [t0] at I0
                clear NF NT I1 I2 t0
                go_wp2_with fail
                refine (I0 _).mono ?_
                rintro e w8 ⟨rfl, rfl⟩
                go_wp2
                go_ret
                exact ⟨by rw [HE.out]; rfl, KZ⟩
              rw [t0] at I0
              cases t1 : inB y1 0 9
              · have HE := NF (by rw [t1]; simp)
                rw [t1] at I1
                clear NF NT I2 t0 t1
                go_wp2_with fail
                refine (I0 _).mono ?_
                rintro e w8 ⟨rfl, rfl⟩
                go_wp2_with fail
                refine (I1 _).mono ?_
                rintro e w8 ⟨rfl, rfl⟩
                go_wp2
                go_ret
                exact ⟨by rw [HE.out]; rfl, KZ⟩
              rw [t1] at I1
              cases t2 : inB y2 0 ((es.length : Int) - 1)
              · have HE := NF (by rw [t2]; simp)
                rw [t2] at I2
                clear NF NT t0 t1 t2
                go_wp2_with fail
                refine (I0 _).mono ?_
                rintro e w8 ⟨rfl, rfl⟩
                go_wp2_with fail
                refine (I1 _).mono ?_
                rintro e w8 ⟨rfl, rfl⟩
                go_wp2_with fail
                refine (I2 _).mono ?_
                rintro e w8 ⟨rfl, rfl⟩
                go_wp2
                go_ret
                exact ⟨by rw [HE.out]; rfl, KZ⟩
              · have HE := NT (by rw [t0, t1, t2]; rfl)
                rw [t2] at I2
                clear NF NT t0 t1 t2
                go_wp2_with fail
                refine (I0 _).mono ?_
                rintro e w8 ⟨rfl, rfl⟩
                go_wp2_with fail
                refine (I1 _).mono ?_
                rintro e w8 ⟨rfl, rfl⟩
                go_wp2_with fail
                refine (I2 _).mono ?_
                rintro e w8 ⟨rfl, rfl⟩
                go_wp2
                go_roundw
                case rel => exact ⟨m + 1, by omega, by go_num, HE, hK2.alloc _⟩
                case measure => simp [intOf]; omega
            · obtain rfl : m = ns.length := by omega
              have HE := HT (by rw [HC2.out]; exact ntsB_true hnt.out)
              go_wp2
              go_roundw
              case rel => exact ⟨k + 1, by omega, by go_num, HE, hK2⟩
              case measure => simp [intOf]; omega
        · obtain rfl : k = dss.length := by omega
          have HE : Hid (boardB dss b = true) := Lib.hid (by rw [HB4.out]; exact all_range_true hno.out)
          go_wp2
          go_ret
          exact ⟨by rw [HE.out]; rfl, KR⟩
theorem l8Is_any (w : World) (v : Value) (zs : List Int) (h : Rd w v zs) (hn : zs.length ≤ 1048576) (n : Int) :
    Calls Try.prog 46 #[v, .int .i64 n] w fun e w' => e = .returned (.bool (isB zs n)) ∧ w' = w := by
  obtain ⟨a, c, rfl, h⟩ := h
  go_enter Try.func46, Try.ntmps46
  go_wp2
  go_loop [5] (fun i => ∃ k : Nat, k ≤ zs.length ∧ i = .int .i64 k ∧ Hid (∀ i, i < k → zs.getD i 0 ≠ n)) (fun i => zs.length - (intOf i).toNat)
  case atStart => exact ⟨0, Nat.zero_le _, rfl, Lib.hid (fun i hi => absurd hi (Nat.not_lt_zero _))⟩
  case round =>
    obtain ⟨k, hk, rfl, hno⟩ := hrel
    by_cases hlt : k < zs.length
    · rcases h with h | ⟨b, o, rfl, hb, hc⟩
      · exfalso; rw [h] at hlt; simp at hlt
      have d1 := hc k hlt
      obtain ⟨p, hp⟩ : ∃ p, p = zs.getD k 0 := ⟨_, rfl⟩
      have HP := Lib.hid hp
      rw [← hp] at d1
      clear hc hp
      by_cases he : p = n
      · have hb : (p == n) = true := by simp [he]
        have HE : Hid (isB zs n = true) := Lib.hid (isB_at hlt (by rw [← HP.out]; exact he))
        clear he
        go_wp2
        go_ret
        exact ⟨by rw [HE.out]; rfl, rfl⟩
      · have hb : (p == n) = false := by simp [he]
        have HE : Hid (∀ i, i < k + 1 → zs.getD i 0 ≠ n) := Lib.hid (fun i hi => by
          by_cases e : i = k
          · subst e; rw [← HP.out]; exact he
          · exact hno.out i (by omega))
        clear he
        go_wp2
        go_round
        case rel => exact ⟨k + 1, by omega, by go_num, HE⟩
        case measure => simp [intOf]; omega
    · obtain rfl : k = zs.length := by omega
      have HE : Hid (isB zs n = false) := Lib.hid (isB_take hno.out)
      go_wp2
      go_ret
      exact ⟨by rw [HE.out]; rfl, rfl⟩
def stepB (dss : List (List Dd)) (b : Bd) (s : Int) : Bd := if isB (possM dss b) s = true then stepM dss (eventsB dss) b s else b
theorem poss_len {dss : List (List Dd)} {b : Bd} (hb : boardB dss b = true) : (possM dss b).length ≤ 1048576 := by
  have PS := ps_of hb
  rw [← poss_same, List.length_append]
  have := canK_len dss b dss.length
  have := ntK_len b dss.length
  have := PS.m
  have := (workB_useR (board_all hb).1).1
  omega
theorem specStepped_right (w : World) (bv : BV) (dss : List (List Dd)) (b : Bd) (s : Int) (h : RdBd w bv dss b) (hz : SzBd dss b) (hb : boardB dss b = true) :
    Calls Try.prog 12 #[bv.agg, .int .i64 s] w fun e w' => ∃ bv' nv rv bs N, e = .returned (.tuple #[BV.agg bv', .bool (isB (possM dss b) s)]) ∧ OwnVal w' w.heap.size bv' nv rv bs N dss (stepB dss b s) ∧ w.heap.size ≤ bs ∧ Keep w w' := by
  have C := fun (W : World) (kW : Keep w W) => specBoardOk_any W bv dss b (h.keep kW) hz
  rw [hb] at C
  have CC := fun (W : World) (kW : Keep w W) => l14Copy_any W bv dss b (h.keep kW) hb
  have CP := fun (W : World) (kW : Keep w W) => l15Possible_any W bv dss b (h.keep kW) (ps_of hb)
  have hpl := poss_len hb
  obtain ⟨aW, aP, aL, aN, aX, aT, aF, aR, cW, cP, cL, cQ, cX, cT, cF, cR, rfl⟩ := h.shapes
  go_enter Try.func12, Try.ntmps12
  go_upto_region 1 with fail
  obtain ⟨w1, hw1⟩ : ∃ W : World, W = (w.alloc (.cells #[.slice aW dss.length cW, .slice aP b.plc.length cP, .slice aL b.lst.length cL, .slice aN b.nts.length cQ, .slice aX b.nxt.length cX, .slice aT b.sn.length cT, .slice aF b.fr.length cF, .slice aR b.rws.length cR] 29)).alloc (.cells #[nilS, nilS, nilS, nilS, nilS, nilS, nilS, nilS] 29) := ⟨_, rfl⟩
  have K1 : Keep w w1 := by rw [hw1]; exact ((Keep.refl w).alloc _).alloc _
  have s1 : w1.heap.size = w.heap.size + 1 + 1 := by rw [hw1, heap_size, heap_size]
  have hB1 : w1.heap[w.heap.size]? = some (.cells #[.slice aW dss.length cW, .slice aP b.plc.length cP, .slice aL b.lst.length cL, .slice aN b.nts.length cQ, .slice aX b.nxt.length cX, .slice aT b.sn.length cT, .slice aF b.fr.length cF, .slice aR b.rws.length cR] 29 (0, 0)) := by rw [hw1]; exact box_heap ((Keep.refl _).alloc _)
  have hR1 : w1.heap[w.heap.size + 1]? = some (.cells #[nilS, nilS, nilS, nilS, nilS, nilS, nilS, nilS] 29 (0, 0)) := by rw [hw1, ← heap_size w (.cells #[.slice aW dss.length cW, .slice aP b.plc.length cP, .slice aL b.lst.length cL, .slice aN b.nts.length cQ, .slice aX b.nxt.length cX, .slice aT b.sn.length cT, .slice aF b.fr.length cF, .slice aR b.rws.length cR] 29)]; exact heap_alloc_new _ _
  rw [← hw1]
  clear hw1
  have s2 : w.heap.size + 1 < w1.heap.size := by omega
  clear s1
  go_wp2_with (first | refine wpList_load_row rfl 29 _ rfl w.heap.size rfl 29 _ (0, 0) _ hB1 Try.underlying29 rfl board_info ?_ | fail)
  refine (C _ K1).mono ?_
  rintro e w3 ⟨rfl, k3⟩
  have hB3 := (Below.block k3 w.heap.size (by omega)).trans hB1
  have hR3 := (Below.block k3 (w.heap.size + 1) s2).trans hR1
  have K3 := K1.trans k3
  have s3 := k3.size
  clear C hB1 hR1 k3
  go_wp2_with (first | refine wpList_load_row rfl 29 _ rfl w.heap.size rfl 29 _ (0, 0) _ hB3 Try.underlying29 rfl board_info ?_ | fail)
  refine (CC _ K3).mono ?_
  rintro e w4 ⟨bv2, nv, rv, bs, N, rfl, hV, hbs, k4⟩
  have s4 := k4.size
  obtain ⟨aW2, aP2, aL2, aN2, aX2, aT2, aF2, aR2, cW2, cP2, cL2, cQ2, cX2, cT2, cF2, cR2, rfl⟩ := (hV.box s4).rd.shapes
  have H5 := hV.box s4
  have hbs2 : w.heap.size ≤ bs := by omega
  have hB4 := (Below.block k4 w.heap.size (by omega)).trans hB3
  have hR4 := (Below.block k4 (w.heap.size + 1) (by omega)).trans hR3
  clear hB3 hR3 CC
  go_upto_region 4 with fail
  obtain ⟨w5, hw5⟩ : ∃ W : World, W = w4.alloc (.cells #[.slice aW2 dss.length cW2, .slice aP2 b.plc.length cP2, .slice aL2 b.lst.length cL2, .slice aN2 b.nts.length cQ2, .slice aX2 b.nxt.length cX2, .slice aT2 b.sn.length cT2, .slice aF2 b.fr.length cF2, .slice aR2 b.rws.length cR2] 29) := ⟨_, rfl⟩
  have k5 : Keep w4 w5 := by rw [hw5]; exact (Keep.refl w4).alloc _
  replace H5 : OwnBd w5 w3.heap.size w4.heap.size ⟨.slice aW2 dss.length cW2, .slice aP2 b.plc.length cP2, .slice aL2 b.lst.length cL2, .slice aN2 b.nts.length cQ2, .slice aX2 b.nxt.length cX2, .slice aT2 b.sn.length cT2, .slice aF2 b.fr.length cF2, .slice aR2 b.rws.length cR2⟩ nv rv bs N dss b := by rw [hw5]; exact H5
  rw [← hw5]
  clear hw5 hV
  have K5 := (K3.trans k4).trans k5
  have hB5 := (Below.block k5 w.heap.size (by omega)).trans hB4
  have hR5 := (Below.block k5 (w.heap.size + 1) (by omega)).trans hR4
  have m0 : w.heap.size + 1 < w3.heap.size := by omega
  have D0 : w3.heap.size ≤ w4.heap.size := s4
  have s5 := k5.size
  generalize w3.heap.size = m at *
  generalize hD : w4.heap.size = D at *
  clear hD hB4 hR4 k4 k5 K3 K1
  go_wp2_with (first | refine wpList_load_row rfl 29 _ rfl w.heap.size rfl 29 _ (0, 0) _ hB5 Try.underlying29 rfl board_info ?_ | fail)
  refine (CP _ K5).mono ?_
  rintro e w6 ⟨vp, rfl, op, k6⟩
  have H6 := H5.keep k6
  have hR6 := (Below.block k6 (w.heap.size + 1) (by omega)).trans hR5
  have K6 := K5.trans k6
  clear CP hB5 hR5 H5
  obtain ⟨ap, cp, rfl, -⟩ := id op.rd
  go_wp2_with fail
  refine (l8Is_any _ _ _ op.rd hpl s).mono ?_
  rintro e w7 ⟨rfl, rfl⟩
  clear op
  cases hp : isB (possM dss b) s
  · have HS : Hid (stepB dss b s = b) := Lib.hid (by unfold stepB; rw [hp]; simp)
    have HP := Lib.hid hp
    clear hp
    have hDw := H6.heapD
    have hRw := hR6
    simp only [BV.arr] at hDw
    have HG := Lib.hid (grown_row3 w7 (w.heap.size + 1) #[.slice aW2 dss.length cW2, .slice aP2 b.plc.length cP2, .slice aL2 b.lst.length cL2, .slice aN2 b.nts.length cQ2, .slice aX2 b.nxt.length cX2, .slice aT2 b.sn.length cT2, .slice aF2 b.fr.length cF2, .slice aR2 b.rws.length cR2])
    have HZ := Lib.hid (setRow_heap w7 (w.heap.size + 1) _ #[.slice aW2 dss.length cW2, .slice aP2 b.plc.length cP2, .slice aL2 b.lst.length cL2, .slice aN2 b.nts.length cQ2, .slice aX2 b.nxt.length cX2, .slice aT2 b.sn.length cT2, .slice aF2 b.fr.length cF2, .slice aR2 b.rws.length cR2] _ _ hRw)
    have hNot : ∀ q, some (w.heap.size + 1) = some q → q < m ∧ (q < bs ∨ N ≤ q) := fun q hq => by have := Option.some.inj hq; omega
    have HO := Lib.hid (((H6.far HG.out hNot).val).base_le (show w.heap.size ≤ m by omega))
    have HKK := Lib.hid ((K6 : Keep w w7).grown HG.out (fun q hq => by have := Option.some.inj hq; omega))
    go_wp2_with (first | refine wpList_load_row rfl 29 _ rfl D rfl 29 _ (0, 0) _ hDw Try.underlying29 rfl board_info ?_ | refine wpList_store_row rfl 29 _ _ rfl (w.heap.size + 1) _ rfl rfl 29 _ hRw board_info rfl (by simp [Value.oneCell']) ?_ | fail)
    refine bodyPost_ret (results_row_tmp (by rfl) _ _ (w.heap.size + 1) _ _ (0, 0) _ (.bool false) rfl HZ.out rfl Try.underlying29 rfl board_info) rfl ?_
    exact ⟨⟨.slice aW2 dss.length cW2, .slice aP2 b.plc.length cP2, .slice aL2 b.lst.length cL2, .slice aN2 b.nts.length cQ2, .slice aX2 b.nxt.length cX2, .slice aT2 b.sn.length cT2, .slice aF2 b.fr.length cF2, .slice aR2 b.rws.length cR2⟩, _, _, bs, N, by rw [HP.out], by rw [HS.out]; exact HO.out, hbs2, HKK.out⟩
  · have HS : Hid (stepB dss b s = stepM dss (eventsB dss) b s) := Lib.hid (by unfold stepB; rw [if_pos hp])
    have HP := Lib.hid hp
    go_wp2_with fail
    refine (l15Step_any _ m D _ nv rv bs N dss b s H6 hb hp).mono ?_
    rintro e w8 ⟨rfl, nv8, rv8, H8, T8⟩
    have TL := T8.low (m := m) (by have := H6.base; omega) (fun g hg => (H6.blk g hg).1)
    have K8 : Keep w w8 := Below.trans K6 (Below.mono TL (by omega))
    have hR8 := (Below.block TL (w.heap.size + 1) (by omega)).trans hR6
    clear H6 T8 TL K6 hR6 hp
    obtain ⟨nb, hnb⟩ : ∃ nb, nb = stepM dss (eventsB dss) b s := ⟨_, rfl⟩
    rw [← hnb] at H8
    replace HS : Hid (stepB dss b s = nb) := Lib.hid (by rw [HS.out, hnb])
    clear hnb
    have hDw := H8.heapD
    have hRw := hR8
    simp only [BV.arr] at hDw
    have HG := Lib.hid (grown_row3 w8 (w.heap.size + 1) #[.slice aW2 dss.length cW2, .slice aP2 b.plc.length cP2, .slice aL2 b.lst.length cL2, .slice aN2 b.nts.length cQ2, .slice aX2 b.nxt.length cX2, .slice aT2 b.sn.length cT2, .slice aF2 b.fr.length cF2, .slice aR2 b.rws.length cR2])
    have HZ := Lib.hid (setRow_heap w8 (w.heap.size + 1) _ #[.slice aW2 dss.length cW2, .slice aP2 b.plc.length cP2, .slice aL2 b.lst.length cL2, .slice aN2 b.nts.length cQ2, .slice aX2 b.nxt.length cX2, .slice aT2 b.sn.length cT2, .slice aF2 b.fr.length cF2, .slice aR2 b.rws.length cR2] _ _ hRw)
    have hNot : ∀ q, some (w.heap.size + 1) = some q → q < m ∧ (q < bs ∨ N ≤ q) := fun q hq => by have := Option.some.inj hq; omega
    have HO := Lib.hid (((H8.far HG.out hNot).val).base_le (show w.heap.size ≤ m by omega))
    have HKK := Lib.hid ((K8 : Keep w w8).grown HG.out (fun q hq => by have := Option.some.inj hq; omega))
    go_wp2_with (first | refine wpList_load_row rfl 29 _ rfl D rfl 29 _ (0, 0) _ hDw Try.underlying29 rfl board_info ?_ | refine wpList_store_row rfl 29 _ _ rfl (w.heap.size + 1) _ rfl rfl 29 _ hRw board_info rfl (by simp [Value.oneCell']) ?_ | fail)
    refine bodyPost_ret (results_row_tmp (by rfl) _ _ (w.heap.size + 1) _ _ (0, 0) _ (.bool true) rfl HZ.out rfl Try.underlying29 rfl board_info) rfl ?_
    exact ⟨⟨.slice aW2 dss.length cW2, .slice aP2 b.plc.length cP2, .slice aL2 b.lst.length cL2, .slice aN2 b.nts.length cQ2, .slice aX2 b.nxt.length cX2, .slice aT2 b.sn.length cT2, .slice aF2 b.fr.length cF2, .slice aR2 b.rws.length cR2⟩, _, _, bs, N, by rw [HP.out], by rw [HS.out]; exact HO.out, hbs2, HKK.out⟩
def stpD (dss : List (List Dd)) (b : Bd) : List (List Dd) := if boardB dss b = true then dss else []
def stpB (dss : List (List Dd)) (b : Bd) (s : Int) : Bd := if boardB dss b = true then stepB dss b s else zBd
def stpT (dss : List (List Dd)) (b : Bd) (s : Int) : Bool := boardB dss b && isB (possM dss b) s
theorem specStepped_wrong (w : World) (bv : BV) (dss : List (List Dd)) (b : Bd) (s : Int) (h : RdBd w bv dss b) (hz : SzBd dss b) (hb : boardB dss b = false) :
    Calls Try.prog 12 #[bv.agg, .int .i64 s] w fun e w' => e = .returned (.tuple #[BV.agg bd0, .bool false]) ∧ Keep w w' := by
  have C := fun (W : World) (kW : Keep w W) => specBoardOk_any W bv dss b (h.keep kW) hz
  rw [hb] at C
  obtain ⟨aW, aP, aL, aN, aX, aT, aF, aR, cW, cP, cL, cQ, cX, cT, cF, cR, rfl⟩ := h.shapes
  go_enter Try.func12, Try.ntmps12
  go_upto_region 1 with fail
  obtain ⟨w1, hw1⟩ : ∃ W : World, W = (w.alloc (.cells #[.slice aW dss.length cW, .slice aP b.plc.length cP, .slice aL b.lst.length cL, .slice aN b.nts.length cQ, .slice aX b.nxt.length cX, .slice aT b.sn.length cT, .slice aF b.fr.length cF, .slice aR b.rws.length cR] 29)).alloc (.cells #[nilS, nilS, nilS, nilS, nilS, nilS, nilS, nilS] 29) := ⟨_, rfl⟩
  have K1 : Keep w w1 := by rw [hw1]; exact ((Keep.refl w).alloc _).alloc _
  have s1 : w1.heap.size = w.heap.size + 1 + 1 := by rw [hw1, heap_size, heap_size]
  have hB1 : w1.heap[w.heap.size]? = some (.cells #[.slice aW dss.length cW, .slice aP b.plc.length cP, .slice aL b.lst.length cL, .slice aN b.nts.length cQ, .slice aX b.nxt.length cX, .slice aT b.sn.length cT, .slice aF b.fr.length cF, .slice aR b.rws.length cR] 29 (0, 0)) := by rw [hw1]; exact box_heap ((Keep.refl _).alloc _)
  have hR1 : w1.heap[w.heap.size + 1]? = some (.cells #[nilS, nilS, nilS, nilS, nilS, nilS, nilS, nilS] 29 (0, 0)) := by rw [hw1, ← heap_size w (.cells #[.slice aW dss.length cW, .slice aP b.plc.length cP, .slice aL b.lst.length cL, .slice aN b.nts.length cQ, .slice aX b.nxt.length cX, .slice aT b.sn.length cT, .slice aF b.fr.length cF, .slice aR b.rws.length cR] 29)]; exact heap_alloc_new _ _
  rw [← hw1]
  clear hw1
  have s2 : w.heap.size + 1 < w1.heap.size := by omega
  clear s1
  go_wp2_with (first | refine wpList_load_row rfl 29 _ rfl w.heap.size rfl 29 _ (0, 0) _ hB1 Try.underlying29 rfl board_info ?_ | fail)
  refine (C _ K1).mono ?_
  rintro e w3 ⟨rfl, k3⟩
  have hB3 := (Below.block k3 w.heap.size (by omega)).trans hB1
  have hR3 := (Below.block k3 (w.heap.size + 1) s2).trans hR1
  have K3 := K1.trans k3
  have s3 := k3.size
  have HG := Lib.hid (grown_row3 w3 (w.heap.size + 1) #[nilS, nilS, nilS, nilS, nilS, nilS, nilS, nilS])
  have HZ := Lib.hid (setRow_heap w3 (w.heap.size + 1) _ #[nilS, nilS, nilS, nilS, nilS, nilS, nilS, nilS] _ _ hR3)
  have HK := Lib.hid (K3.grown HG.out (fun q hq => by have := Option.some.inj hq; omega))
  clear C k3 K3 hB1 hR1 hB3
  go_wp2_with (first | refine wpList_store_row rfl 29 _ _ rfl (w.heap.size + 1) _ rfl rfl 29 _ hR3 board_info rfl (by simp [Value.oneCell']) ?_ | fail)
  refine bodyPost_ret (results_row_tmp (by rfl) _ _ (w.heap.size + 1) _ _ (0, 0) _ (.bool false) rfl HZ.out rfl Try.underlying29 rfl board_info) rfl ?_
  exact ⟨rfl, HK.out⟩
theorem specStepped_any (w : World) (bv : BV) (dss : List (List Dd)) (b : Bd) (s : Int) (h : RdBd w bv dss b) (hz : SzBd dss b) :
    Calls Try.prog 12 #[bv.agg, .int .i64 s] w fun e w' => ∃ bv' : BV, e = .returned (.tuple #[bv'.agg, .bool (stpT dss b s)]) ∧ RdBd w' bv' (stpD dss b) (stpB dss b s) ∧ Keep w w' := by
  unfold stpD stpB stpT
  cases hb : boardB dss b with
  | true =>
    refine (specStepped_right w bv dss b s h hz hb).mono ?_
    rintro e w' ⟨bv', nv, rv, bs, N, rfl, o, -, k⟩
    exact ⟨bv', rfl, by rw [if_pos rfl, if_pos rfl]; exact o.rd0, k⟩
  | false =>
    refine (specStepped_wrong w bv dss b s h hz hb).mono ?_
    rintro e w' ⟨rfl, k⟩
    exact ⟨bd0, rfl, by rw [if_neg (by simp), if_neg (by simp)]; exact rd_zero w', k⟩
def qkT (dss : List (List Dd)) (b : Bd) (c : Int) : Bool := decide (0 ≤ c) && decide (c < (dss.length : Int)) && canM dss b c.toNat
def qkM (dss : List (List Dd)) (b : Bd) (c : Int) : Bd := if qkT dss b c = true then quickM dss (eventsB dss) b c.toNat else b
theorem RB.shp {dss : List (List Dd)} {b : Bd} {n m : Nat} (h : RB dss b (fun _ => n) m) (k : Nat) (h1 : n ≤ k) (h2 : m ≤ k) : Shp dss b k :=
  ⟨h.work, h.plc, h.lst, h.rws, h.nts, h.nxt, h.sn, h.fr, fun p => Nat.le_trans (h.rl p).1 h2, fun c => Nat.le_trans (h.nl c).1 h1⟩
theorem l15Quick_any (w : World) (m D : Nat) (v : BV) (nv rv : List Value) (bs N : Nat) (dss : List (List Dd)) (b : Bd) (c : Nat) (h : OwnBd w m D v nv rv bs N dss b) (hb : boardB dss b = true) (hc : c < dss.length) (hcan : canM dss b c = true) :
    Calls Try.prog 37 #[.pointer (some ⟨D, 0, none⟩), .int .i64 (c : Int)] w fun e w' => e = .returned (.tuple #[]) ∧ ∃ nv' rv', OwnBd w' m D v nv' rv' bs N dss (quickM dss (eventsB dss) b c) ∧ TurnB w w' (blkB D v nv rv) (blkB D v nv' rv') := by
  have S0 := Shp.of hb
  have R0 : RB dss b (fun _ => 20) 20 := RB.of hb S0.nl S0.rl
  have h3 : dss.length ≤ 3 := (workB_useR R0.work).1
  have R1 := R0.stepped hc hcan (by omega)
  have hs : isB (possM dss b) (c : Int) = true := by
    rw [isB, List.any_eq_true]
    exact ⟨(c : Int), List.mem_append.2 (.inl (List.mem_map.2 ⟨c, List.mem_filter.2 ⟨List.mem_range.2 hc, hcan⟩, rfl⟩)), by simp⟩
  have HQ : Hid (quickM dss (eventsB dss) b c = if ((stepM dss (eventsB dss) b (c : Int)).nts.getD c []).isEmpty = true then stepM dss (eventsB dss) b (c : Int) else stepM dss (eventsB dss) (stepM dss (eventsB dss) b (c : Int)) (10 + (c : Int))) := Lib.hid rfl
  have C := l15Step_any w m D v nv rv bs N dss b (c : Int) h hb hs
  generalize quickM dss (eventsB dss) b c = QB at HQ ⊢
  generalize stepM dss (eventsB dss) b (c : Int) = SB at *
  clear h hs hcan hb S0 R0
  obtain ⟨vW, vP, vL, vN, vX, vS, vF, vR⟩ := v
  go_enter Try.func37, Try.ntmps37
  go_wp2_with fail
  refine C.mono ?_
  rintro e w1 ⟨rfl, nv1, rv1, H1, T1⟩
  clear C
  have hcn' : c < SB.nts.length := by rw [R1.nts]; exact hc
  have r1 := H1.rd
  have c3 := H1.cells.2.2.2.1
  obtain ⟨a', c', eN, hN⟩ := r1.N
  simp only at eN c3
  subst eN
  rcases hN with h0 | ⟨bn, on, rfl, hbn, hcn⟩
  · exfalso; rw [h0] at hcn'; simp at hcn'
  obtain ⟨vn, d3, r3⟩ := hcn c hcn'
  obtain ⟨an, cn, rfl, r3⟩ := r3
  have i1 : IntKind.i64.wrap (10 + (c : Int)) = 10 + (c : Int) := by rw [IntKind.wrap_i64]; omega
  have i2 : (0 : Int) ≤ (c : Int) := Int.natCast_nonneg _
  have i3 : (c : Int) < (SB.nts.length : Int) := by omega
  clear hcn r1 r3
  cases hz : SB.nts.getD c [] with
  | nil =>
    rw [hz] at d3
    have HE : Hid (QB = SB) := Lib.hid (by rw [HQ.out, hz]; rfl)
    clear HQ hz R1
    go_wp2
    go_end0
    exact ⟨rfl, nv1, rv1, by rw [HE.out]; exact H1, T1⟩
  | cons x r =>
    have hx := ((R1.nl c).2 x (by rw [hz]; simp)).1
    have HE : Hid (QB = flushM SB c) := Lib.hid (by
      rw [HQ.out, hz]
      simp only [List.isEmpty_cons, Bool.false_eq_true, if_false]
      unfold stepM
      rw [if_pos (by omega)]
      have : (10 + (c : Int) - 10).toNat = c := by omega
      rw [this])
    have CF := l15Step_flush w1 m D _ nv1 rv1 bs N dss SB 30 c x r H1 (R1.shp 30 (by omega) (by omega)) (by omega) hc hz hx
    rw [hz] at d3
    have hl : decide ((0 : Int) < (((x :: r).length : Nat) : Int)) = true := by simp
    have hL : 0 < (x :: r).length := by simp
    generalize (x :: r).length = L at *
    clear HQ hz R1
    go_wp2_with fail
    refine CF.mono ?_
    rintro e w2 ⟨rfl, nv2, rv2, H2, T2⟩
    go_wp2
    go_end0
    exact ⟨rfl, nv2, rv2, by rw [HE.out]; exact H2, T1.trans T2⟩
theorem specQuick_wrong (w : World) (bv : BV) (dss : List (List Dd)) (b : Bd) (s : Int) (h : RdBd w bv dss b) (hz : SzBd dss b) (hb : boardB dss b = false) :
    Calls Try.prog 9 #[bv.agg, .int .i64 s] w fun e w' => e = .returned (.tuple #[BV.agg bd0, .bool false]) ∧ Keep w w' := by
  have C := fun (W : World) (kW : Keep w W) => specBoardOk_any W bv dss b (h.keep kW) hz
  rw [hb] at C
  obtain ⟨aW, aP, aL, aN, aX, aT, aF, aR, cW, cP, cL, cQ, cX, cT, cF, cR, rfl⟩ := h.shapes
  go_enter Try.func9, Try.ntmps9
  go_upto_region 1 with fail
  obtain ⟨w1, hw1⟩ : ∃ W : World, W = (w.alloc (.cells #[.slice aW dss.length cW, .slice aP b.plc.length cP, .slice aL b.lst.length cL, .slice aN b.nts.length cQ, .slice aX b.nxt.length cX, .slice aT b.sn.length cT, .slice aF b.fr.length cF, .slice aR b.rws.length cR] 29)).alloc (.cells #[nilS, nilS, nilS, nilS, nilS, nilS, nilS, nilS] 29) := ⟨_, rfl⟩
  have K1 : Keep w w1 := by rw [hw1]; exact ((Keep.refl w).alloc _).alloc _
  have s1 : w1.heap.size = w.heap.size + 1 + 1 := by rw [hw1, heap_size, heap_size]
  have hB1 : w1.heap[w.heap.size]? = some (.cells #[.slice aW dss.length cW, .slice aP b.plc.length cP, .slice aL b.lst.length cL, .slice aN b.nts.length cQ, .slice aX b.nxt.length cX, .slice aT b.sn.length cT, .slice aF b.fr.length cF, .slice aR b.rws.length cR] 29 (0, 0)) := by rw [hw1]; exact box_heap ((Keep.refl _).alloc _)
  have hR1 : w1.heap[w.heap.size + 1]? = some (.cells #[nilS, nilS, nilS, nilS, nilS, nilS, nilS, nilS] 29 (0, 0)) := by rw [hw1, ← heap_size w (.cells #[.slice aW dss.length cW, .slice aP b.plc.length cP, .slice aL b.lst.length cL, .slice aN b.nts.length cQ, .slice aX b.nxt.length cX, .slice aT b.sn.length cT, .slice aF b.fr.length cF, .slice aR b.rws.length cR] 29)]; exact heap_alloc_new _ _
  rw [← hw1]
  clear hw1
  have s2 : w.heap.size + 1 < w1.heap.size := by omega
  clear s1
  go_wp2_with (first | refine wpList_load_row rfl 29 _ rfl w.heap.size rfl 29 _ (0, 0) _ hB1 Try.underlying29 rfl board_info ?_ | fail)
  refine (C _ K1).mono ?_
  rintro e w3 ⟨rfl, k3⟩
  have hB3 := (Below.block k3 w.heap.size (by omega)).trans hB1
  have hR3 := (Below.block k3 (w.heap.size + 1) s2).trans hR1
  have K3 := K1.trans k3
  have s3 := k3.size
  have HG := Lib.hid (grown_row3 w3 (w.heap.size + 1) #[nilS, nilS, nilS, nilS, nilS, nilS, nilS, nilS])
  have HZ := Lib.hid (setRow_heap w3 (w.heap.size + 1) _ #[nilS, nilS, nilS, nilS, nilS, nilS, nilS, nilS] _ _ hR3)
  have HK := Lib.hid (K3.grown HG.out (fun q hq => by have := Option.some.inj hq; omega))
  clear C k3 K3 hB1 hR1 hB3
  go_wp2_with (first | refine wpList_store_row rfl 29 _ _ rfl (w.heap.size + 1) _ rfl rfl 29 _ hR3 board_info rfl (by simp [Value.oneCell']) ?_ | fail)
  refine bodyPost_ret (results_row_tmp (by rfl) _ _ (w.heap.size + 1) _ _ (0, 0) _ (.bool false) rfl HZ.out rfl Try.underlying29 rfl board_info) rfl ?_
  exact ⟨rfl, HK.out⟩
theorem specQuick_right (w : World) (bv : BV) (dss : List (List Dd)) (b : Bd) (s : Int) (h : RdBd w bv dss b) (hz : SzBd dss b) (hb : boardB dss b = true) :
    Calls Try.prog 9 #[bv.agg, .int .i64 s] w fun e w' => ∃ bv' nv rv bs N, e = .returned (.tuple #[BV.agg bv', .bool (qkT dss b s)]) ∧ OwnVal w' w.heap.size bv' nv rv bs N dss (qkM dss b s) ∧ w.heap.size ≤ bs ∧ Keep w w' := by
  have C := fun (W : World) (kW : Keep w W) => specBoardOk_any W bv dss b (h.keep kW) hz
  rw [hb] at C
  have CC := fun (W : World) (kW : Keep w W) => l14Copy_any W bv dss b (h.keep kW) hb
  have CP := fun (W : World) (kW : Keep w W) (c : Nat) (hc : c < dss.length) => l15Can_any W bv dss b c (h.keep kW) (ps_of hb) hc
  obtain ⟨aW, aP, aL, aN, aX, aT, aF, aR, cW, cP, cL, cQ, cX, cT, cF, cR, rfl⟩ := h.shapes
  go_enter Try.func9, Try.ntmps9
  go_upto_region 1 with fail
  obtain ⟨w1, hw1⟩ : ∃ W : World, W = (w.alloc (.cells #[.slice aW dss.length cW, .slice aP b.plc.length cP, .slice aL b.lst.length cL, .slice aN b.nts.length cQ, .slice aX b.nxt.length cX, .slice aT b.sn.length cT, .slice aF b.fr.length cF, .slice aR b.rws.length cR] 29)).alloc (.cells #[nilS, nilS, nilS, nilS, nilS, nilS, nilS, nilS] 29) := ⟨_, rfl⟩
  have K1 : Keep w w1 := by rw [hw1]; exact ((Keep.refl w).alloc _).alloc _
  have s1 : w1.heap.size = w.heap.size + 1 + 1 := by rw [hw1, heap_size, heap_size]
  have hB1 : w1.heap[w.heap.size]? = some (.cells #[.slice aW dss.length cW, .slice aP b.plc.length cP, .slice aL b.lst.length cL, .slice aN b.nts.length cQ, .slice aX b.nxt.length cX, .slice aT b.sn.length cT, .slice aF b.fr.length cF, .slice aR b.rws.length cR] 29 (0, 0)) := by rw [hw1]; exact box_heap ((Keep.refl _).alloc _)
  have hR1 : w1.heap[w.heap.size + 1]? = some (.cells #[nilS, nilS, nilS, nilS, nilS, nilS, nilS, nilS] 29 (0, 0)) := by rw [hw1, ← heap_size w (.cells #[.slice aW dss.length cW, .slice aP b.plc.length cP, .slice aL b.lst.length cL, .slice aN b.nts.length cQ, .slice aX b.nxt.length cX, .slice aT b.sn.length cT, .slice aF b.fr.length cF, .slice aR b.rws.length cR] 29)]; exact heap_alloc_new _ _
  rw [← hw1]
  clear hw1
  have s2 : w.heap.size + 1 < w1.heap.size := by omega
  clear s1
  go_wp2_with (first | refine wpList_load_row rfl 29 _ rfl w.heap.size rfl 29 _ (0, 0) _ hB1 Try.underlying29 rfl board_info ?_ | fail)
  refine (C _ K1).mono ?_
  rintro e w3 ⟨rfl, k3⟩
  have hB3 := (Below.block k3 w.heap.size (by omega)).trans hB1
  have hR3 := (Below.block k3 (w.heap.size + 1) s2).trans hR1
  have K3 := K1.trans k3
  have s3 := k3.size
  clear C hB1 hR1 k3
  go_wp2_with (first | refine wpList_load_row rfl 29 _ rfl w.heap.size rfl 29 _ (0, 0) _ hB3 Try.underlying29 rfl board_info ?_ | fail)
  refine (CC _ K3).mono ?_
  rintro e w4 ⟨bv2, nv, rv, bs, N, rfl, hV, hbs, k4⟩
  have s4 := k4.size
  obtain ⟨aW2, aP2, aL2, aN2, aX2, aT2, aF2, aR2, cW2, cP2, cL2, cQ2, cX2, cT2, cF2, cR2, rfl⟩ := (hV.box s4).rd.shapes
  have H5 := hV.box s4
  have hbs2 : w.heap.size ≤ bs := by omega
  have hB4 := (Below.block k4 w.heap.size (by omega)).trans hB3
  have hR4 := (Below.block k4 (w.heap.size + 1) (by omega)).trans hR3
  clear hB3 hR3 CC
  go_upto_region 4 with fail
  obtain ⟨w5, hw5⟩ : ∃ W : World, W = w4.alloc (.cells #[.slice aW2 dss.length cW2, .slice aP2 b.plc.length cP2, .slice aL2 b.lst.length cL2, .slice aN2 b.nts.length cQ2, .slice aX2 b.nxt.length cX2, .slice aT2 b.sn.length cT2, .slice aF2 b.fr.length cF2, .slice aR2 b.rws.length cR2] 29) := ⟨_, rfl⟩
  have k5 : Keep w4 w5 := by rw [hw5]; exact (Keep.refl w4).alloc _
  replace H5 : OwnBd w5 w3.heap.size w4.heap.size ⟨.slice aW2 dss.length cW2, .slice aP2 b.plc.length cP2, .slice aL2 b.lst.length cL2, .slice aN2 b.nts.length cQ2, .slice aX2 b.nxt.length cX2, .slice aT2 b.sn.length cT2, .slice aF2 b.fr.length cF2, .slice aR2 b.rws.length cR2⟩ nv rv bs N dss b := by rw [hw5]; exact H5
  rw [← hw5]
  clear hw5 hV
  have K5 := (K3.trans k4).trans k5
  have hB5 := (Below.block k5 w.heap.size (by omega)).trans hB4
  have hR5 := (Below.block k5 (w.heap.size + 1) (by omega)).trans hR4
  have m0 : w.heap.size + 1 < w3.heap.size := by omega
  have D0 : w3.heap.size ≤ w4.heap.size := s4
  have s5 := k5.size
  generalize w3.heap.size = m at *
  generalize hD : w4.heap.size = D at *
  clear hD hB4 hR4 k4 k5 K3 K1
  have e0 : w5.cell? ⟨w.heap.size, 0, none⟩ = some (.slice aW dss.length cW) := by rw [cell_of_row w5 _ 0 _ _ _ hB5]; rfl
  by_cases x1 : s < 0
  · have y1 : decide (s < 0) = true := by simpa using x1
    have hp : qkT dss b s = false := by unfold qkT; rw [decide_eq_false (by omega)]; rfl
    have HS : Hid (qkM dss b s = b) := Lib.hid (by unfold qkM; rw [hp]; simp)
    have HP := Lib.hid hp
    clear hp
    have hDw := H5.heapD
    have hRw := hR5
    simp only [BV.arr] at hDw
    have HG := Lib.hid (grown_row3 w5 (w.heap.size + 1) #[.slice aW2 dss.length cW2, .slice aP2 b.plc.length cP2, .slice aL2 b.lst.length cL2, .slice aN2 b.nts.length cQ2, .slice aX2 b.nxt.length cX2, .slice aT2 b.sn.length cT2, .slice aF2 b.fr.length cF2, .slice aR2 b.rws.length cR2])
    have HZ := Lib.hid (setRow_heap w5 (w.heap.size + 1) _ #[.slice aW2 dss.length cW2, .slice aP2 b.plc.length cP2, .slice aL2 b.lst.length cL2, .slice aN2 b.nts.length cQ2, .slice aX2 b.nxt.length cX2, .slice aT2 b.sn.length cT2, .slice aF2 b.fr.length cF2, .slice aR2 b.rws.length cR2] _ _ hRw)
    have hNot : ∀ q, some (w.heap.size + 1) = some q → q < m ∧ (q < bs ∨ N ≤ q) := fun q hq => by have := Option.some.inj hq; omega
    have HO := Lib.hid (((H5.far HG.out hNot).val).base_le (show w.heap.size ≤ m by omega))
    have HKK := Lib.hid ((K5 : Keep w w5).grown HG.out (fun q hq => by have := Option.some.inj hq; omega))
    go_wp2_with (first | refine wpList_load_row rfl 29 _ rfl D rfl 29 _ (0, 0) _ hDw Try.underlying29 rfl board_info ?_ | refine wpList_store_row rfl 29 _ _ rfl (w.heap.size + 1) _ rfl rfl 29 _ hRw board_info rfl (by simp [Value.oneCell']) ?_ | fail)
    refine bodyPost_ret (results_row_tmp (by rfl) _ _ (w.heap.size + 1) _ _ (0, 0) _ (.bool false) rfl HZ.out rfl Try.underlying29 rfl board_info) rfl ?_
    first
      | exact ⟨⟨.slice aW2 dss.length cW2, .slice aP2 b.plc.length cP2, .slice aL2 b.lst.length cL2, .slice aN2 b.nts.length cQ2, .slice aX2 b.nxt.length cX2, .slice aT2 b.sn.length cT2, .slice aF2 b.fr.length cF2, .slice aR2 b.rws.length cR2⟩, _, _, bs, N, by rw [HP.out], by rw [HS.out]; exact HO.out, hbs2, HKK.out⟩
      | exact ⟨⟨.slice aW2 dss.length cW2, .slice aP2 b.plc.length cP2, .slice aL2 b.lst.length cL2, .slice aN2 b.nts.length cQ2, .slice aX2 b.nxt.length cX2, .slice aT2 b.sn.length cT2, .slice aF2 b.fr.length cF2, .slice aR2 b.rws.length cR2⟩, by rw [HP.out], _, _, bs, ⟨N, by rw [HS.out]; exact HO.out⟩, hbs2, HKK.out⟩
  have y1 : decide (s < 0) = false := by simpa using x1
  by_cases x2 : (dss.length : Int) ≤ s
  · have y2 : decide ((dss.length : Int) ≤ s) = true := by simpa using x2
    have hp : qkT dss b s = false := by unfold qkT; rw [decide_eq_false (show ¬ s < (dss.length : Int) by omega), Bool.and_false]; rfl
    have HS : Hid (qkM dss b s = b) := Lib.hid (by unfold qkM; rw [hp]; simp)
    have HP := Lib.hid hp
    clear hp
    have hDw := H5.heapD
    have hRw := hR5
    simp only [BV.arr] at hDw
    have HG := Lib.hid (grown_row3 w5 (w.heap.size + 1) #[.slice aW2 dss.length cW2, .slice aP2 b.plc.length cP2, .slice aL2 b.lst.length cL2, .slice aN2 b.nts.length cQ2, .slice aX2 b.nxt.length cX2, .slice aT2 b.sn.length cT2, .slice aF2 b.fr.length cF2, .slice aR2 b.rws.length cR2])
    have HZ := Lib.hid (setRow_heap w5 (w.heap.size + 1) _ #[.slice aW2 dss.length cW2, .slice aP2 b.plc.length cP2, .slice aL2 b.lst.length cL2, .slice aN2 b.nts.length cQ2, .slice aX2 b.nxt.length cX2, .slice aT2 b.sn.length cT2, .slice aF2 b.fr.length cF2, .slice aR2 b.rws.length cR2] _ _ hRw)
    have hNot : ∀ q, some (w.heap.size + 1) = some q → q < m ∧ (q < bs ∨ N ≤ q) := fun q hq => by have := Option.some.inj hq; omega
    have HO := Lib.hid (((H5.far HG.out hNot).val).base_le (show w.heap.size ≤ m by omega))
    have HKK := Lib.hid ((K5 : Keep w w5).grown HG.out (fun q hq => by have := Option.some.inj hq; omega))
    go_wp2_with (first | refine wpList_load_row rfl 29 _ rfl D rfl 29 _ (0, 0) _ hDw Try.underlying29 rfl board_info ?_ | refine wpList_store_row rfl 29 _ _ rfl (w.heap.size + 1) _ rfl rfl 29 _ hRw board_info rfl (by simp [Value.oneCell']) ?_ | fail)
    refine bodyPost_ret (results_row_tmp (by rfl) _ _ (w.heap.size + 1) _ _ (0, 0) _ (.bool false) rfl HZ.out rfl Try.underlying29 rfl board_info) rfl ?_
    first
      | exact ⟨⟨.slice aW2 dss.length cW2, .slice aP2 b.plc.length cP2, .slice aL2 b.lst.length cL2, .slice aN2 b.nts.length cQ2, .slice aX2 b.nxt.length cX2, .slice aT2 b.sn.length cT2, .slice aF2 b.fr.length cF2, .slice aR2 b.rws.length cR2⟩, _, _, bs, N, by rw [HP.out], by rw [HS.out]; exact HO.out, hbs2, HKK.out⟩
      | exact ⟨⟨.slice aW2 dss.length cW2, .slice aP2 b.plc.length cP2, .slice aL2 b.lst.length cL2, .slice aN2 b.nts.length cQ2, .slice aX2 b.nxt.length cX2, .slice aT2 b.sn.length cT2, .slice aF2 b.fr.length cF2, .slice aR2 b.rws.length cR2⟩, by rw [HP.out], _, _, bs, ⟨N, by rw [HS.out]; exact HO.out⟩, hbs2, HKK.out⟩
  have y2 : decide ((dss.length : Int) ≤ s) = false := by simpa using x2
  obtain ⟨c, hcs⟩ : ∃ c : Nat, s = (c : Int) := ⟨s.toNat, by omega⟩
  have hc : c < dss.length := by omega
  have CQ := CP _ K5 c hc
  rw [← hcs] at CQ
  have e1 : w5.cell? ⟨w.heap.size, 1, none⟩ = some (.slice aP b.plc.length cP) := by rw [cell_of_row w5 _ 1 _ _ _ hB5]; rfl
  have e2 : w5.cell? ⟨w.heap.size, 2, none⟩ = some (.slice aL b.lst.length cL) := by rw [cell_of_row w5 _ 2 _ _ _ hB5]; rfl
  have e3 : w5.cell? ⟨w.heap.size, 3, none⟩ = some (.slice aN b.nts.length cQ) := by rw [cell_of_row w5 _ 3 _ _ _ hB5]; rfl
  have e4 : w5.cell? ⟨w.heap.size, 4, none⟩ = some (.slice aX b.nxt.length cX) := by rw [cell_of_row w5 _ 4 _ _ _ hB5]; rfl
  have e5 : w5.cell? ⟨w.heap.size, 5, none⟩ = some (.slice aT b.sn.length cT) := by rw [cell_of_row w5 _ 5 _ _ _ hB5]; rfl
  have e6 : w5.cell? ⟨w.heap.size, 6, none⟩ = some (.slice aF b.fr.length cF) := by rw [cell_of_row w5 _ 6 _ _ _ hB5]; rfl
  have e7 : w5.cell? ⟨w.heap.size, 7, none⟩ = some (.slice aR b.rws.length cR) := by rw [cell_of_row w5 _ 7 _ _ _ hB5]; rfl
  have HCS := Lib.hid hcs
  clear hcs hB5
  go_wp2_with fail
  refine CQ.mono ?_
  rintro e w7 ⟨rfl, k6⟩
  have H6 := H5.keep k6
  have hR6 := (Below.block k6 (w.heap.size + 1) (by omega)).trans hR5
  have K6 := K5.trans k6
  clear CP CQ hR5 H5 e0 e1 e2 e3 e4 e5 e6 e7
  have hqt : qkT dss b s = canM dss b c := by unfold qkT; rw [decide_eq_true (by omega), decide_eq_true (show s < (dss.length : Int) by omega), HCS.out, Int.toNat_natCast]; rfl
  cases hcan : canM dss b c
  · have hp : qkT dss b s = false := by rw [hqt, hcan]
    clear hqt
    have HS : Hid (qkM dss b s = b) := Lib.hid (by unfold qkM; rw [hp]; simp)
    have HP := Lib.hid hp
    clear hp
    have hDw := H6.heapD
    have hRw := hR6
    simp only [BV.arr] at hDw
    have HG := Lib.hid (grown_row3 w7 (w.heap.size + 1) #[.slice aW2 dss.length cW2, .slice aP2 b.plc.length cP2, .slice aL2 b.lst.length cL2, .slice aN2 b.nts.length cQ2, .slice aX2 b.nxt.length cX2, .slice aT2 b.sn.length cT2, .slice aF2 b.fr.length cF2, .slice aR2 b.rws.length cR2])
    have HZ := Lib.hid (setRow_heap w7 (w.heap.size + 1) _ #[.slice aW2 dss.length cW2, .slice aP2 b.plc.length cP2, .slice aL2 b.lst.length cL2, .slice aN2 b.nts.length cQ2, .slice aX2 b.nxt.length cX2, .slice aT2 b.sn.length cT2, .slice aF2 b.fr.length cF2, .slice aR2 b.rws.length cR2] _ _ hRw)
    have hNot : ∀ q, some (w.heap.size + 1) = some q → q < m ∧ (q < bs ∨ N ≤ q) := fun q hq => by have := Option.some.inj hq; omega
    have HO := Lib.hid (((H6.far HG.out hNot).val).base_le (show w.heap.size ≤ m by omega))
    have HKK := Lib.hid ((K6 : Keep w w7).grown HG.out (fun q hq => by have := Option.some.inj hq; omega))
    go_wp2_with (first | refine wpList_load_row rfl 29 _ rfl D rfl 29 _ (0, 0) _ hDw Try.underlying29 rfl board_info ?_ | refine wpList_store_row rfl 29 _ _ rfl (w.heap.size + 1) _ rfl rfl 29 _ hRw board_info rfl (by simp [Value.oneCell']) ?_ | fail)
    refine bodyPost_ret (results_row_tmp (by rfl) _ _ (w.heap.size + 1) _ _ (0, 0) _ (.bool false) rfl HZ.out rfl Try.underlying29 rfl board_info) rfl ?_
    first
      | exact ⟨⟨.slice aW2 dss.length cW2, .slice aP2 b.plc.length cP2, .slice aL2 b.lst.length cL2, .slice aN2 b.nts.length cQ2, .slice aX2 b.nxt.length cX2, .slice aT2 b.sn.length cT2, .slice aF2 b.fr.length cF2, .slice aR2 b.rws.length cR2⟩, _, _, bs, N, by rw [HP.out], by rw [HS.out]; exact HO.out, hbs2, HKK.out⟩
      | exact ⟨⟨.slice aW2 dss.length cW2, .slice aP2 b.plc.length cP2, .slice aL2 b.lst.length cL2, .slice aN2 b.nts.length cQ2, .slice aX2 b.nxt.length cX2, .slice aT2 b.sn.length cT2, .slice aF2 b.fr.length cF2, .slice aR2 b.rws.length cR2⟩, by rw [HP.out], _, _, bs, ⟨N, by rw [HS.out]; exact HO.out⟩, hbs2, HKK.out⟩
  · have hp : qkT dss b s = true := by rw [hqt, hcan]
    clear hqt
    have HS : Hid (qkM dss b s = quickM dss (eventsB dss) b c) := Lib.hid (by unfold qkM; rw [if_pos hp, HCS.out, Int.toNat_natCast])
    have HP := Lib.hid hp
    have CL := l15Quick_any _ m D _ nv rv bs N dss b c H6 hb hc hcan
    rw [← HCS.out] at CL
    go_wp2_with fail
    refine CL.mono ?_
    rintro e w8 ⟨rfl, nv8, rv8, H8, T8⟩
    have TL := T8.low (m := m) (by have := H6.base; omega) (fun g hg => (H6.blk g hg).1)
    have K8 : Keep w w8 := Below.trans K6 (Below.mono TL (by omega))
    have hR8 := (Below.block TL (w.heap.size + 1) (by omega)).trans hR6
    clear CL H6 T8 TL K6 hR6 hp
    obtain ⟨nb, hnb⟩ : ∃ nb, nb = quickM dss (eventsB dss) b c := ⟨_, rfl⟩
    rw [← hnb] at H8
    replace HS : Hid (qkM dss b s = nb) := Lib.hid (by rw [HS.out, hnb])
    clear hnb
    have hDw := H8.heapD
    have hRw := hR8
    simp only [BV.arr] at hDw
    have HG := Lib.hid (grown_row3 w8 (w.heap.size + 1) #[.slice aW2 dss.length cW2, .slice aP2 b.plc.length cP2, .slice aL2 b.lst.length cL2, .slice aN2 b.nts.length cQ2, .slice aX2 b.nxt.length cX2, .slice aT2 b.sn.length cT2, .slice aF2 b.fr.length cF2, .slice aR2 b.rws.length cR2])
    have HZ := Lib.hid (setRow_heap w8 (w.heap.size + 1) _ #[.slice aW2 dss.length cW2, .slice aP2 b.plc.length cP2, .slice aL2 b.lst.length cL2, .slice aN2 b.nts.length cQ2, .slice aX2 b.nxt.length cX2, .slice aT2 b.sn.length cT2, .slice aF2 b.fr.length cF2, .slice aR2 b.rws.length cR2] _ _ hRw)
    have hNot : ∀ q, some (w.heap.size + 1) = some q → q < m ∧ (q < bs ∨ N ≤ q) := fun q hq => by have := Option.some.inj hq; omega
    have HO := Lib.hid (((H8.far HG.out hNot).val).base_le (show w.heap.size ≤ m by omega))
    have HKK := Lib.hid ((K8 : Keep w w8).grown HG.out (fun q hq => by have := Option.some.inj hq; omega))
    go_wp2_with (first | refine wpList_load_row rfl 29 _ rfl D rfl 29 _ (0, 0) _ hDw Try.underlying29 rfl board_info ?_ | refine wpList_store_row rfl 29 _ _ rfl (w.heap.size + 1) _ rfl rfl 29 _ hRw board_info rfl (by simp [Value.oneCell']) ?_ | fail)
    refine bodyPost_ret (results_row_tmp (by rfl) _ _ (w.heap.size + 1) _ _ (0, 0) _ (.bool true) rfl HZ.out rfl Try.underlying29 rfl board_info) rfl ?_
    first
      | exact ⟨⟨.slice aW2 dss.length cW2, .slice aP2 b.plc.length cP2, .slice aL2 b.lst.length cL2, .slice aN2 b.nts.length cQ2, .slice aX2 b.nxt.length cX2, .slice aT2 b.sn.length cT2, .slice aF2 b.fr.length cF2, .slice aR2 b.rws.length cR2⟩, _, _, bs, N, by rw [HP.out], by rw [HS.out]; exact HO.out, hbs2, HKK.out⟩
      | exact ⟨⟨.slice aW2 dss.length cW2, .slice aP2 b.plc.length cP2, .slice aL2 b.lst.length cL2, .slice aN2 b.nts.length cQ2, .slice aX2 b.nxt.length cX2, .slice aT2 b.sn.length cT2, .slice aF2 b.fr.length cF2, .slice aR2 b.rws.length cR2⟩, by rw [HP.out], _, _, bs, ⟨N, by rw [HS.out]; exact HO.out⟩, hbs2, HKK.out⟩
def qkD (dss : List (List Dd)) (b : Bd) : List (List Dd) := if boardB dss b = true then dss else []
def qkB (dss : List (List Dd)) (b : Bd) (c : Int) : Bd := if boardB dss b = true then qkM dss b c else zBd
theorem specQuick_any (w : World) (bv : BV) (dss : List (List Dd)) (b : Bd) (s : Int) (h : RdBd w bv dss b) (hz : SzBd dss b) :
    Calls Try.prog 9 #[bv.agg, .int .i64 s] w fun e w' => ∃ bv' : BV, e = .returned (.tuple #[bv'.agg, .bool (boardB dss b && qkT dss b s)]) ∧ RdBd w' bv' (qkD dss b) (qkB dss b s) ∧ Keep w w' := by
  unfold qkD qkB
  cases hb : boardB dss b with
  | true =>
    refine (specQuick_right w bv dss b s h hz hb).mono ?_
    rintro e w' ⟨bv', nv, rv, bs, N, rfl, o, -, k⟩
    exact ⟨bv', rfl, by rw [if_pos rfl, if_pos rfl]; exact o.rd0, k⟩
  | false =>
    refine (specQuick_wrong w bv dss b s h hz hb).mono ?_
    rintro e w' ⟨rfl, k⟩
    exact ⟨bd0, rfl, by rw [if_neg (by simp), if_neg (by simp)]; exact rd_zero w', k⟩
theorem sz_quick (dss : List (List Dd)) (b : Bd) (s : Int) : SzBd (qkD dss b) (qkB dss b s) ∧ SumBd (qkD dss b) (qkB dss b s) := by
  unfold qkD qkB qkM
  cases hb : boardB dss b with
  | false => rw [if_neg (by simp), if_neg (by simp)]; exact ⟨sz_zero, by simp [SumBd, lenW, lenG]⟩
  | true =>
    rw [if_pos rfl, if_pos rfl]
    split
    · rename_i hs
      simp only [qkT, Bool.and_eq_true, decide_eq_true_eq] at hs
      exact ((RB.any hb).quick (c := s.toNat) (by omega) hs.2).sz (by omega) (by omega)
    · exact (RB.any hb).sz (by omega) (by omega)
end Go.Proofs.Ytgakfkjjkobpiaa
