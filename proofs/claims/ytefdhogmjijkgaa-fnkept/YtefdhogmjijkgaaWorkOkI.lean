/- Contract of the program's WorkOk. -/
import Derived.Test.YtefdhogmjijkgaaClerkR
import Derived.Test.YtefdhogmjijkgaaClerkC
namespace Go.Proofs.Ytefdhogmjijkgaa
open Go.ChangeShapes Go.WideShapes Go.ChangeAt Go.RowKit

theorem lenW_moreC (d : List Dd) : ∀ l : List (List Dd), lenW (l ++ [d]) = lenW l + d.length
  | [] => by simp [lenW]
  | x :: r => by rw [List.cons_append, lenW, lenW, lenW_moreC d r]; omega
theorem take_moreC {α : Type} (l : List α) (k : Nat) (z : α) (h : k < l.length) : l.take (k + 1) = l.take k ++ [l.getD k z] := by
  rw [List.take_add_one, List.getElem?_eq_getElem h, List.getD_eq_getElem?_getD, List.getElem?_eq_getElem h]
  rfl
theorem rightB_len {ds : List Dd} {t : Int} (h : rightB ds t = true) : ds.length ≤ 5 := by
  simp only [rightB, Bool.and_eq_true, decide_eq_true_eq] at h
  exact h.1.1.1
set_option maxRecDepth 100000 in
set_option maxHeartbeats 4000000 in
theorem implWorkOk_any (w : World) (v : Value) (dss : List (List Dd)) (h : RdW w v dss) (hx : dss.length ≤ 1048576) (hm : ∀ i, i < dss.length → (dss.getD i []).length ≤ 1048576) :
    Calls Try.prog 74 #[v] w fun e w' => e = .returned (.bool (workB dss)) ∧ Keep w w' := by
  have RW := h
  obtain ⟨a, c, rfl, h⟩ := h
  clear h
  have HW := Lib.hid (work_rights dss)
  cases hb : inB (dss.length : Int) 1 3
  · have HE : Hid (workB dss = false) := by
      refine Lib.hid ?_
      simp [inB] at hb
      rw [HW.out, decide_eq_false (by omega)]
      rfl
    go_enter Try.func74, Try.ntmps74
    go_wp2_with (go_at_call 88; refine (isFrom_any _ _ _ _).mono ?_; rintro e w' ⟨rfl, rfl⟩)
    go_ret
    exact ⟨by rw [HE.out]; rfl, Keep.refl _⟩
  · have h13 : 1 ≤ dss.length ∧ dss.length ≤ 3 := by simp [inB] at hb; omega
    have HW2 : Hid (workB dss = (rightsW dss dss.length && decide (lenW dss ≤ 12) && decide (evW dss dss.length ≤ 6))) := Lib.hid (by rw [HW.out, decide_eq_true h13]; rfl)
    have h3 := h13.2
    clear h13 HW
    go_enter Try.func74, Try.ntmps74
    go_wp2_with fail
    refine (isFrom_any _ _ _ _).mono ?_
    rintro e w' ⟨rfl, rfl⟩
    go_wp2_with fail
    refine (clerksOf_any _ _ _ RW h3 hm).mono ?_
    rintro e w1 ⟨v1, rfl, rc, k1⟩
    clear hb RW
    obtain ⟨a1, c1, rfl, rc⟩ := rc
    go_wp2
    go_loopw [3, 4, 14] (fun n m i wr => ∃ k x : Nat, ∃ y : Int, k ≤ dss.length ∧ n = .int .i64 x ∧ m = .int .i64 y ∧ i = .int .i64 k ∧ Hid (x = lenW (dss.take k) ∧ y = evW dss k ∧ rightsW dss k = true) ∧ x ≤ 5 * k ∧ 0 ≤ y ∧ y ≤ 10 * k ∧ Keep w1 wr) (fun _ _ i _ => dss.length - (intOf i).toNat)
    case atStart => exact ⟨0, 0, 0, Nat.zero_le _, rfl, rfl, rfl, Lib.hid ⟨by simp [lenW], rfl, rfl⟩, by omega, by omega, by omega, Keep.refl _⟩
    case round =>
      obtain ⟨k, x, y, hk, rfl, rfl, rfl, hM, x5, y0, y1, hK⟩ := hrel
      by_cases hlt : k < dss.length
      · rcases rc with h | ⟨b, rfl, hb, hc⟩
        · exfalso; rw [h] at hlt; simp at hlt
        obtain ⟨vi, e1, r1, e2⟩ := hc k hlt
        have hmk := hm k hlt
        clear hc hm
        have HR : Hid (rightsW dss (k + 1) = (rightsW dss k && rightB (dss.getD k []) (takW dss k))) := Lib.hid rfl
        have HV : Hid (evW dss (k + 1) = evW dss k + evK (dss.getD k []) (dss.getD k []).length) := Lib.hid rfl
        have HN : Hid (lenW (dss.take (k + 1)) = lenW (dss.take k) + (dss.getD k []).length) := Lib.hid (by rw [take_moreC dss k [] hlt, lenW_moreC])
        obtain ⟨ds, hds⟩ : ∃ ds, ds = dss.getD k [] := ⟨_, rfl⟩
        rw [← hds] at r1 hmk HR HV HN
        clear hds
        generalize takW dss k = t at e2 HR
        have d1 := (hK.cell hb).trans e1
        have d2 := (hK.cell hb).trans e2
        have r1 := r1.keep hK
        obtain ⟨ai, ci, rfl, -⟩ := id r1
        have hbw : b < wr.heap.size := Nat.lt_of_lt_of_le hb hK.size
        have i1 : (0 : Int) ≤ (k : Int) := Int.natCast_nonneg _
        have i2 : (k : Int) < (dss.length : Int) := by omega
        clear e1 e2
        cases hr : rightB ds t
        · have HE : Hid (workB dss = false) := Lib.hid (by
            rw [HW2.out, rightsW_false (k := k + 1) (by rw [HR.out, hr]; simp) _ hlt]
            rfl)
          have HRR := Lib.hid hr
          clear hr
          go_wp2_with fail
          refine (isRight_any _ _ _ _ (r1.keep ((Keep.refl _).alloc _)) hmk).mono ?_
          rw [HRR.out]
          rintro e wz ⟨rfl, kk⟩
          go_wp2
          go_ret
          exact ⟨by rw [HE.out]; rfl, k1.trans ((hK.alloc _).trans kk)⟩
        · have l5 := rightB_len hr
          have HRR := Lib.hid hr
          have EK := evK_in ds ds.length
          clear hr
          go_wp2_with fail
          refine (isRight_any _ _ _ _ (r1.keep ((Keep.refl _).alloc _)) hmk).mono ?_
          rw [HRR.out]
          rintro e wz ⟨rfl, kk⟩
          have b0 : wz.cell? ⟨wr.heap.size, 0, none⟩ = some (.slice ai ds.length (ds.length + ci)) := box_cell kk 0
          have bs : wr.heap.size < wz.heap.size := box_size kk
          have r2 := r1.keep (((Keep.refl _).alloc _).trans kk)
          have hKz := (hK.alloc (.cells #[.slice ai ds.length (ds.length + ci), .int .i64 t] 90)).trans kk
          clear d1 d2 kk
          go_wp2_with fail
          refine (count_any _ _ _ _).mono ?_
          rintro e w3 ⟨rfl, rfl⟩
          go_wp2_with fail
          refine (events_any _ _ _ r2 hmk).mono ?_
          rintro e w4 ⟨rfl, k4⟩
          have HH : Hid (x + ds.length = lenW (dss.take (k + 1)) ∧ y + evK ds ds.length = evW dss (k + 1) ∧ rightsW dss (k + 1) = true) := Lib.hid ⟨by rw [HN.out, hM.out.1], by rw [HV.out, hM.out.2.1], by rw [HR.out, hM.out.2.2, HRR.out]; rfl⟩
          generalize evK ds ds.length = ev at EK HH
          go_wp2
          go_roundw
          case rel => exact ⟨k + 1, x + ds.length, y + ev, by omega, by go_num, by go_num, by go_num, HH, by omega, by omega, by omega, hKz.trans k4⟩
          case measure => simp [intOf]; omega
      · obtain rfl : k = dss.length := by omega
        rw [List.take_length] at hM
        have HE : Hid (workB dss = (decide (x ≤ 12) && decide (y ≤ 6))) := Lib.hid (by rw [HW2.out, hM.out.2.2, hM.out.1, hM.out.2.1]; rfl)
        clear hM HW2 rc hm
        by_cases h12 : x ≤ 12
        · have e12 : (x : Int) ≤ 12 := by omega
          by_cases h6 : y ≤ 6
          · go_wp2
            go_ret
            exact ⟨by rw [HE.out, decide_eq_true h12, decide_eq_true h6]; rfl, k1.trans hK⟩
          · have e6 : (6 : Int) < y := by omega
            go_wp2
            go_ret
            exact ⟨by rw [HE.out, decide_eq_true h12, decide_eq_false (show ¬ y ≤ 6 by omega)]; rfl, k1.trans hK⟩
        · have e12 : (12 : Int) < (x : Int) := by omega
          go_wp2
          go_ret
          exact ⟨by rw [HE.out, decide_eq_false (show ¬ x ≤ 12 by omega)]; rfl, k1.trans hK⟩
end Go.Proofs.Ytefdhogmjijkgaa
