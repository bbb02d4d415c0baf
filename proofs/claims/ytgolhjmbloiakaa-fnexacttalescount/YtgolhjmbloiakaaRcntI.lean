/- Contracts of the program's RowsCount and RowsAt. -/
import Derived.Test.YtgolhjmbloiakaaMC
import Derived.Test.YtgolhjmbloiakaaWalkI
import Derived.Test.YtgolhjmbloiakaaMB
namespace Go.Proofs.Ytgolhjmbloiakaa
open Go.ChangeShapes Go.WideShapes Go.ChangeAt Go.RowKit

theorem rcnt_top {es : List Ev} (hx : es.length ≤ 9) : rcntL es ≤ 47784725839872000 := by
  have a0 := fac_mono9 (m := (plcW es 0).length - 1) (by have := plcW_9 hx 0; omega)
  have a1 := fac_mono9 (m := (plcW es 1).length - 1) (by have := plcW_9 hx 1; omega)
  have a2 := fac_mono9 (m := (plcW es 2).length - 1) (by have := plcW_9 hx 2; omega)
  have b0 := fac_pos ((plcW es 0).length - 1)
  have b1 := fac_pos ((plcW es 1).length - 1)
  have b2 := fac_pos ((plcW es 2).length - 1)
  unfold rcntL
  have h1 := Int.mul_le_mul a0 a1 (by omega) (by omega)
  have h2 := Int.mul_le_mul h1 a2 (by omega) (by omega)
  omega
theorem all_len {dss : List (List Dd)} (hb : workB dss = true) : ((allS (seatsL (eventsB dss)) []).length : Int) = rcntL (eventsB dss) := by
  rw [all_rows hb, List.length_map, List.length_range]
  have := rcnt_pos (eventsB dss)
  omega
theorem all_top (dss : List (List Dd)) : (allS (seatsL (eventsB dss)) []).length ≤ 1000000000000000000 := by
  cases hb : workB dss
  · rw [all_none hb]; simp
  · have h1 := all_len hb
    have h2 := rcnt_top (eventsB_len9 dss)
    omega
theorem wr_same (dss : List (List Dd)) (n : Int) : wrB (allS (seatsL (eventsB dss)) []) n = ratB dss n := by
  cases hb : workB dss
  · have hc : rcntB dss = -1 := by unfold rcntB; rw [hb]; rfl
    rw [all_none hb]
    unfold wrB ratB
    rw [hc, if_neg (show ¬ (0 ≤ n ∧ n < (-1 : Int)) by omega)]
    split
    · rename_i h
      have : n = 0 := by simp at h; omega
      subst this
      rfl
    · rfl
  · have hc : rcntB dss = rcntL (eventsB dss) := by unfold rcntB; rw [hb]; rfl
    have hl := all_len hb
    unfold wrB ratB
    rw [hl, hc]
    split
    · rename_i h
      rw [all_rows hb, List.getD_eq_getElem?_getD, List.getElem?_map, List.getElem?_range (by omega)]
      show ratL (eventsB dss) ((n.toNat : Nat) : Int) = ratL (eventsB dss) n
      rw [Int.toNat_of_nonneg h.1]
    · rfl
theorem wc_same {dss : List (List Dd)} (hb : workB dss = true) : wcB (allS (seatsL (eventsB dss)) []) (-1) = rcntB dss := by
  unfold wcB rcntB
  rw [if_neg (by omega), all_len hb, if_pos hb]
set_option maxHeartbeats 1000000 in
theorem implRowsCount_any (w : World) (v : Value) (dss : List (List Dd)) (h : RdW w v dss) (hx : dss.length ≤ 1048576) (hm : ∀ i, i < dss.length → (dss.getD i []).length ≤ 1048576) :
    Calls Try.prog 42 #[v] w fun e w' => e = .returned (.int .i64 (rcntB dss)) ∧ Keep w w' := by
  have h12 : (eventsB dss).length ≤ 12 := by have := eventsB_len9 dss; omega
  have CW := implWorkOk_any w v dss h hx hm
  cases hb : workB dss
  · have HN : Hid (rcntB dss = -1) := Lib.hid (by unfold rcntB; rw [hb]; rfl)
    rw [hb] at CW
    go_enter Try.func42, Try.ntmps42
    go_wp2_with fail
    refine CW.mono ?_
    rintro e w1 ⟨rfl, k1⟩
    go_wp2
    go_ret
    exact ⟨by rw [HN.out]; rfl, k1⟩
  · have HN : Hid (rcntB dss = wcB (allS (seatsL (eventsB dss)) []) (-1)) := Lib.hid (wc_same hb).symm
    rw [hb] at CW
    go_enter Try.func42, Try.ntmps42
    go_wp2_with fail
    refine CW.mono ?_
    rintro e w1 ⟨rfl, k1⟩
    go_wp2_with fail
    refine (implEventsOf_any _ _ _ (h.keep k1) hx hm).mono ?_
    rintro e w2 ⟨v2, rfl, a2, k2⟩
    go_wp2_with fail
    refine (seatsOf_any _ _ _ a2.rd h12).mono ?_
    rintro e w3 ⟨v3, rfl, rc, k3⟩
    go_wp2_with fail
    refine (walkedRows_any _ _ _ (-1) rc (by have := seats_36 h12; omega) (fun i hi => ⟨(seat_rises h12 hi).1, by have := (seat_rises h12 hi).2; omega⟩) (all_top dss)).mono ?_
    rintro e w4 ⟨v4, rfl, o4, k4⟩
    go_wp2
    go_ret
    exact ⟨by rw [HN.out]; rfl, ((k1.trans k2).trans k3).trans k4⟩
set_option maxHeartbeats 1000000 in
theorem implRowsAt_own (w : World) (v : Value) (dss : List (List Dd)) (n : Int) (h : RdW w v dss) (hx : dss.length ≤ 1048576) (hm : ∀ i, i < dss.length → (dss.getD i []).length ≤ 1048576) :
    Calls Try.prog 44 #[v, .int .i64 n] w fun e w' => ∃ v', e = .returned v' ∧ Own w' w.heap.size v' (ratB dss n) ∧ Keep w w' := by
  have h12 : (eventsB dss).length ≤ 12 := by have := eventsB_len9 dss; omega
  have HN : Hid (ratB dss n = wrB (allS (seatsL (eventsB dss)) []) n) := Lib.hid (wr_same dss n).symm
  go_enter Try.func44, Try.ntmps44
  go_wp2_with fail
  refine (implEventsOf_any _ _ _ h hx hm).mono ?_
  rintro e w2 ⟨v2, rfl, a2, k2⟩
  go_wp2_with fail
  refine (seatsOf_any _ _ _ a2.rd h12).mono ?_
  rintro e w3 ⟨v3, rfl, rc, k3⟩
  go_wp2_with fail
  refine (walkedRows_any _ _ _ n rc (by have := seats_36 h12; omega) (fun i hi => ⟨(seat_rises h12 hi).1, by have := (seat_rises h12 hi).2; omega⟩) (all_top dss)).mono ?_
  rintro e w4 ⟨v4, rfl, o4, k4⟩
  have hs := (k2.trans k3).size
  go_wp2
  go_ret
  exact ⟨_, rfl, by rw [HN.out]; exact o4.base_le hs, (k2.trans k3).trans k4⟩
theorem implRowsAt_cap (w : World) (v : Value) (dss : List (List Dd)) (n : Int) (h : RdW w v dss) (hx : dss.length ≤ 1048576) (hm : ∀ i, i < dss.length → (dss.getD i []).length ≤ 1048576) :
    Calls Try.prog 44 #[v, .int .i64 n] w fun e w' => ∃ v', e = .returned v' ∧ Row w' w.heap.size v' (ratB dss n) ∧ (ratB dss n).length ≤ capZ v' ∧ Keep w w' :=
  (implRowsAt_own w v dss n h hx hm).mono (fun _ _ ⟨v', he, ho, k⟩ => ⟨v', he, ho.row, ho.capz, k⟩)
theorem implRowsAt_any (w : World) (v : Value) (dss : List (List Dd)) (n : Int) (h : RdW w v dss) (hx : dss.length ≤ 1048576) (hm : ∀ i, i < dss.length → (dss.getD i []).length ≤ 1048576) :
    Calls Try.prog 44 #[v, .int .i64 n] w fun e w' => ∃ v', e = .returned v' ∧ Row w' w.heap.size v' (ratB dss n) ∧ Keep w w' :=
  (implRowsAt_own w v dss n h hx hm).mono (fun _ _ ⟨v', he, ho, k⟩ => ⟨v', he, ho.row, k⟩)
end Go.Proofs.Ytgolhjmbloiakaa
