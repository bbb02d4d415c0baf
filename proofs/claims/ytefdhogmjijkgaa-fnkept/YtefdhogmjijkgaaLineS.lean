/- Contracts of the specification's Behind, AtOnePlace and Kept. -/
import Derived.Test.YtefdhogmjijkgaaEvOfS
import Derived.Test.YtefdhogmjijkgaaKeptS
import Derived.Test.YtefdhogmjijkgaaOnePlaceS
import Derived.Test.YtefdhogmjijkgaaEvLen2
namespace Go.Proofs.Ytefdhogmjijkgaa
open Go.ChangeShapes Go.WideShapes Go.ChangeAt Go.RowKit

theorem specBehind_any (w : World) (v : Value) (dss : List (List Dd)) (h : RdW w v dss) (hx : dss.length ≤ 1048576) (hm : ∀ i, i < dss.length → (dss.getD i []).length ≤ 1048576) :
    Calls Try.prog 14 #[v] w fun e w' => ∃ v', e = .returned v' ∧ Row w' w.heap.size v' (behL (eventsB dss)) ∧ Keep w w' := by
  cases hb : workB dss
  · have HE : Hid (behL (eventsB dss) = []) := Lib.hid (by rw [eventsB, hb]; rfl)
    go_enter Try.func14, Try.ntmps14
    go_wp2_with fail
    refine (specWorkOk_any _ _ _ h hx hm).mono ?_
    rintro e w1 ⟨rfl, k1⟩
    have s1 := k1.size
    go_wp2
    go_ret
    exact ⟨_, rfl, by rw [HE.out]; exact (row_empty w1 _).base_le s1, k1.alloc _⟩
  · have g12 : (evsW dss dss.length).length ≤ 12 := (events_law hb).1
    obtain ⟨u1, u2⟩ := workB_useS hb
    have HE : Hid (eventsB dss = evsW dss dss.length) := Lib.hid (by rw [eventsB, if_pos hb])
    go_enter Try.func14, Try.ntmps14
    go_wp2_with fail
    refine (specWorkOk_any _ _ _ h hx hm).mono ?_
    rintro e w1 ⟨rfl, k1⟩
    have h := h.keep k1
    have s1 := k1.size
    go_wp2_with fail
    refine (l6Events_any _ _ _ h u1 u2).mono ?_
    rintro e w2 ⟨v2, rfl, a2, k2⟩
    have s2 := k2.size
    go_wp2_with fail
    refine (l7Behind_any _ _ _ a2.rd g12).mono ?_
    rintro e w3 ⟨v3, rfl, r3, k3⟩
    go_wp2
    go_ret
    exact ⟨_, rfl, by rw [HE.out]; exact r3.base_le (by omega), (k1.trans k2).trans k3⟩
theorem specAtOnePlace_any (w : World) (v : Value) (dss : List (List Dd)) (h : RdW w v dss) (hx : dss.length ≤ 1048576) (hm : ∀ i, i < dss.length → (dss.getD i []).length ≤ 1048576) :
    Calls Try.prog 15 #[v] w fun e w' => ∃ v', e = .returned v' ∧ Row w' w.heap.size v' (plcL (eventsB dss)) ∧ Keep w w' := by
  cases hb : workB dss
  · have HE : Hid (plcL (eventsB dss) = []) := Lib.hid (by rw [eventsB, hb]; rfl)
    go_enter Try.func15, Try.ntmps15
    go_wp2_with fail
    refine (specWorkOk_any _ _ _ h hx hm).mono ?_
    rintro e w1 ⟨rfl, k1⟩
    have s1 := k1.size
    go_wp2
    go_ret
    exact ⟨_, rfl, by rw [HE.out]; exact (row_empty w1 _).base_le s1, k1.alloc _⟩
  · have g12 : (evsW dss dss.length).length ≤ 12 := (events_law hb).1
    obtain ⟨u1, u2⟩ := workB_useS hb
    have HE : Hid (eventsB dss = evsW dss dss.length) := Lib.hid (by rw [eventsB, if_pos hb])
    go_enter Try.func15, Try.ntmps15
    go_wp2_with fail
    refine (specWorkOk_any _ _ _ h hx hm).mono ?_
    rintro e w1 ⟨rfl, k1⟩
    have h := h.keep k1
    have s1 := k1.size
    go_wp2_with fail
    refine (l6Events_any _ _ _ h u1 u2).mono ?_
    rintro e w2 ⟨v2, rfl, a2, k2⟩
    have s2 := k2.size
    go_wp2_with fail
    refine (l7Place_any _ _ _ a2.rd g12).mono ?_
    rintro e w3 ⟨v3, rfl, r3, k3⟩
    go_wp2
    go_ret
    exact ⟨_, rfl, by rw [HE.out]; exact r3.base_le (by omega), (k1.trans k2).trans k3⟩
theorem specKept_any (w : World) (v : Value) (dss : List (List Dd)) (h : RdW w v dss) (hx : dss.length ≤ 1048576) (hm : ∀ i, i < dss.length → (dss.getD i []).length ≤ 1048576) :
    Calls Try.prog 13 #[v] w fun e w' => ∃ v', e = .returned v' ∧ Row w' w.heap.size v' (kepL dss (eventsB dss)) ∧ Keep w w' := by
  cases hb : workB dss
  · have HE : Hid (kepL dss (eventsB dss) = []) := Lib.hid (by rw [eventsB, hb]; rfl)
    go_enter Try.func13, Try.ntmps13
    go_wp2_with fail
    refine (specWorkOk_any _ _ _ h hx hm).mono ?_
    rintro e w1 ⟨rfl, k1⟩
    have s1 := k1.size
    go_wp2
    go_ret
    exact ⟨_, rfl, by rw [HE.out]; exact (row_empty w1 _).base_le s1, k1.alloc _⟩
  · have g12 : (evsW dss dss.length).length ≤ 12 := (events_law hb).1
    obtain ⟨u1, u2⟩ := workB_useS hb
    have g3 : 3 ≤ (evsW dss dss.length).length := by
      obtain ⟨⟨t, ht⟩, _⟩ := evs_good u2 dss.length (Nat.le_refl _)
      rw [ht, List.length_append]
      exact Nat.le_add_right _ _
    have hin : ∀ j, 3 ≤ j → j < (evsW dss dss.length).length → ∃ i k : Nat, ((evsW dss dss.length).getD j zE).1 = (i : Int) ∧ ((evsW dss dss.length).getD j zE).2.1 = (k : Int) ∧ i < dss.length ∧ k < (dss.getD i []).length := by
      intro j h3 hj
      obtain ⟨i, k, _, _, _, e1, q1, q2, _⟩ := (events_law hb).2.2.2.2 j h3 hj
      refine ⟨i, k, ?_, ?_, q1, q2⟩
      · rw [List.getD_eq_getElem?_getD, e1]; rfl
      · rw [List.getD_eq_getElem?_getD, e1]; rfl
    have HE : Hid (eventsB dss = evsW dss dss.length) := Lib.hid (by rw [eventsB, if_pos hb])
    go_enter Try.func13, Try.ntmps13
    go_wp2_with fail
    refine (specWorkOk_any _ _ _ h hx hm).mono ?_
    rintro e w1 ⟨rfl, k1⟩
    have h := h.keep k1
    have s1 := k1.size
    go_wp2_with fail
    refine (l6Events_any _ _ _ h u1 u2).mono ?_
    rintro e w2 ⟨v2, rfl, a2, k2⟩
    have s2 := k2.size
    go_wp2_with fail
    refine (l7Kept_any _ _ _ _ _ (h.keep k2) a2.rd g3 g12 hm hin).mono ?_
    rintro e w3 ⟨v3, rfl, r3, k3⟩
    go_wp2
    go_ret
    exact ⟨_, rfl, by rw [HE.out]; exact r3.base_le (by omega), (k1.trans k2).trans k3⟩
end Go.Proofs.Ytefdhogmjijkgaa
