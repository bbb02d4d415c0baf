/- Contract of the specification's EventsIn. -/
import Derived.Test.YtljamlgnobpjeaaGreatDoorWorkOkS
namespace Go.Proofs.YtljamlgnobpjeaaGreatDoor
open Go.ChangeShapes Go.WideShapes Go.ChangeAt Go.RowKit

def evB (dss : List (List Dd)) : Int := if workB dss = true then evW dss dss.length else -1
theorem workB_use {dss : List (List Dd)} (h : workB dss = true) : dss.length ≤ 3 ∧ ∀ i, i < dss.length → okL (dss.getD i []) = true := by
  simp only [workB, Bool.and_eq_true, decide_eq_true_eq] at h
  obtain ⟨⟨⟨⟨h1, h2⟩, _⟩, _⟩, _⟩ := h
  exact ⟨h1.2, fun i hi => all_get [] h2 i hi⟩
theorem specEventsIn_any (w : World) (v : Value) (dss : List (List Dd)) (h : RdW w v dss) (hx : dss.length ≤ 1048576) (hm : ∀ i, i < dss.length → (dss.getD i []).length ≤ 1048576) :
    Calls Tryz.prog 13 #[v] w fun e w' => e = .returned (.int .i64 (evB dss)) ∧ Keep w w' := by
  cases hb : workB dss
  · have HE : Hid (evB dss = -1) := Lib.hid (by rw [evB, hb]; rfl)
    go_enter Tryz.func13, Tryz.ntmps13
    go_wp2_with fail
    refine (specWorkOk_any _ _ _ h hx hm).mono ?_
    rintro e w1 ⟨rfl, k1⟩
    go_wp2
    go_ret
    exact ⟨by rw [HE.out]; rfl, k1⟩
  · have HE : Hid (evB dss = evW dss dss.length) := Lib.hid (by rw [evB, if_pos hb])
    obtain ⟨u1, u2⟩ := workB_use hb
    go_enter Tryz.func13, Tryz.ntmps13
    go_wp2_with fail
    refine (specWorkOk_any _ _ _ h hx hm).mono ?_
    rintro e w1 ⟨rfl, k1⟩
    have h := h.keep k1
    go_wp2_with fail
    refine (l5Events_any _ _ _ h u1 u2).mono ?_
    rintro e w2 ⟨rfl, k2⟩
    go_wp2
    go_ret
    exact ⟨by rw [HE.out]; rfl, k1.trans k2⟩
end Go.Proofs.YtljamlgnobpjeaaGreatDoor
