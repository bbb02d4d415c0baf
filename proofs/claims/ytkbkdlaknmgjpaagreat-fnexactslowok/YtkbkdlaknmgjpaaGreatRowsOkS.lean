/- Contract of the specification's RowsOk. -/
import Derived.Test.YtkbkdlaknmgjpaaGreatME
import Derived.Test.YtkbkdlaknmgjpaaGreatWorkUse
namespace Go.Proofs.YtkbkdlaknmgjpaaGreat
open Go.ChangeShapes Go.WideShapes Go.ChangeAt Go.RowKit

theorem specRowsOk_any (w : World) (v vf : Value) (dss : List (List Dd)) (f : List Int) (h : RdW w v dss) (hf : Rd w vf f) (hcap : f.length ≤ capZ vf) (hx : dss.length ≤ 1048576) (hm : ∀ i, i < dss.length → (dss.getD i []).length ≤ 1048576) (hfl : f.length ≤ 1048576) :
    Calls Tryz.prog 61 #[v, vf] w fun e w' => e = .returned (.bool (rowsB dss f)) ∧ Keep w w' := by
  cases hb : workB dss
  · have HE : Hid (rowsB dss f = false) := Lib.hid (by rw [rowsB, hb]; rfl)
    go_enter Tryz.func61, Tryz.ntmps61
    go_wp2_with fail
    refine (specWorkOk_any _ _ _ h hx hm).mono ?_
    rw [hb]
    rintro e w1 ⟨rfl, k1⟩
    go_wp2
    go_ret
    exact ⟨by rw [HE.out]; rfl, k1⟩
  · have HE : Hid (rowsB dss f = rowsL (evsW dss dss.length) f) := Lib.hid (by rw [rowsB, hb, eventsB, if_pos hb]; rfl)
    obtain ⟨u1, u2⟩ := workB_useR hb
    have h9 := evsW_9 hb
    have hp := plcW_pos hb
    have C := specWorkOk_any w v dss h hx hm
    rw [hb] at C
    go_enter Tryz.func61, Tryz.ntmps61
    go_wp2_with fail
    refine C.mono ?_
    rintro e w1 ⟨rfl, k1⟩
    go_wp2_with fail
    refine (l6Events_any _ _ _ (h.keep k1) u1 u2).mono ?_
    rintro e w2 ⟨v2, rfl, a2, k2⟩
    go_wp2_with fail
    refine (l9Ok_any _ _ _ _ _ a2.rd (hf.keep (k1.trans k2)) hcap (by omega) hfl hp).mono ?_
    rintro e w3 ⟨rfl, k3⟩
    generalize rowsL (evsW dss dss.length) f = R at HE
    go_wp2
    go_ret
    exact ⟨by rw [HE.out]; rfl, (k1.trans k2).trans k3⟩
end Go.Proofs.YtkbkdlaknmgjpaaGreat
