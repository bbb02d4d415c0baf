/- Contract of the program's EachOk. -/
import Derived.Test.YtkbkdlaknmgjpaaGreatPwI
import Derived.Test.YtkbkdlaknmgjpaaGreatTokI
import Derived.Test.YtkbkdlaknmgjpaaGreatRoundI
import Derived.Test.YtkbkdlaknmgjpaaGreatMC
namespace Go.Proofs.YtkbkdlaknmgjpaaGreat
open Go.ChangeShapes Go.WideShapes Go.ChangeAt Go.RowKit

set_option maxRecDepth 100000 in
set_option maxHeartbeats 2000000 in
theorem implEachOk_any (w : World) (v vF vR : Value) (dss : List (List Dd)) (f rows : List Int) (h : RdW w v dss) (hf : Rd w vF f) (hr : Rd w vR rows) (hcap : rows.length ≤ capZ vR) (hx : dss.length ≤ 1048576) (hm : ∀ i, i < dss.length → (dss.getD i []).length ≤ 1048576) (hfl : f.length ≤ 1048576) (hrl : rows.length ≤ 1048576) :
    Calls Tryz.prog 36 #[v, .agg #[vF, vR]] w fun e w' => e = .returned (.bool (eachB dss f rows)) ∧ Keep w w' := by
  have C := fun (W : World) (kW : Keep w W) => implTaleOk_any W v vF vR dss f rows (h.keep kW) (hf.keep kW) (hr.keep kW) hcap hx hm hfl hrl
  have CP := fun (W : World) (kW : Keep w W) => implPlaceWeb_any W v vF vR dss f rows (h.keep kW) (hf.keep kW) (hr.keep kW) hcap hx hm hfl hrl
  have lP : (pwB dss f rows).length ≤ 1048576 := by have := pwB_len dss f rows; omega
  obtain ⟨aF, cF, rfl, -⟩ := hf
  obtain ⟨aR, cR, rfl, -⟩ := hr
  cases hb : taleB dss f rows
  · have HE : Hid (eachB dss f rows = false) := Lib.hid (by rw [eachB, hb]; rfl)
    rw [hb] at C
    clear CP lP hb
    generalize eachB dss f rows = T at *
    go_enter Tryz.func36, Tryz.ntmps36
    go_wp2_with fail
    refine (C _ ((Keep.refl w).alloc _)).mono ?_
    rintro e w1 ⟨rfl, k1⟩
    have K1 := ((Keep.refl w).alloc _).trans k1
    go_wp2
    go_ret
    exact ⟨ret_bool (by rw [HE.out]), K1⟩
  · have HE : Hid (eachB dss f rows = !roundB (pwB dss f rows)) := Lib.hid (by rw [eachB, pwB, hb]; rfl)
    rw [hb] at C
    clear hb
    generalize eachB dss f rows = T at *
    generalize pwB dss f rows = L at *
    go_enter Tryz.func36, Tryz.ntmps36
    go_wp2_with fail
    refine (C _ ((Keep.refl w).alloc _)).mono ?_
    rintro e w1 ⟨rfl, k1⟩
    have K1 := ((Keep.refl w).alloc _).trans k1
    have b0 := box_cell k1 0
    have b1 := box_cell k1 1
    simp at b0 b1
    clear k1 C
    go_wp2_with fail
    refine (CP _ K1).mono ?_
    rintro e w2 ⟨v2, rfl, o2, k2⟩
    clear CP b0 b1
    go_wp2_with fail
    refine (implRound_any _ _ _ o2.rd lP).mono ?_
    rintro e w3 ⟨rfl, k3⟩
    have K3 := (K1.trans k2).trans k3
    generalize roundB L = R at *
    go_wp2
    go_ret
    exact ⟨ret_bool (by rw [HE.out]), K3⟩
end Go.Proofs.YtkbkdlaknmgjpaaGreat
