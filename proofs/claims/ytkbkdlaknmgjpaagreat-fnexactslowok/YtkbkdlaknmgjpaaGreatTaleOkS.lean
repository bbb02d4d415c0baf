/- Contract of the specification's TaleOk. -/
import Derived.Test.YtkbkdlaknmgjpaaGreatME
import Derived.Test.YtkbkdlaknmgjpaaGreatRowsOkS
import Derived.Test.YtkbkdlaknmgjpaaGreatMB
import Derived.Test.YtkbkdlaknmgjpaaGreatMD
namespace Go.Proofs.YtkbkdlaknmgjpaaGreat
open Go.ChangeShapes Go.WideShapes Go.ChangeAt Go.RowKit

theorem specTaleOk_any (w : World) (v vF vR : Value) (dss : List (List Dd)) (f rows : List Int) (h : RdW w v dss) (hf : Rd w vF f) (hr : Rd w vR rows) (hcap : rows.length ≤ capZ vR) (hx : dss.length ≤ 1048576) (hm : ∀ i, i < dss.length → (dss.getD i []).length ≤ 1048576) (hfl : f.length ≤ 1048576) (hrl : rows.length ≤ 1048576) :
    Calls Tryz.prog 19 #[v, .agg #[vF, vR]] w fun e w' => e = .returned (.bool (taleB dss f rows)) ∧ Keep w w' := by
  have CS := fun (W : World) (kW : Keep w W) => specSourceOk_any W v vF dss f (h.keep kW) (hf.keep kW) hx hm hfl
  have CR := fun (W : World) (kW : Keep w W) => specRowsOk_any W v vR dss rows (h.keep kW) (hr.keep kW) hcap hx hm hrl
  obtain ⟨aF, cF, rfl, -⟩ := hf
  obtain ⟨aR, cR, rfl, -⟩ := hr
  have HE : Hid (taleB dss f rows = (sourceB dss f && rowsB dss rows)) := Lib.hid rfl
  generalize sourceB dss f = S at CS HE
  generalize rowsB dss rows = R at CR HE
  go_enter Tryz.func19, Tryz.ntmps19
  go_wp2_with fail
  refine (CS _ ((Keep.refl w).alloc _)).mono ?_
  rintro e w1 ⟨rfl, k1⟩
  have c0 := box_cell k1 0
  have c1 := box_cell k1 1
  simp at c0 c1
  have K1 := ((Keep.refl w).alloc _).trans k1
  cases S
  · go_wp2
    go_ret
    exact ⟨by rw [HE.out]; rfl, K1⟩
  · go_wp2_with fail
    refine (CR _ K1).mono ?_
    rintro e w2 ⟨rfl, k2⟩
    go_wp2
    go_ret
    exact ⟨by rw [HE.out]; rfl, K1.trans k2⟩
end Go.Proofs.YtkbkdlaknmgjpaaGreat
