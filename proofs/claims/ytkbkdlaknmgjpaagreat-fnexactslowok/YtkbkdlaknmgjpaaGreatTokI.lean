/- Contract of the program's TaleOk. -/
import Derived.Test.YtkbkdlaknmgjpaaGreatMD
namespace Go.Proofs.YtkbkdlaknmgjpaaGreat
open Go.ChangeShapes Go.WideShapes Go.ChangeAt Go.RowKit

set_option maxRecDepth 100000 in
theorem implTaleOk_any (w : World) (v vF vR : Value) (dss : List (List Dd)) (f rows : List Int) (h : RdW w v dss) (hf : Rd w vF f) (hr : Rd w vR rows) (hcap : rows.length ≤ capZ vR) (hx : dss.length ≤ 1048576) (hm : ∀ i, i < dss.length → (dss.getD i []).length ≤ 1048576) (hfl : f.length ≤ 1048576) (hrl : rows.length ≤ 1048576) :
    Calls Tryz.prog 74 #[v, .agg #[vF, vR]] w fun e w' => e = .returned (.bool (taleB dss f rows)) ∧ Keep w w' := by
  have C := fun (W : World) (kW : Keep w W) => pageOf_any W v vF vR dss f rows (h.keep kW) (hf.keep kW) (hr.keep kW) hcap hx hm hfl hrl
  have CB := fun (W : World) => isBlank_any W (pageB dss f rows) (pageB_len dss f rows)
  have HB : Hid (blankB (pageB dss f rows) = !taleB dss f rows) := Lib.hid (page_blank dss f rows)
  obtain ⟨aF, cF, rfl, -⟩ := hf
  obtain ⟨aR, cR, rfl, -⟩ := hr
  rw [HB.out] at CB
  generalize taleB dss f rows = T at CB ⊢
  generalize pgV (pageB dss f rows) = P at C CB
  clear HB
  go_enter Tryz.func74, Tryz.ntmps74
  go_wp2_with fail
  refine (C _ ((Keep.refl w).alloc _)).mono ?_
  rintro e w1 ⟨rfl, k1⟩
  go_wp2_with fail
  refine (CB _).mono ?_
  rintro e w2 ⟨rfl, k2⟩
  go_wp2
  go_ret
  exact ⟨by simp, (((Keep.refl w).alloc _).trans k1).trans k2⟩
end Go.Proofs.YtkbkdlaknmgjpaaGreat
