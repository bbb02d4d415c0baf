/- Contract of the program's TalesCount. -/
import Derived.Test.YtgolhjmbloiakaaCntI
import Derived.Test.YtgolhjmbloiakaaRcntI
import Derived.Test.YtgolhjmbloiakaaTaleCnt
namespace Go.Proofs.Ytgolhjmbloiakaa
open Go.ChangeShapes Go.WideShapes Go.ChangeAt Go.RowKit

theorem implTalesCount_any (w : World) (v : Value) (dss : List (List Dd)) (h : RdW w v dss) (hx : dss.length ≤ 1048576) (hm : ∀ i, i < dss.length → (dss.getD i []).length ≤ 1048576) :
    Calls Try.prog 11 #[v] w fun e w' => e = .returned (.int .i64 (tcB dss)) ∧ Keep w w' := by
  have C := implWorkOk_any w v dss h hx hm
  cases hb : workB dss
  · have HE : Hid (tcB dss = -1) := Lib.hid (by rw [tcB, hb]; rfl)
    rw [hb] at C
    go_enter Try.func11, Try.ntmps11
    go_wp2_with fail
    refine C.mono ?_
    rintro e w1 ⟨rfl, k1⟩
    go_wp2
    go_ret
    exact ⟨by rw [HE.out]; rfl, k1⟩
  · have HE : Hid (tcB dss = cntB dss * rcntB dss) := Lib.hid (by rw [tcB, if_pos hb])
    have c1 := cnt_six hb
    have c2 := rcnt_six hb
    have c3 := tcB_in dss
    rw [HE.out] at c3
    have HW : Hid (IntKind.i64.wrap (cntB dss * rcntB dss) = cntB dss * rcntB dss) := Lib.hid (by rw [IntKind.wrap_i64]; omega)
    rw [hb] at C
    have CS := fun (W : World) (kW : Keep w W) => implSourcesCount_any W v dss (h.keep kW) hx hm
    have CR := fun (W : World) (kW : Keep w W) => implRowsCount_any W v dss (h.keep kW) hx hm
    generalize cntB dss = m1 at *
    generalize rcntB dss = m2 at *
    have hw := HW.out
    clear c3
    go_enter Try.func11, Try.ntmps11
    go_wp2_with fail
    refine C.mono ?_
    rintro e w1 ⟨rfl, k1⟩
    go_wp2_with fail
    refine (CS _ k1).mono ?_
    rintro e w2 ⟨rfl, k2⟩
    go_wp2_with fail
    refine (CR _ (k1.trans k2)).mono ?_
    rintro e w3 ⟨rfl, k3⟩
    go_wp2
    go_ret
    exact ⟨by rw [HE.out]; rfl, (k1.trans k2).trans k3⟩
end Go.Proofs.Ytgolhjmbloiakaa
