/- Contract of the specification's FromWeb. -/
import Derived.Test.YtkbkdlaknmgjpaaGreatSrcA
import Derived.Test.YtkbkdlaknmgjpaaGreatME
import Derived.Test.YtkbkdlaknmgjpaaGreatMF
namespace Go.Proofs.YtkbkdlaknmgjpaaGreat
open Go.ChangeShapes Go.WideShapes Go.ChangeAt Go.RowKit

theorem specFromWeb_any (w : World) (v vf : Value) (dss : List (List Dd)) (f : List Int) (h : RdW w v dss) (hf : Rd w vf f) (hx : dss.length ≤ 1048576) (hm : ∀ i, i < dss.length → (dss.getD i []).length ≤ 1048576) (hfl : f.length ≤ 1048576) :
    Calls Tryz.prog 16 #[v, vf] w fun e w' => ∃ v', e = .returned v' ∧ Row w' w.heap.size v' (fwB dss f) ∧ Keep w w' := by
  cases hs : sourceB dss f
  · have HE : Hid (fwB dss f = []) := Lib.hid (by rw [fwB, hs]; rfl)
    have C := specSourceOk_any w v vf dss f h hf hx hm hfl
    rw [hs] at C
    go_enter Tryz.func16, Tryz.ntmps16
    go_wp2_with fail
    refine C.mono ?_
    rintro e w1 ⟨rfl, k1⟩
    have s1 := k1.size
    go_wp2
    go_ret
    exact ⟨_, rfl, by rw [HE.out]; exact (row_empty w1 _).base_le s1, k1.alloc _⟩
  · have hs2 := hs
    rw [sourceB, Bool.and_eq_true] at hs2
    obtain ⟨hb, hs2⟩ := hs2
    rw [eventsB, if_pos hb] at hs2
    have HE : Hid (fwB dss f = fwL (evsW dss dss.length) f) := Lib.hid (by rw [fwB, if_pos hs, eventsB, if_pos hb])
    obtain ⟨u1, u2⟩ := workB_useQ hb
    have h12 := (events_law hb).1
    obtain ⟨sl, su⟩ := src_use h12 hs2
    have C := specSourceOk_any w v vf dss f h hf hx hm hfl
    rw [hs] at C
    go_enter Tryz.func16, Tryz.ntmps16
    go_wp2_with fail
    refine C.mono ?_
    rintro e w1 ⟨rfl, k1⟩
    have s1 := k1.size
    go_wp2_with fail
    refine (l6Events_any _ _ _ (h.keep k1) u1 u2).mono ?_
    rintro e w2 ⟨v2, rfl, a2, k2⟩
    have s2 := k2.size
    go_wp2_with fail
    refine (l8Web_any _ _ _ _ _ a2.rd (hf.keep (k1.trans k2)) h12 (by omega) (fun i hi => (su i hi).1)).mono ?_
    rintro e w3 ⟨v3, rfl, r3, k3⟩
    go_wp2
    go_ret
    exact ⟨_, rfl, by rw [HE.out]; exact r3.base_le (by omega), (k1.trans k2).trans k3⟩
end Go.Proofs.YtkbkdlaknmgjpaaGreat
