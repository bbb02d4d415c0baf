/- Contract of the specification's FromOthers (as FromWeb). -/
import Derived.Test.YtkbkdlaknmgjpaaOthersS
import Derived.Test.YtkbkdlaknmgjpaaSourceS
import Derived.Test.YtkbkdlaknmgjpaaMA
namespace Go.Proofs.Ytkbkdlaknmgjpaa
open Go.ChangeShapes Go.WideShapes Go.ChangeAt Go.RowKit
theorem specFromOthers_any (w : World) (v vf : Value) (dss : List (List Dd)) (f : List Int) (h : RdW w v dss) (hf : Rd w vf f) (hx : dss.length ≤ 1048576) (hm : ∀ i, i < dss.length → (dss.getD i []).length ≤ 1048576) (hfl : f.length ≤ 1048576) :
  Calls Try.prog 5 #[v, vf] w fun e w' => ∃ v', e = .returned v' ∧ Row w' w.heap.size v' (owB dss f) ∧ Keep w w' := by
 cases hs : sourceB dss f
 ·
  have HE : Hid (owB dss f = []) := Lib.hid (by rw [owB, hs]; rfl)
  have C := specSourceOk_any w v vf dss f h hf hx hm hfl
  rw [hs] at C
  go_enter Try.func5, Try.ntmps5
  go_wp2_with fail
  refine C.mono ?_
  rintro e w1 ⟨rfl, k1⟩
  have s1 := k1.size
  go_wp2
  go_ret
  exact ⟨_, rfl, by rw [HE.out]; exact (row_empty w1 _).base_le s1, k1.alloc _⟩
 ·
  have hs2 := hs
  rw [sourceB, Bool.and_eq_true] at hs2
  obtain ⟨hb, hs2⟩ := hs2
  rw [eventsB, if_pos hb] at hs2
  have HE : Hid (owB dss f = owL (evsW dss dss.length) f) := Lib.hid (by rw [owB, if_pos hs, eventsB, if_pos hb])
  obtain ⟨u1, u2⟩ := workB_useQ hb
  have h12 := (events_law hb).1
  obtain ⟨sl, su⟩ := src_use h12 hs2
  have g3 : 3 ≤ (evsW dss dss.length).length := by
   obtain ⟨⟨t, ht⟩, _⟩ := evs_good u2 dss.length (Nat.le_refl _)
   rw [ht, List.length_append]
   exact Nat.le_add_right _ _
  have HW : Hid (Web (evsW dss dss.length).length (fwL (evsW dss dss.length) f)) := Lib.hid (fw_line (n := (evsW dss dss.length).length) (rs := idxB rdE (evsW dss dss.length)) (f := f) h12 (idxB rdE (evsW dss dss.length)).length (fun i hi => rd_in h12 hi) (fun i hi => (su i hi).1)).1
  have C := specSourceOk_any w v vf dss f h hf hx hm hfl
  rw [hs] at C
  go_enter Try.func5, Try.ntmps5
  go_wp2_with fail
  refine C.mono ?_
  rintro e w1 ⟨rfl, k1⟩
  have s1 := k1.size
  go_wp2_with fail
  refine (l6Events_any _ _ _ (h.keep k1) u1 u2).mono ?_
  rintro e w2 ⟨v2, rfl, a2, k2⟩
  have s2 := k2.size
  go_wp2_with fail
  refine (l12Others_any _ _ _ _ _ a2.rd (hf.keep (k1.trans k2)) g3 h12 HW.out (by omega) (fun i hi => (su i hi).1)).mono ?_
  rintro e w3 ⟨v3, rfl, r3, k3⟩
  go_wp2
  go_ret
  exact ⟨_, rfl, by rw [HE.out]; exact r3.base_le (by omega), (k1.trans k2).trans k3⟩
end Go.Proofs.Ytkbkdlaknmgjpaa
