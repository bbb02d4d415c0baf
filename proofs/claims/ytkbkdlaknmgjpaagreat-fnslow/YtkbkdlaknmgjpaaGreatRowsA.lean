/- Contracts of the specification's RowsAt. -/
import Derived.Test.YtkbkdlaknmgjpaaGreatME
import Derived.Test.YtkbkdlaknmgjpaaGreatRatS
namespace Go.Proofs.YtkbkdlaknmgjpaaGreat
open Go.ChangeShapes Go.WideShapes Go.ChangeAt Go.RowKit

theorem own_emptyR (w : World) : Own (w.alloc (.cells #[] 2)) w.heap.size (.slice (some ⟨w.heap.size, 0, none⟩) 0 0) [] := World.ownsRow_lit w #[] 0 (Nat.le_refl _) (by decide) rfl
theorem specRowsAt_own (w : World) (v : Value) (dss : List (List Dd)) (n : Int) (h : RdW w v dss) (hx : dss.length ≤ 1048576) (hm : ∀ i, i < dss.length → (dss.getD i []).length ≤ 1048576) :
    Calls Tryz.prog 176 #[v, .int .i64 n] w fun e w' => ∃ v', e = .returned v' ∧ Own w' w.heap.size v' (ratB dss n) ∧ Keep w w' := by
  by_cases h0 : n < 0
  · have HE : Hid (ratB dss n = []) := Lib.hid (by unfold ratB; rw [if_neg (by omega)])
    go_enter Tryz.func176, Tryz.ntmps176
    go_wp2
    go_ret
    exact ⟨_, rfl, by rw [HE.out]; exact own_emptyR w, (Keep.refl w).alloc _⟩
  have h0' : 0 ≤ n := by omega
  have hcb := rcntB_in dss
  by_cases h1 : rcntB dss ≤ n
  · have HE : Hid (ratB dss n = []) := Lib.hid (by unfold ratB; rw [if_neg (by omega)])
    have C := specRowsCount_any w v dss h hx hm
    generalize rcntB dss = m at C h1 hcb
    go_enter Tryz.func176, Tryz.ntmps176
    go_wp2_with fail
    refine C.mono ?_
    rintro e w1 ⟨rfl, k1⟩
    have s1 := k1.size
    go_wp2
    go_ret
    exact ⟨_, rfl, by rw [HE.out]; exact (own_emptyR w1).base_le s1, k1.alloc _⟩
  · have h1' : n < rcntB dss := by omega
    have hb : workB dss = true := by
      cases hb : workB dss with
      | true => rfl
      | false => rw [rcntB, hb] at h1'; simp at h1'; omega
    have HE : Hid (ratB dss n = ratL (evsW dss dss.length) n) := Lib.hid (by unfold ratB; rw [if_pos ⟨h0', h1'⟩, eventsB, if_pos hb])
    have C := specRowsCount_any w v dss h hx hm
    obtain ⟨u1, u2⟩ := workB_useR hb
    have h9 := evsW_9 hb
    have hp := plcW_pos hb
    generalize rcntB dss = m at C h1 hcb h1'
    go_enter Tryz.func176, Tryz.ntmps176
    go_wp2_with fail
    refine C.mono ?_
    rintro e w1 ⟨rfl, k1⟩
    have s1 := k1.size
    go_wp2_with fail
    refine (l6Events_any _ _ _ (h.keep k1) u1 u2).mono ?_
    rintro e w2 ⟨v2, rfl, a2, k2⟩
    have s2 := k2.size
    go_wp2_with fail
    refine (l9At_any _ _ _ _ a2.rd h9 hp h0' (by omega)).mono ?_
    rintro e w4 ⟨v4, rfl, o4, k4⟩
    go_wp2
    go_ret
    exact ⟨_, rfl, by rw [HE.out]; exact o4.base_le (by omega), (k1.trans k2).trans k4⟩
end Go.Proofs.YtkbkdlaknmgjpaaGreat
