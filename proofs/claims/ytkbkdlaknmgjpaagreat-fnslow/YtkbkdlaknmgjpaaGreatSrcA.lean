/- Contracts of the specification's SourcesCount and SourceAt. -/
import Derived.Test.YtkbkdlaknmgjpaaGreatME
import Derived.Test.YtkbkdlaknmgjpaaGreatMA
import Derived.Test.YtkbkdlaknmgjpaaGreatCntS
import Derived.Test.YtkbkdlaknmgjpaaGreatAtS
import Derived.Test.YtkbkdlaknmgjpaaGreatMB
namespace Go.Proofs.YtkbkdlaknmgjpaaGreat
open Go.ChangeShapes Go.WideShapes Go.ChangeAt Go.RowKit

theorem cntB_in (dss : List (List Dd)) : -1 ≤ cntB dss ∧ cntB dss ≤ 8916100448256 := by
  unfold cntB
  split
  · rename_i hb
    have h12 := (events_law hb).1
    rw [eventsB, if_pos hb]
    obtain ⟨c1, c2⟩ := chc_len h12
    have := cnt_top c1 c2 _ (Nat.le_refl _)
    omega
  · omega
theorem specSourcesCount_any (w : World) (v : Value) (dss : List (List Dd)) (h : RdW w v dss) (hx : dss.length ≤ 1048576) (hm : ∀ i, i < dss.length → (dss.getD i []).length ≤ 1048576) :
    Calls Tryz.prog 147 #[v] w fun e w' => e = .returned (.int .i64 (cntB dss)) ∧ Keep w w' := by
  cases hb : workB dss
  · have HE : Hid (cntB dss = -1) := Lib.hid (by rw [cntB, hb]; rfl)
    go_enter Tryz.func147, Tryz.ntmps147
    go_wp2_with fail
    refine (specWorkOk_any _ _ _ h hx hm).mono ?_
    rintro e w1 ⟨rfl, k1⟩
    go_wp2
    go_ret
    exact ⟨by rw [HE.out]; rfl, k1⟩
  · have HE : Hid (cntB dss = cntK (chcL (evsW dss dss.length)) (chcL (evsW dss dss.length)).length) := Lib.hid (by rw [cntB, if_pos hb, eventsB, if_pos hb])
    obtain ⟨u1, u2⟩ := workB_useQ hb
    have h12 := (events_law hb).1
    obtain ⟨cl1, cl2⟩ := chc_len h12
    go_enter Tryz.func147, Tryz.ntmps147
    go_wp2_with fail
    refine (specWorkOk_any _ _ _ h hx hm).mono ?_
    rintro e w1 ⟨rfl, k1⟩
    go_wp2_with fail
    refine (l6Events_any _ _ _ (h.keep k1) u1 u2).mono ?_
    rintro e w2 ⟨v2, rfl, a2, k2⟩
    go_wp2_with fail
    refine (l8Choices_any _ _ _ a2.rd h12).mono ?_
    rintro e w3 ⟨v3, rfl, rc, k3⟩
    go_wp2_with fail
    refine (l8Count_any _ _ _ rc cl1 cl2).mono ?_
    rintro e w4 ⟨rfl, rfl⟩
    go_wp2
    go_ret
    exact ⟨by rw [HE.out]; rfl, (k1.trans k2).trans k3⟩
theorem own_emptyQ (w : World) : Own (w.alloc (.cells #[] 2)) w.heap.size (.slice (some ⟨w.heap.size, 0, none⟩) 0 0) [] := World.ownsRow_lit w #[] 0 (Nat.le_refl _) (by decide) rfl
theorem specSourceAt_own (w : World) (v : Value) (dss : List (List Dd)) (n : Int) (h : RdW w v dss) (hx : dss.length ≤ 1048576) (hm : ∀ i, i < dss.length → (dss.getD i []).length ≤ 1048576) :
    Calls Tryz.prog 148 #[v, .int .i64 n] w fun e w' => ∃ v', e = .returned v' ∧ Own w' w.heap.size v' (atB dss n) ∧ Keep w w' := by
  by_cases h0 : n < 0
  · have HE : Hid (atB dss n = []) := Lib.hid (by unfold atB; rw [if_neg (by omega)])
    go_enter Tryz.func148, Tryz.ntmps148
    go_wp2
    go_ret
    exact ⟨_, rfl, by rw [HE.out]; exact own_emptyQ w, (Keep.refl w).alloc _⟩
  have h0' : 0 ≤ n := by omega
  have hcb := cntB_in dss
  by_cases h1 : cntB dss ≤ n
  · have HE : Hid (atB dss n = []) := Lib.hid (by unfold atB; rw [if_neg (by omega)])
    have C := specSourcesCount_any w v dss h hx hm
    generalize cntB dss = m at C h1 hcb
    go_enter Tryz.func148, Tryz.ntmps148
    go_wp2_with fail
    refine C.mono ?_
    rintro e w1 ⟨rfl, k1⟩
    have s1 := k1.size
    go_wp2
    go_ret
    exact ⟨_, rfl, by rw [HE.out]; exact (own_emptyQ w1).base_le s1, k1.alloc _⟩
  · have h1' : n < cntB dss := by omega
    have hb : workB dss = true := by
      cases hb : workB dss with
      | true => rfl
      | false => rw [cntB, hb] at h1'; simp at h1'; omega
    have HE : Hid (atB dss n = atL (chcL (evsW dss dss.length)) n) := Lib.hid (by unfold atB; rw [if_pos ⟨h0', h1'⟩, eventsB, if_pos hb])
    have C := specSourcesCount_any w v dss h hx hm
    obtain ⟨u1, u2⟩ := workB_useQ hb
    have h12 := (events_law hb).1
    have hfull := (chc_full hb).1
    rw [eventsB, if_pos hb] at hfull
    obtain ⟨cl1, cl2⟩ := chc_len h12
    generalize cntB dss = m at C h1 hcb h1'
    go_enter Tryz.func148, Tryz.ntmps148
    go_wp2_with fail
    refine C.mono ?_
    rintro e w1 ⟨rfl, k1⟩
    have s1 := k1.size
    go_wp2_with fail
    refine (l6Events_any _ _ _ (h.keep k1) u1 u2).mono ?_
    rintro e w2 ⟨v2, rfl, a2, k2⟩
    have s2 := k2.size
    go_wp2_with fail
    refine (l8Choices_any _ _ _ a2.rd h12).mono ?_
    rintro e w3 ⟨v3, rfl, rc, k3⟩
    have s3 := k3.size
    go_wp2_with fail
    refine (l8At_any _ _ _ _ rc cl1 hfull h0' (by omega) cl2).mono ?_
    rintro e w4 ⟨v4, rfl, o4, k4⟩
    go_wp2
    go_ret
    exact ⟨_, rfl, by rw [HE.out]; exact o4.base_le (by omega), ((k1.trans k2).trans k3).trans k4⟩
end Go.Proofs.YtkbkdlaknmgjpaaGreat
