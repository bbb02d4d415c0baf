/- Contract of the specification's l3Round. -/
import Derived.Test.YtkbkdlaknmgjpaaGreatWaysL
import Derived.Test.YtkbkdlaknmgjpaaGreatMA
namespace Go.Proofs.YtkbkdlaknmgjpaaGreat
open Go.ChangeShapes Go.WideShapes Go.ChangeAt Go.RowKit

theorem roundS_yes {zs : List Int} (ht : webB zs = true) {k : Nat} (hk : k < (waysL zs).length) (h : inSetB ((waysL zs).getD k 0) k = true) : roundB zs = true := by
  have hl := (web_ways (web_iff.1 ht)).2.1
  unfold roundB
  rw [ht, Bool.true_and, List.any_eq_true]
  exact ⟨k, List.mem_range.2 (by omega), h⟩
theorem roundS_no {zs : List Int} (ht : webB zs = true) (h : ∀ i, i < (waysL zs).length → inSetB ((waysL zs).getD i 0) i = false) : roundB zs = false := by
  have hl := (web_ways (web_iff.1 ht)).2.1
  unfold roundB
  rw [ht, Bool.true_and, List.any_eq_false]
  intro i hi
  have := h i (by have := List.mem_range.1 hi; omega)
  unfold line
  rw [this]; simp
set_option maxRecDepth 100000 in
set_option maxHeartbeats 1000000 in
theorem l3Round_any (w : World) (base : Nat) (v : Value) (zs : List Int) (h : Row w base v zs) (ht : webB zs = true) :
    Calls Tryz.prog 62 #[v] w fun e w' => e = .returned (.bool (roundB zs)) ∧ Keep w w' := by
  have HW : Hid (Web zs.length zs) := web_iff.1 ht
  have HE : Hid (wayAll zs zs.length = waysL zs) := (ways_eq HW.out).symm
  have hY : Hid (∀ k, k < (waysL zs).length → inSetB ((waysL zs).getD k 0) k = true → roundB zs = true) := fun k => roundS_yes ht
  have hN : Hid ((∀ i, i < (waysL zs).length → inSetB ((waysL zs).getD i 0) i = false) → roundB zs = false) := roundS_no ht
  have hO : Hid (∀ k, k < (waysL zs).length → inSetB ((waysL zs).getD k 0) k = bitB ((waysL zs).getD k 0) k) := fun k hk => by
    have hw := web_ways HW.out
    have hl := hw.2.1
    have := hw.1
    exact inSetB_bit (okB_range (hw.2.2 k (by omega))) (by omega)
  have hl : (waysL zs).length ≤ 12 := by have hw := web_ways HW.out; have := hw.1; have := hw.2.1; omega
  clear ht
  go_enter Tryz.func62, Tryz.ntmps62
  go_wp2_with fail
  refine (l2Ways_any _ _ _ _ h HW.out).mono ?_
  rintro e w1 ⟨v1, rfl, r1, k1⟩
  rw [HE.out] at r1
  clear h HW HE
  generalize waysL zs = W at *
  obtain ⟨a, c, rfl, hr⟩ := r1.rd
  clear r1
  go_wp2
  go_loop [4] (fun i => ∃ k : Nat, k ≤ W.length ∧ i = .int .i64 k ∧ ∀ j : Nat, j < k → inSetB (W.getD j 0) j = false) (fun i => W.length - (intOf i).toNat)
  case atStart => exact ⟨0, Nat.zero_le _, rfl, fun j hj => by omega⟩
  case round =>
    obtain ⟨k, hk, rfl, hall⟩ := hrel
    have HA : Hid (∀ j : Nat, j < k → inSetB (W.getD j 0) j = false) := hall
    clear hall
    by_cases hlt : k < W.length
    · rcases hr with hr | ⟨b, o, rfl, hb, hc⟩
      · exfalso; rw [hr] at hlt; simp at hlt
      have d0 := hc k hlt
      have HO : Hid (inSetB (W.getD k 0) k = bitB (W.getD k 0) k) := hO.out k hlt
      have HY : Hid (inSetB (W.getD k 0) k = true → roundB zs = true) := hY.out k hlt
      clear hc hO hY
      cases hbit : bitB (W.getD k 0) k
      · have HB : Hid (inSetB (W.getD k 0) k = false) := HO.out.trans hbit
        obtain ⟨x, hx⟩ : ∃ x, x = W.getD k 0 := ⟨_, rfl⟩
        have HX : Hid (x = W.getD k 0) := hx
        rw [← hx] at d0 hbit
        clear hx HY HO
        go_wp2_with fail
        refine (l1Has_any _ _ _ (by omega) (by omega)).mono ?_
        rintro e w2 ⟨rfl, rfl⟩
        go_wp2
        go_round
        case rel =>
          refine ⟨k + 1, by omega, by go_num, fun j hj => ?_⟩
          by_cases e : j = k
          · subst e; exact HB.out
          · exact HA.out j (by omega)
        case measure => simp [intOf]; omega
      · have HB : Hid (roundB zs = true) := HY.out (HO.out.trans hbit)
        clear HY HO
        obtain ⟨x, hx⟩ : ∃ x, x = W.getD k 0 := ⟨_, rfl⟩
        have HX : Hid (x = W.getD k 0) := hx
        rw [← hx] at d0 hbit
        clear hx
        go_wp2_with fail
        refine (l1Has_any _ _ _ (by omega) (by omega)).mono ?_
        rintro e w2 ⟨rfl, rfl⟩
        go_wp2
        go_ret
        exact ⟨ret_bool HB.out.symm, k1⟩
    · go_wp2
      go_ret
      exact ⟨ret_bool (hN.out fun i hi => HA.out i (by omega)).symm, k1⟩
end Go.Proofs.YtkbkdlaknmgjpaaGreat
