/- Contract of the program's Round. -/
import Derived.Test.YtkbkdlaknmgjpaaGreatWaysI
import Derived.Test.YtkbkdlaknmgjpaaGreatMA
namespace Go.Proofs.YtkbkdlaknmgjpaaGreat
open Go.ChangeShapes Go.WideShapes Go.ChangeAt Go.RowKit

theorem roundI_yes {zs : List Int} {k : Nat} (hk : k < (waysL zs).length) (h : inSetB ((waysL zs).getD k 0) k = true) : roundB zs = true := by
  cases ht : webB zs
  · exfalso; unfold waysL at hk; rw [ht] at hk; simp at hk
  · have hl := (web_ways (web_iff.1 ht)).2.1
    unfold roundB
    rw [ht, Bool.true_and, List.any_eq_true]
    exact ⟨k, List.mem_range.2 (by omega), h⟩
theorem roundI_no {zs : List Int} (h : ∀ i, i < (waysL zs).length → inSetB ((waysL zs).getD i 0) i = false) : roundB zs = false := by
  cases ht : webB zs
  · unfold roundB; rw [ht]; rfl
  · have hl := (web_ways (web_iff.1 ht)).2.1
    unfold roundB
    rw [ht, Bool.true_and, List.any_eq_false]
    intro i hi
    have := h i (by have := List.mem_range.1 hi; omega)
    unfold line
    rw [this]; simp
theorem waysI_len (a : List Int) : (waysL a).length ≤ 12 := by
  cases ht : webB a
  · unfold waysL; rw [ht]; simp
  · have hw := web_ways (web_iff.1 ht)
    have := hw.1; have := hw.2.1; omega
set_option maxHeartbeats 1000000 in
theorem implRound_any (w : World) (v : Value) (zs : List Int) (h : Rd w v zs) (hn : zs.length ≤ 1048576) :
    Calls Tryz.prog 37 #[v] w fun e w' => e = .returned (.bool (roundB zs)) ∧ Keep w w' := by
  have hY : Hid (∀ k, k < (waysL zs).length → inSetB ((waysL zs).getD k 0) k = true → roundB zs = true) := fun k => roundI_yes
  have hN : Hid ((∀ i, i < (waysL zs).length → inSetB ((waysL zs).getD i 0) i = false) → roundB zs = false) := roundI_no
  have hl := waysI_len zs
  go_enter Tryz.func37, Tryz.ntmps37
  go_wp2_with fail
  refine (implWays_any _ _ _ h hn).mono ?_
  rintro e w1 ⟨v1, rfl, r1, k1⟩
  clear h
  generalize waysL zs = W at *
  obtain ⟨a, c, rfl, hr⟩ := r1.rd
  clear r1
  go_wp2
  go_loop [8] (fun i => ∃ k : Nat, k ≤ W.length ∧ i = .int .i64 k ∧ ∀ j : Nat, j < k → inSetB (W.getD j 0) j = false) (fun i => W.length - (intOf i).toNat)
  case atStart => exact ⟨0, Nat.zero_le _, rfl, fun j hj => by omega⟩
  case round =>
    obtain ⟨k, hk, rfl, hall⟩ := hrel
    have HA : Hid (∀ j : Nat, j < k → inSetB (W.getD j 0) j = false) := hall
    clear hall
    by_cases hlt : k < W.length
    · rcases hr with hr | ⟨b, o, rfl, hb, hc⟩
      · exfalso; rw [hr] at hlt; simp at hlt
      have d0 := hc k hlt
      have HY : Hid (inSetB (W.getD k 0) k = true → roundB zs = true) := hY.out k hlt
      clear hc hY
      cases hbit : inSetB (W.getD k 0) k
      · have HB : Hid (inSetB (W.getD k 0) k = false) := hbit
        obtain ⟨x, hx⟩ : ∃ x, x = W.getD k 0 := ⟨_, rfl⟩
        have HX : Hid (x = W.getD k 0) := hx
        rw [← hx] at d0 hbit
        clear hx HY
        go_wp2_with fail
        refine (implInSet_any _ _ _).mono ?_
        rintro e w2 ⟨rfl, rfl⟩
        go_wp2
        go_round
        case rel =>
          refine ⟨k + 1, by omega, by go_num, fun j hj => ?_⟩
          by_cases e : j = k
          · subst e; exact HB.out
          · exact HA.out j (by omega)
        case measure => simp [intOf]; omega
      · have HB : Hid (roundB zs = true) := HY.out hbit
        clear HY
        obtain ⟨x, hx⟩ : ∃ x, x = W.getD k 0 := ⟨_, rfl⟩
        have HX : Hid (x = W.getD k 0) := hx
        rw [← hx] at d0 hbit
        clear hx
        go_wp2_with fail
        refine (implInSet_any _ _ _).mono ?_
        rintro e w2 ⟨rfl, rfl⟩
        go_wp2
        go_ret
        exact ⟨ret_bool HB.out.symm, k1⟩
    · go_wp2
      go_ret
      exact ⟨ret_bool (hN.out fun i hi => HA.out i (by omega)).symm, k1⟩
end Go.Proofs.YtkbkdlaknmgjpaaGreat
