/- Contracts of Gathered, the specification's and the program's: both answer the set of a list, -1 where a number is no member. -/
import Derived.Test.YtmigdnceidbppaaSets
import Derived.Test.YtmigdnceidbppaaWith
import Derived.Test.YtmigdnceidbppaaBase
import Derived.Outline
namespace Go.Proofs.Ytmigdnceidbppaa
open Go.ChangeShapes Go.WideShapes Go.ChangeAt Go.RowKit

set_option maxHeartbeats 400000 in
theorem folded_with (w : World) (v : Value) (zs : List Int) (h : Rd w v zs) (hn : zs.length ≤ 1048576) :
    Calls Try.prog 47 #[v, .func (Fn.func 48) #[] #[]] w fun e w' => e = .returned (.int .i64 (gath zs)) ∧ w' = w := by
  obtain ⟨a, c, rfl, h⟩ := h
  go_enter Try.func47, Try.ntmps47
  go_wp2
  go_loop [5, 10] (fun s i => ∃ k : Nat, k ≤ zs.length ∧ i = .int .i64 k ∧ s = .int .i64 (gath (zs.take k))) (fun _ i => zs.length - (intOf i).toNat)
  case atStart => exact ⟨0, Nat.zero_le _, rfl, rfl⟩
  case round =>
    obtain ⟨k, hk, rfl, rfl⟩ := hrel
    by_cases hlt : k < zs.length
    · rcases h with h | ⟨b, o, rfl, hb, hc⟩
      · exfalso; rw [h] at hlt; simp at hlt
      have d0 := hc k hlt
      obtain ⟨p, hp⟩ : ∃ p, p = zs.getD k 0 := ⟨_, rfl⟩
      have HG : Hid (gath (zs.take (k + 1)) = gAdd (gath (zs.take k)) p) := by rw [hp, take_snoc zs k hlt, gath_snoc]; rfl
      rw [← hp] at d0
      clear hc hp
      go_wp2_with (go_at_call 48; refine (with_any _ _ _).mono ?_; rintro e w' ⟨rfl, rfl⟩)
      go_round
      case rel => exact ⟨k + 1, by omega, by go_num, by rw [HG.out]⟩
      case measure => simp [intOf]; omega
    · go_wp2
      go_ret
      exact ⟨ret_int (by rw [List.take_of_length_le (by omega)]), rfl⟩
theorem implGathered_any (w : World) (v : Value) (zs : List Int) (h : Rd w v zs) (hn : zs.length ≤ 1048576) :
    Calls Try.prog 11 #[v] w fun e w' => e = .returned (.int .i64 (gath zs)) ∧ w' = w := by
  go_enter Try.func11, Try.ntmps11
  go_wp2_with (go_at_call 47; refine (folded_with _ _ _ h hn).mono ?_; rintro e w' ⟨rfl, rfl⟩)
  go_ret
  exact ⟨rfl, rfl⟩
set_option maxHeartbeats 400000 in
theorem specGathered_any (w : World) (v : Value) (zs : List Int) (h : Rd w v zs) (hn : zs.length ≤ 1048576) :
    Calls Try.prog 16 #[v] w fun e w' => e = .returned (.int .i64 (gath zs)) ∧ w' = w := by
  obtain ⟨a, c, rfl, h⟩ := h
  go_enter Try.func16, Try.ntmps16
  go_wp2
  go_loop [3, 4] (fun s i => ∃ k : Nat, k ≤ zs.length ∧ i = .int .i64 k ∧ s = .int .i64 (gath (zs.take k)) ∧ 0 ≤ gath (zs.take k) ∧ gath (zs.take k) ≤ 4095) (fun _ i => zs.length - (intOf i).toNat)
  case atStart => exact ⟨0, Nat.zero_le _, rfl, rfl, by simp [gath], by simp [gath]⟩
  case round =>
    obtain ⟨k, hk, rfl, rfl, g0, g1⟩ := hrel
    by_cases hlt : k < zs.length
    · rcases h with h | ⟨b, o, rfl, hb, hc⟩
      · exfalso; rw [h] at hlt; simp at hlt
      have d0 := hc k hlt
      obtain ⟨p, hp⟩ : ∃ p, p = zs.getD k 0 := ⟨_, rfl⟩
      have HP : Hid (p = zs.getD k 0) := hp
      have HG : Hid (gath (zs.take (k + 1)) = gAdd (gath (zs.take k)) p) := by rw [hp, take_snoc zs k hlt, gath_snoc]; rfl
      rw [← hp] at d0
      clear hc hp
      cases hi : inB p 0 11
      · go_wp2_with (go_at_call 50; refine (l1In_any _ _ _ _).mono ?_; rintro e w' ⟨rfl, rfl⟩)
        go_ret
        exact ⟨ret_int (gath_bad zs k hlt (by rw [← HP.out]; exact hi)).symm, rfl⟩
      · have hr := gAdd_range _ p g0 g1 hi
        have HA : Hid (gAdd (gath (zs.take k)) p = bits .or .i64 (gath (zs.take k)) (wrap64 (2 ^ p.toNat))) := gAdd_ok _ p g0 hi
        have hi' := hi
        simp only [inB, decide_eq_true_eq] at hi'
        obtain ⟨i1, i2⟩ := hi'
        generalize gath (zs.take k) = G at *
        go_wp2_with (go_at_call 50; refine (l1In_any _ _ _ _).mono ?_; rintro e w' ⟨rfl, rfl⟩)
        go_round
        case rel => exact ⟨k + 1, by omega, by go_num, by rw [HG.out, HA.out], by rw [HG.out]; exact hr.1, by rw [HG.out]; exact hr.2⟩
        case measure => simp [intOf]; omega
    · go_wp2
      go_ret
      exact ⟨ret_int (by rw [List.take_of_length_le (by omega)]), rfl⟩
end Go.Proofs.Ytmigdnceidbppaa
