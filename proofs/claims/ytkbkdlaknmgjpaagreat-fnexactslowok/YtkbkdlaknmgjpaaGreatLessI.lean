/- Contract of the program's Less. -/
import Derived.Test.YtkbkdlaknmgjpaaGreatMB
namespace Go.Proofs.YtkbkdlaknmgjpaaGreat
open Go.ChangeShapes Go.WideShapes Go.ChangeAt Go.RowKit

theorem without_any (s t : Int) (w : World) :
    Calls Tryz.prog 129 #[.int .i64 s, .int .i64 t] w fun e w' => e = .returned (.int .i64 (notI s t)) ∧ w' = w := by
  go_enter Tryz.func129, Tryz.ntmps129
  go_wp2
  go_ret
  exact ⟨rfl, rfl⟩
set_option maxHeartbeats 1000000 in
theorem mixed_without (w : World) (v1 v2 : Value) (xs ys : List Int) (h1 : Rd w v1 xs) (h2 : Rd w v2 ys) (n1 : xs.length ≤ 1048576) (n2 : ys.length ≤ 1048576) :
    Calls Tryz.prog 96 #[v1, v2, .func (Fn.func 129) #[] #[]] w fun e w' => ∃ v', e = .returned v' ∧ Row w' w.heap.size v' (mixL notI xs ys) ∧ Keep w w' := by
  have r1 := h1
  have r2 := h2
  obtain ⟨a1, c1, rfl, _⟩ := r1
  obtain ⟨a2, c2, rfl, _⟩ := r2
  cases ht : twoB xs ys
  · go_enter Tryz.func96, Tryz.ntmps96
    go_wp2_with fail
    refine (areAlike_any _ _ _ _ _ h1 h2 n1 n2).mono ?_
    rintro e w' ⟨rfl, rfl⟩
    go_wp2
    go_ret
    exact ⟨_, rfl, by unfold mixL; rw [ht]; exact row_empty _ _, (Keep.refl _).alloc _⟩
  · obtain ⟨hl, wx, wy⟩ := twoB_iff.1 ht
    have hx12 := webB_len wx
    have hy12 := webB_len wy
    have HL : Hid (xs.length = ys.length) := hl
    have HM : Hid (mixL notI xs ys = List.zipWith notI xs ys) := by show mixL notI xs ys = _; unfold mixL; rw [ht]; rfl
    clear wx wy
    have hl1 : xs.length ≤ ys.length := by omega
    have hl2 : ys.length ≤ xs.length := by omega
    clear hl
    go_enter Tryz.func96, Tryz.ntmps96
    go_wp2_with fail
    refine (areAlike_any _ _ _ _ _ h1 h2 n1 n2).mono ?_
    rintro e w' ⟨rfl, rfl⟩
    go_wp2_with fail
    refine (owned_any _ _ _ h1 hx12).mono ?_
    rintro e w1 ⟨rfl, ro, k1⟩
    go_wp2_with fail
    obtain ⟨a, c, hv, h2⟩ := h2
    cases hv
    go_loopw [19] (fun i wr => ∃ k : Nat, k ≤ ys.length ∧ i = .int .i64 k ∧ RowAt wr w'.heap.size (mixK notI xs ys k) ∧ Keep w' wr) (fun i _ => ys.length - (intOf i).toNat)
    case atStart => exact ⟨0, Nat.zero_le _, rfl, ro, k1⟩
    case round =>
      obtain ⟨k, hk, rfl, hr, hK⟩ := hrel
      clear ro k1
      by_cases hlt : k < ys.length
      · rcases h2 with h | ⟨b, o, rfl, hb, hc⟩
        · exfalso; rw [h] at hlt; simp at hlt
        have hkx : k < xs.length := by omega
        have d0 := (hK.cell hb).trans (hc k hlt)
        have d1 := hr.cell (j := k) (by rw [mixK_len notI HL.out]; exact hkx)
        rw [mixK_get notI HL.out hkx] at d1
        have d2 := hr.free k
        have hs := hr.set k (notI (xs.getD k 0) (ys.getD k 0))
        rw [mixK_set notI HL.out hkx] at hs
        have hK2 : Keep w' (wr.setCell ⟨w'.heap.size, k, none⟩ (.int .i64 (notI (xs.getD k 0) (ys.getD k 0)))) := hK.grown (grown_set wr w'.heap.size k _) (by simp)
        generalize xs.getD k 0 = p at *
        generalize ys.getD k 0 = q at *
        clear hc
        go_wp2_with fail
        refine (without_any _ _ _).mono ?_
        rintro e w2 ⟨rfl, rfl⟩
        go_wp2
        go_roundw
        case rel => exact ⟨k + 1, by omega, by go_num, hs, hK2⟩
        case measure => simp [intOf]; omega
      · obtain rfl : k = ys.length := by omega
        go_wp2
        go_ret
        refine ⟨_, rfl, ?_, hK⟩
        rw [HM.out]
        rw [← HL.out, mixK_end notI HL.out] at hr
        exact row_new hr (Nat.le_refl _) (by rw [List.length_zipWith]; omega)
theorem implLess_any (w : World) (v1 v2 : Value) (xs ys : List Int) (h1 : Rd w v1 xs) (h2 : Rd w v2 ys) (n1 : xs.length ≤ 1048576) (n2 : ys.length ≤ 1048576) :
    Calls Tryz.prog 79 #[v1, v2] w fun e w' => ∃ v', e = .returned v' ∧ Row w' w.heap.size v' (mixL notI xs ys) ∧ Keep w w' := by
  go_enter Tryz.func79, Tryz.ntmps79
  go_wp2_with fail
  refine (mixed_without _ _ _ _ _ h1 h2 n1 n2).mono ?_
  rintro e w2 ⟨v', rfl, o, k⟩
  go_wp2
  go_ret
  exact ⟨_, rfl, o, k⟩
end Go.Proofs.YtkbkdlaknmgjpaaGreat
