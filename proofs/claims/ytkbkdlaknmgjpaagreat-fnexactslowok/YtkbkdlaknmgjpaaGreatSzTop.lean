/- How great a work is, and what is left. -/
import Derived.Test.YtkbkdlaknmgjpaaGreatWorkEq
namespace Go.Proofs.YtkbkdlaknmgjpaaGreat
open Go.ChangeShapes Go.WideShapes Go.ChangeAt Go.RowKit

set_option maxRecDepth 100000 in
set_option maxHeartbeats 1000000 in
theorem szW_top (w : World) (v : Value) (dss : List (List Dd)) (h : RdW w v dss) (left : Int) (h0 : 0 ≤ left) (h1 : left ≤ 1048576) (hn : dss.length ≤ maxLen) (hm : ∀ i, i < dss.length → (dss.getD i []).length ≤ maxLen) :
    Calls Tryz.prog 24 #[v, .int .i64 left] w fun e w' => ∃ r : Int, e = .returned (.int .i64 r) ∧ w' = w ∧ (r < 0 ∨ ((dss.length + lenW dss : Int) ≤ left ∧ r ≤ left)) := by
  have hM : maxLen = 9223372036854775807 := rfl
  obtain ⟨a, c, rfl, h⟩ := h
  by_cases hl : (dss.length : Int) ≤ left
  · go_enter Tryz.func24, Tryz.ntmps24
    go_wp2
    go_loop [1, 5] (fun l i => ∃ (k : Nat) (x : Int), k ≤ dss.length ∧ i = .int .i64 k ∧ l = .int .i64 x ∧ 0 ≤ x ∧ x = left - dss.length - lenW (dss.take k)) (fun _ i => dss.length - (intOf i).toNat)
    case atStart => exact ⟨0, _, Nat.zero_le _, rfl, rfl, by omega, by simp [lenW]⟩
    case round =>
      obtain ⟨k, x, hk, rfl, rfl, x0, hx⟩ := hrel
      by_cases hlt : k < dss.length
      · rcases h with h | ⟨b, o, rfl, hb, hc⟩
        · exfalso; rw [h] at hlt; simp at hlt
        obtain ⟨u, e0, r0⟩ := hc k hlt
        have HS := Lib.hid (lenW_take dss k hlt)
        have HX := Lib.hid hx
        have hmk := hm k hlt
        have hxl : x ≤ 1048576 := by omega
        clear hc hx
        by_cases hf : ((dss.getD k []).length : Int) ≤ x
        · go_wp2_with fail
          refine (szD_any _ _ _ r0 x x0 hxl hmk).mono ?_
          rw [if_pos hf]
          rintro e w' ⟨rfl, rfl⟩
          generalize hq : x - ((dss.getD k []).length : Int) = q
          have HQ := Lib.hid hq
          have hq0 : 0 ≤ q := by omega
          clear hq
          go_wp2
          go_round
          case rel => exact ⟨k + 1, q, by omega, by go_num, rfl, hq0, by have := HS.out; have := HX.out; have := HQ.out; omega⟩
          case measure => simp [intOf]; omega
        · go_wp2_with fail
          refine (szD_any _ _ _ r0 x x0 hxl hmk).mono ?_
          rw [if_neg (by omega)]
          rintro e w' ⟨rfl, rfl⟩
          go_wp2
          go_ret
          exact ⟨_, rfl, rfl, .inl (by omega)⟩
      · obtain rfl : k = dss.length := by omega
        have HX := Lib.hid hx
        clear hx
        go_wp2
        go_ret
        refine ⟨_, rfl, rfl, .inr ?_⟩
        have := HX.out
        rw [List.take_length] at this
        exact ⟨by omega, by omega⟩
  · go_enter Tryz.func24, Tryz.ntmps24
    go_wp2
    go_ret
    exact ⟨_, rfl, rfl, .inl (by omega)⟩
end Go.Proofs.YtkbkdlaknmgjpaaGreat
