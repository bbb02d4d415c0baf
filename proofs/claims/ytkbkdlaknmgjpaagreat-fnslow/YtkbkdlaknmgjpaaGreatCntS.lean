/- Contract of the specification's l8Count. -/
import Derived.Lib.Hide
import Derived.Test.YtkbkdlaknmgjpaaGreatMC
import Derived.Test.YtkbkdlaknmgjpaaGreatMA
namespace Go.Proofs.YtkbkdlaknmgjpaaGreat
open Go.ChangeShapes Go.WideShapes Go.ChangeAt Go.RowKit

set_option maxHeartbeats 1000000 in
theorem l8Count_any (w : World) (v : Value) (c : List (List Int)) (h : RdL w v c) (hl : c.length ≤ 12) (hb : ∀ i, i < c.length → (c.getD i []).length ≤ 12) :
    Calls Tryz.prog 173 #[v] w fun e w' => e = .returned (.int .i64 (cntK c c.length)) ∧ w' = w := by
  obtain ⟨a, cc, rfl, h⟩ := h
  go_enter Tryz.func173, Tryz.ntmps173
  go_wp2
  go_loopw [3, 4] (fun n i wr => ∃ k : Nat, k ≤ c.length ∧ n = .int .i64 (cntK c k) ∧ i = .int .i64 k ∧ wr = w) (fun _ i _ => c.length - (intOf i).toNat)
  case atStart => exact ⟨0, Nat.zero_le _, rfl, rfl, rfl⟩
  case round =>
    obtain ⟨k, hk, rfl, rfl, rfl⟩ := hrel
    by_cases hlt : k < c.length
    · rcases h with h | ⟨b, o, rfl, hbl, hc⟩
      · exfalso; rw [h] at hlt; simp at hlt
      obtain ⟨vi, e1, r1⟩ := hc k hlt
      clear hc
      have HN : Hid (cntK c (k + 1) = cntK c k * (c.getD k []).length) := Lib.hid rfl
      have t1 := cnt_top hl hb k (by omega)
      have t2 := cnt_top hl hb (k + 1) (by omega)
      rw [HN.out] at t2
      have l12 := hb k hlt
      clear hb
      generalize cntK c k = x at *
      generalize c.getD k [] = zs at *
      obtain ⟨az, cz, rfl, -⟩ := r1
      generalize zs.length = n at *
      have i1 : (0 : Int) ≤ (k : Int) := Int.natCast_nonneg _
      have i2 : (k : Int) < (c.length : Int) := by omega
      have n1 : (0 : Int) ≤ (n : Int) := Int.natCast_nonneg _
      have n2 : (n : Int) ≤ 12 := by omega
      obtain ⟨x1, x2⟩ := t1
      obtain ⟨y1, y2⟩ := t2
      go_wp2
      go_roundw
      case rel => exact ⟨k + 1, by omega, by rw [HN.out], by go_num, trivial⟩
      case measure => simp [intOf]; omega
    · obtain rfl : k = c.length := by omega
      go_wp2
      go_ret
      exact ⟨rfl, rfl⟩
end Go.Proofs.YtkbkdlaknmgjpaaGreat
