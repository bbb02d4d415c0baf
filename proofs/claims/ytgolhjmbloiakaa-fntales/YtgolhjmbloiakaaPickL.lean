/- Contract of the laws' pick: some number below n. -/
import Derived.Test.YtgolhjmbloiakaaDrawA
import Derived.Lib.Hide
namespace Go.Proofs.Ytgolhjmbloiakaa
open Go.ChangeShapes Go.WideShapes Go.ChangeAt Go.RowKit

set_option maxHeartbeats 1000000 in
theorem pick_any (w : World) (a : Option Addr) (cap : Nat) (zs : List Int) (hb : RdB w w.heap.size a zs) (hl : zs.length ≤ 4096) (n : Int) (h0 : 0 < n) (h1 : n ≤ 200000000000000) :
    Calls Try.prog 18 #[.slice a zs.length cap, .int .i64 1, .int .i64 n] w fun e w' => ∃ m : Int, e = .returned (.int .i64 m) ∧ 0 ≤ m ∧ m < n ∧ w' = w := by
  go_enter Try.func18, Try.ntmps18
  go_wp2
  go_loopw [7, 8] (fun x i wr => ∃ (k : Nat) (y : Int), k ≤ zs.length ∧ x = .int .i64 y ∧ 0 ≤ y ∧ y ≤ 1000003 ∧ i = .int .i64 k ∧ wr = w) (fun _ i _ => zs.length - (intOf i).toNat)
  case atStart => exact ⟨0, _, Nat.zero_le _, rfl, by omega, by omega, rfl, rfl⟩
  case round =>
    obtain ⟨k, y, hk, rfl, y0, y1, rfl, rfl⟩ := hrel
    by_cases hlt : k < zs.length
    · rcases hb.2 with h | ⟨b, off, rfl, hbB, hbs, hc⟩
      · exfalso; rw [h] at hlt; simp at hlt
      obtain ⟨c1, z0, z1⟩ := hc k hlt
      clear hc hb
      generalize zs.getD k 0 = z at c1 z0 z1
      have i1 : (0 : Int) ≤ (k : Int) := Int.natCast_nonneg _
      have i2 : (k : Int) < (zs.length : Int) := by omega
      have e1 : (y * 251 + z + 1).tmod 1000003 = (y * 251 + z + 1) % 1000003 := Int.tmod_eq_emod_of_nonneg (by omega)
      have e2 : 0 ≤ (y * 251 + z + 1) % 1000003 := Int.emod_nonneg _ (by omega)
      have e3 : (y * 251 + z + 1) % 1000003 < 1000003 := Int.emod_lt_of_pos _ (by omega)
      go_wp2
      go_roundw
      case rel => exact ⟨k + 1, _, by omega, rfl, by omega, by omega, by go_num, trivial⟩
      case measure => simp [intOf]; omega
    · obtain rfl : k = zs.length := by omega
      have e1 : y.tmod n = y % n := Int.tmod_eq_emod_of_nonneg y0
      have e2 : 0 ≤ y % n := Int.emod_nonneg _ (by omega)
      have e3 : y % n < n := Int.emod_lt_of_pos _ h0
      go_wp2
      go_ret
      exact ⟨_, rfl, by omega, by omega, rfl⟩
end Go.Proofs.Ytgolhjmbloiakaa
