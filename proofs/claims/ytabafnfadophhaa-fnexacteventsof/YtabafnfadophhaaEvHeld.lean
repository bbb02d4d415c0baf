/- The laws' heldEventS where the marks are there. -/
import Derived.Test.YtabafnfadophhaaEvMark
namespace Go.Proofs.Ytabafnfadophhaa
open Go.ChangeShapes Go.WideShapes Go.ChangeAt Go.RowKit

set_option maxRecDepth 100000 in
set_option maxHeartbeats 2000000 in
theorem heldE_any (w : World) (v : Value) (k : Int) (n : Nat) (h : RdE w v (mksE k n)) (hn : n ≤ 1048576) (h0 : 1 ≤ k) (h1 : k ≤ 8388608) :
    Calls Try.prog 32 #[v, .int .i64 k] w fun e w' => e = .returned (.int .i64 (k + 6 * n)) ∧ Keep w w' := by
  obtain ⟨a, c, rfl, h⟩ := h
  rw [mksE_len] at ⊢
  go_enter Try.func32, Try.ntmps32
  go_wp2
  go_loopw [1, 5] (fun q i wr => ∃ j : Nat, j ≤ n ∧ i = .int .i64 j ∧ q = .int .i64 (k + 6 * j) ∧ Keep w wr) (fun _ i _ => n - (intOf i).toNat)
  case atStart => exact ⟨0, Nat.zero_le _, rfl, by simp, Keep.refl _⟩
  case round =>
    obtain ⟨j, hj, rfl, rfl, hK⟩ := hrel
    by_cases hlt : j < n
    · rcases h with h | ⟨b, o, rfl, hb, hc⟩
      · exfalso; have := mksE_len k n; rw [h] at this; simp at this; omega
      have AT := (hc j _ (mksE_get k n j hlt)).keep hb hK
      clear hc
      obtain ⟨A0, A1, A2, A3, A4, A5⟩ := atE AT
      clear AT
      simp only [mkR] at A2
      have e0 : (k + 6 * (j : Int) != k + 6 * (j : Int)) = false := by simp
      have e1 : (k + 6 * (j : Int) + 1 != k + 6 * (j : Int) + 1) = false := by simp
      have e2 : (((k + 6 * (j : Int) + 1 + 1) % 3 == 0) != ((k + 6 * (j : Int) + 1 + 1) % 3 == 0)) = false := by simp
      have e3 : (k + 6 * (j : Int) + 1 + 1 + 1 != k + 6 * (j : Int) + 1 + 1 + 1) = false := by simp
      have e4 : (k + 6 * (j : Int) + 1 + 1 + 1 + 1 != k + 6 * (j : Int) + 1 + 1 + 1 + 1) = false := by simp
      have e5 : (k + 6 * (j : Int) + 1 + 1 + 1 + 1 + 1 != k + 6 * (j : Int) + 1 + 1 + 1 + 1 + 1) = false := by simp
      have i1 : (0 : Int) ≤ (j : Int) := Int.natCast_nonneg _
      have i2 : (j : Int) < (n : Int) := by omega
      go_wp2
      go_roundw
      case rel => exact ⟨j + 1, by omega, by go_num, by go_num, hK⟩
      case measure => simp [intOf]; omega
    · have : j = n := by omega
      subst this
      go_wp2
      go_ret
      exact ⟨rfl, hK⟩
end Go.Proofs.Ytabafnfadophhaa
