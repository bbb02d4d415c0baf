/- Contract of the law's likeEvents where both lists are the same. -/
import Derived.Test.YtabafnfadophhaaEvRow
import Derived.Lib.Hide
import Derived.Outline
import Derived.RegionTactic
import Derived.Deep.QuietTactic
import Derived.BigQuiet
namespace Go.Proofs.Ytabafnfadophhaa
open Go.ChangeShapes Go.WideShapes Go.ChangeAt Go.RowKit

set_option maxRecDepth 100000 in
set_option maxHeartbeats 2000000 in
theorem likeE_any (w : World) (v1 v2 : Value) (es : List Ev) (h1 : RdE w v1 es) (h2 : RdE w v2 es) (hx : es.length ≤ 1048576) :
    Calls Try.prog 15 #[v1, v2] w fun e w' => e = .returned (.bool true) ∧ Keep w w' := by
  obtain ⟨a1, c1, rfl, h1⟩ := h1
  obtain ⟨a2, c2, rfl, h2⟩ := h2
  have e0 : ((es.length : Int) != (es.length : Int)) = false := by simp
  go_enter Try.func15, Try.ntmps15
  go_wp2
  go_loopw [5] (fun i wr => ∃ k : Nat, k ≤ es.length ∧ i = .int .i64 k ∧ Keep w wr) (fun i _ => es.length - (intOf i).toNat)
  case atStart => exact ⟨0, Nat.zero_le _, rfl, Keep.refl _⟩
  case round =>
    obtain ⟨k, hk, rfl, hK⟩ := hrel
    by_cases hlt : k < es.length
    · rcases h1 with h | ⟨b1, o1, rfl, hb1, hc1⟩
      · exfalso; rw [h] at hlt; simp at hlt
      rcases h2 with h | ⟨b2, o2, rfl, hb2, hc2⟩
      · exfalso; rw [h] at hlt; simp at hlt
      have A1 := (hc1 k _ (evs_get hlt)).keep hb1 hK
      have A2 := (hc2 k _ (evs_get hlt)).keep hb2 hK
      generalize es.getD k zE = e at A1 A2
      clear hc1 hc2
      obtain ⟨x0, x1, x2, x3, x4, x5⟩ := e
      obtain ⟨d0, d1, d2, d3, d4, d5⟩ := atE A1
      obtain ⟨q0, q1, q2, q3, q4, q5⟩ := atE A2
      clear A1 A2
      have i1 : (0 : Int) ≤ (k : Int) := Int.natCast_nonneg _
      have i2 : (k : Int) < (es.length : Int) := by omega
      go_wp2
      go_quiet (fail)
      go_wp2
      go_roundw
      case rel => exact ⟨k + 1, by omega, by go_num, hK.drewN _⟩
      case measure => simp [intOf]; omega
    · obtain rfl : k = es.length := by omega
      go_wp2
      go_ret
      exact ⟨rfl, hK⟩
end Go.Proofs.Ytabafnfadophhaa
