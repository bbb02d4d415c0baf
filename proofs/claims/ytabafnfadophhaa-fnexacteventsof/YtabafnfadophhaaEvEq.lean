/- Contracts of the laws' eqEvent and eqEventS where both have the same: they answer true. -/
import Derived.Test.YtabafnfadophhaaEvRow
import Derived.Outline
import Derived.RegionTactic
import Derived.Deep.RegionHeld3
import Derived.Deep.QuietTactic
import Derived.BigQuiet
import Derived.Lib.Hide
namespace Go.Proofs.Ytabafnfadophhaa
open Go.ChangeShapes Go.WideShapes Go.ChangeAt Go.RowKit

abbrev evQ (x0 x1 : Int) (r : Bool) (x3 x4 x5 : Int) : Value := .agg #[.int .i64 x0, .int .i64 x1, .bool r, .int .i64 x3, .int .i64 x4, .int .i64 x5]
set_option maxHeartbeats 1000000 in
theorem eqEvent_same (x0 x1 : Int) (r : Bool) (x3 x4 x5 : Int) (w : World) :
    Calls Try.prog 60 #[evQ x0 x1 r x3 x4 x5, evQ x0 x1 r x3 x4 x5] w fun e w' => e = .returned (.bool true) ∧ Keep w w' := by
  have hr : (r != r) = false := by simp
  go_enter Try.func60, Try.ntmps60
  go_wp2
  go_ret
  exact ⟨rfl, ((Keep.refl w).alloc _).alloc _⟩
set_option maxRecDepth 100000 in
set_option maxHeartbeats 2000000 in
theorem eqE_same (w : World) (v1 v2 : Value) (es : List Ev) (h1 : RdE w v1 es) (h2 : RdE w v2 es) (hx : es.length ≤ 1048576) :
    Calls Try.prog 28 #[v1, v2] w fun e w' => e = .returned (.bool true) ∧ Keep w w' := by
  obtain ⟨a1, c1, rfl, h1⟩ := h1
  obtain ⟨a2, c2, rfl, h2⟩ := h2
  go_enter Try.func28, Try.ntmps28
  go_wp2
  go_loopw [5] (fun i wr => ∃ k : Nat, k ≤ es.length ∧ i = .int .i64 k ∧ Keep w wr) (fun i _ => es.length - (intOf i).toNat)
  case atStart => exact ⟨0, Nat.zero_le _, rfl, Keep.refl _⟩
  case round =>
    obtain ⟨k, hk, rfl, hK⟩ := hrel
    by_cases hlt : k < es.length
    · rcases h1 with h | ⟨b1, o1, rfl, hb1, hc1⟩
      · exfalso; rw [h] at hlt; simp at hlt
      rcases h2 with h | ⟨b2, o2, rfl, hb2, hc2⟩
      · exfalso; rw [h] at hlt; simp at hlt
      have A1 := (hc1 k _ (evs_get hlt)).keep hb1 hK
      have A2 := (hc2 k _ (evs_get hlt)).keep hb2 hK
      generalize es.getD k zE = e at A1 A2
      clear hc1 hc2
      obtain ⟨x0, x1, x2, x3, x4, x5⟩ := e
      obtain ⟨d0, d1, d2, d3, d4, d5⟩ := atE A1
      obtain ⟨e0, e1, e2, e3, e4, e5⟩ := atE A2
      clear A1 A2
      have i1 : (0 : Int) ≤ (k : Int) := Int.natCast_nonneg _
      have i2 : (k : Int) < (es.length : Int) := by omega
      have z1 : b1 < wr.drew.heap.size := Nat.lt_of_lt_of_le hb1 hK.size
      have z2 : b2 < wr.drew.heap.size := Nat.lt_of_lt_of_le hb2 hK.size
      go_wp2_with fail
      go_region_held3 (fun w' => w'.cell? ⟨b1, o1 + k * 6, none⟩ = some (.int .i64 x0) ∧ w'.cell? ⟨b1, o1 + k * 6 + 1, none⟩ = some (.int .i64 x1) ∧ w'.cell? ⟨b1, o1 + k * 6 + 2, none⟩ = some (.bool x2) ∧ w'.cell? ⟨b1, o1 + k * 6 + 3, none⟩ = some (.int .i64 x3) ∧ w'.cell? ⟨b1, o1 + k * 6 + 4, none⟩ = some (.int .i64 x4) ∧ w'.cell? ⟨b1, o1 + k * 6 + 5, none⟩ = some (.int .i64 x5) ∧ w'.cell? ⟨b2, o2 + k * 6, none⟩ = some (.int .i64 x0) ∧ w'.cell? ⟨b2, o2 + k * 6 + 1, none⟩ = some (.int .i64 x1) ∧ w'.cell? ⟨b2, o2 + k * 6 + 2, none⟩ = some (.bool x2) ∧ w'.cell? ⟨b2, o2 + k * 6 + 3, none⟩ = some (.int .i64 x3) ∧ w'.cell? ⟨b2, o2 + k * 6 + 4, none⟩ = some (.int .i64 x4) ∧ w'.cell? ⟨b2, o2 + k * 6 + 5, none⟩ = some (.int .i64 x5))
        (first | go_keep | (go_split_ands; refine ⟨?_, ?_, ?_, ?_, ?_, ?_, ?_, ?_, ?_, ?_, ?_, ?_⟩ <;> (rw [kk.cell (by assumption)]; assumption)))
        ((go_at_call 60; refine (eqEvent_same x0 x1 x2 x3 x4 x5 _).mono ?_; rintro e wz ⟨rfl, kk⟩))
      all_goals
        go_wp2
        go_roundw
        case rel => exact ⟨k + 1, by omega, by go_num, hK.drew.trans kk⟩
        case measure => simp [intOf]; omega
    · obtain rfl : k = es.length := by omega
      go_wp2
      go_ret
      exact ⟨rfl, hK⟩
end Go.Proofs.Ytabafnfadophhaa
