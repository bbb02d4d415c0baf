/- Contracts of the program's shapesOf, goesOn, nextClass. -/
import Derived.Test.YtdgalmimkhoanaaMB
import Derived.Test.YtdgalmimkhoanaaEventPlain3
import Derived.Test.YtdgalmimkhoanaaMA
import Derived.Deep.QuietTactic
import Derived.BigQuiet
namespace Go.Proofs.Ytdgalmimkhoanaa
open Go.ChangeShapes Go.WideShapes Go.ChangeAt Go.RowKit

/-- What shapesOf hands back: a new row of these values. -/
def Shp (w w' : World) (e : Ending) (vs : Array Value) : Prop :=
  ∃ B, e = .returned (.slice (some ⟨B, 0, none⟩) vs.size vs.size) ∧ w'.heap[B]? = some (.cells vs 100) ∧ w.heap.size ≤ B ∧ Keep w w'
set_option maxHeartbeats 1000000 in
theorem shapes_rd (p v g : Int) (w : World) : Calls Try.prog 71 #[deedV 1 p v g] w fun e w' => Shp w w' e #[rdV p] := by
  go_enter Try.func71, Try.ntmps71
  go_wp2
  go_ret
  exact ⟨w.heap.size + 1, rfl, by rw [heap_at, if_pos (heap_size w _).symm], by omega, ((Keep.refl w).alloc _).alloc _⟩
set_option maxHeartbeats 1000000 in
theorem shapes_wr (p v g : Int) (w : World) : Calls Try.prog 71 #[deedV 2 p v g] w fun e w' => Shp w w' e #[wrV p v] := by
  go_enter Try.func71, Try.ntmps71
  go_wp2
  go_ret
  exact ⟨w.heap.size + 1, rfl, by rw [heap_at, if_pos (heap_size w _).symm], by omega, ((Keep.refl w).alloc _).alloc _⟩
set_option maxHeartbeats 1000000 in
theorem shapes_sw (p v g : Int) (w : World) : Calls Try.prog 71 #[deedV 3 p v g] w fun e w' => Shp w w' e #[rdV p, wrV p v] := by
  go_enter Try.func71, Try.ntmps71
  go_wp2
  go_ret
  exact ⟨w.heap.size + 1, rfl, by rw [heap_at, if_pos (heap_size w _).symm], by omega, ((Keep.refl w).alloc _).alloc _⟩
set_option maxHeartbeats 1000000 in
theorem shapes_wa (p v g : Int) (w : World) : Calls Try.prog 71 #[deedV 4 p v g] w fun e w' => Shp w w' e #[] := by
  go_enter Try.func71, Try.ntmps71
  go_wp2
  go_ret
  exact ⟨w.heap.size + 1, rfl, by rw [heap_at, if_pos (heap_size w _).symm], by omega, ((Keep.refl w).alloc _).alloc _⟩
set_option maxRecDepth 100000 in
set_option maxHeartbeats 2000000 in
theorem goesOn_any (w : World) (v : Value) (ds : List Dd) (h : RdD w v ds) (k : Nat) (hk : k < ds.length) (hx : ds.length ≤ 1048576) :
    Calls Try.prog 70 #[v, .int .i64 k] w fun e w' => e = .returned (.bool (goB ds k)) ∧ Keep w w' := by
  obtain ⟨a, c, rfl, h⟩ := h
  rcases h with h | ⟨b, o, rfl, hb, hc⟩
  · exfalso; rw [h] at hk; simp at hk
  have A3 := (hc k hk).2.2.2
  have i1 : (0 : Int) ≤ (k : Int) := Int.natCast_nonneg _
  have i2 : (k : Int) < (ds.length : Int) := by omega
  have HP : Hid (goB ds k = (decide (0 < k) && ((ds.getD k zD).2.2.2 != 0) && ((ds.getD k zD).2.2.2 == (ds.getD (k - 1) zD).2.2.2))) := Lib.hid rfl
  by_cases h0 : k = 0
  · have HT : Hid (goB ds k = false) := Lib.hid (by rw [HP.out]; simp [h0])
    have d0 : decide (0 < k) = false := by simp [h0]
    generalize (ds.getD k zD).2.2.2 = x3 at A3
    clear HP hc h0
    go_enter Try.func70, Try.ntmps70
    go_wp2
    go_quiet (fail)
    go_wp2
    go_ret
    exact ⟨by rw [HT.out]; rfl, (Keep.refl w).drewN _⟩
  · obtain ⟨r, rfl⟩ : ∃ r : Nat, k = r + 1 := ⟨k - 1, by omega⟩
    rw [Nat.add_sub_cancel] at HP
    have B3 := (hc r (by omega)).2.2.2
    clear hc h0
    have j1 : (0 : Int) ≤ (r : Int) := Int.natCast_nonneg _
    have j2 : (r : Int) < (ds.length : Int) := by omega
    have d2 : (r : Int) + 1 < (ds.length : Int) := by omega
    have d6 : (0 : Int) ≤ (r : Int) + 1 := by omega
    have d3 : IntKind.i64.wrap (r : Int) = (r : Int) := by rw [IntKind.wrap_i64]; omega
    have d4 : wrap64 (r : Int) = (r : Int) := wrap64_small _ (by omega) (by omega)
    generalize (ds.getD (r + 1) zD).2.2.2 = x3 at A3 HP
    generalize (ds.getD r zD).2.2.2 = y3 at B3 HP
    by_cases e0 : x3 = 0
    · have HT : Hid (goB ds (r + 1) = false) := Lib.hid (by rw [HP.out]; simp [e0])
      have q0 : (x3 != 0) = false := by simp [e0]
      clear HP e0
      go_enter Try.func70, Try.ntmps70
      go_wp2
      go_quiet (fail)
      go_wp2
      go_ret
      exact ⟨by rw [HT.out]; rfl, (Keep.refl w).drewN _⟩
    · have q0 : (x3 != 0) = true := by simp [e0]
      have q1 : (decide (0 < r + 1)) = true := by simp
      have HT : Hid (goB ds (r + 1) = (x3 == y3)) := Lib.hid (by rw [HP.out, q0, q1]; simp)
      clear HP e0 q1
      go_enter Try.func70, Try.ntmps70
      go_wp2
      go_quiet (fail)
      go_wp2
      go_ret
      exact ⟨by rw [HT.out]; rfl, (Keep.refl w).drewN _⟩
set_option maxHeartbeats 1000000 in
theorem nextClass_any (w : World) (v : Value) (es : List Ev) (h : RdE w v es) (hx : es.length ≤ 1048576) (h1 : 1 ≤ es.length) (go : Bool) :
    Calls Try.prog 69 #[v, .bool go] w fun e w' => e = .returned (.int .i64 (ncE es go)) ∧ Keep w w' := by
  obtain ⟨a, c, rfl, h⟩ := h
  rcases h with h | ⟨b, o, rfl, hb, hc⟩
  · exfalso; rw [h] at h1; simp at h1
  cases go
  · have HT : Hid (ncE es false = (es.length : Int)) := Lib.hid (by simp [ncE])
    go_enter Try.func69, Try.ntmps69
    go_wp2
    go_ret
    exact ⟨by rw [HT.out]; rfl, Keep.refl w⟩
  · obtain ⟨m, hm⟩ : ∃ m, es.length = m + 1 := ⟨es.length - 1, by omega⟩
    have AT := hc m _ (evs_get (by omega))
    have HT : Hid (ncE es true = csE (es.getD m zE)) := Lib.hid (by simp [ncE, lastC, hm])
    generalize es.getD m zE = e at AT HT
    obtain ⟨x0, x1, x2, x3, x4, x5⟩ := e
    obtain ⟨-, -, -, -, -, A5⟩ := atE AT
    clear AT hc
    rw [hm]
    have j1 : (0 : Int) ≤ (m : Int) := Int.natCast_nonneg _
    have d3 : IntKind.i64.wrap (m : Int) = (m : Int) := by rw [IntKind.wrap_i64]; omega
    have d4 : wrap64 (m : Int) = (m : Int) := wrap64_small _ (by omega) (by omega)
    clear hm
    go_enter Try.func69, Try.ntmps69
    go_wp2
    go_ret
    exact ⟨by rw [HT.out]; rfl, Keep.refl w⟩
end Go.Proofs.Ytdgalmimkhoanaa
