/- Contract of the program's new web without a line. -/
import Derived.Test.YtgolhjmbloiakaaMB
import Derived.Outline
namespace Go.Proofs.Ytgolhjmbloiakaa
open Go.ChangeShapes Go.WideShapes Go.ChangeAt Go.RowKit

theorem take_zeros (n : Nat) (h : n ≤ 12) : (List.replicate 12 (Value.int .i64 0)).take n = (List.replicate n (0 : Int)).map (Value.int .i64) := by
  rw [List.take_replicate, List.map_replicate, Nat.min_eq_left h]
set_option maxHeartbeats 400000 in
theorem blank_any (w : World) (n : Nat) (hn : n ≤ 12) :
    Calls Try.prog 67 #[.int .i64 n] w fun e w' => e = .returned (.slice (some ⟨w.heap.size, 0, none⟩) n n) ∧ RowAt w' w.heap.size (List.replicate n 0) ∧ Keep w w' := by
  have i1 : (0 : Int) ≤ (n : Int) := Int.natCast_nonneg _
  have i2 : (n : Int) ≤ 12 := by omega
  have i3 : (n : Int) ≤ (n : Int) := Int.le_refl _
  go_enter Try.func67, Try.ntmps67
  go_wp2
  go_ret
  refine ⟨?_, ⟨_, _, heap_alloc_new w _, ?_⟩, (Keep.refl w).alloc _⟩
  · rfl
  · rw [List.length_replicate]; exact take_zeros n hn
end Go.Proofs.Ytgolhjmbloiakaa
