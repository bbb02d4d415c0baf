/- Contract of the specification's l4Place: which place a word names. -/
import Derived.Test.YtljamlgnobpjeaaGreatDoorReadNS
namespace Go.Proofs.YtljamlgnobpjeaaGreatDoor
open Go.ChangeShapes Go.WideShapes Go.ChangeAt Go.RowKit

set_option maxRecDepth 100000 in
set_option maxHeartbeats 2000000 in
theorem l4Place_any (l : List UInt8) (w : World) :
    Calls Tryz.prog 50 #[strV l] w fun e w' => e = .returned (.int .i64 (placeNo l)) ∧ Keep w w' := by
  by_cases h0 : l = [120]
  · subst h0
    go_enter Tryz.func50, Tryz.ntmps50
    go_wp2
    refine wp_loop_rounds 1 ?_
    rw [rounds_succ]
    go_wp2
    go_ret
    exact ⟨rfl, (Keep.refl w).alloc _⟩
  by_cases h1 : l = [121]
  · subst h1
    clear h0
    go_enter Tryz.func50, Tryz.ntmps50
    go_wp2
    refine wp_loop_rounds 2 ?_
    rw [rounds_succ]
    go_wp2
    rw [rounds_succ]
    go_wp2
    go_ret
    exact ⟨rfl, ((Keep.refl w).alloc _).alloc _⟩
  by_cases h2 : l = [122]
  · subst h2
    clear h0 h1
    go_enter Tryz.func50, Tryz.ntmps50
    go_wp2
    refine wp_loop_rounds 3 ?_
    rw [rounds_succ]
    go_wp2
    rw [rounds_succ]
    go_wp2
    rw [rounds_succ]
    go_wp2
    go_ret
    exact ⟨rfl, (((Keep.refl w).alloc _).alloc _).alloc _⟩
  have HP : Hid (placeNo l = -1) := Lib.hid (by unfold placeNo; rw [if_neg h0, if_neg h1, if_neg h2])
  have b0 : (l == [120]) = false := by simpa using h0
  have b1 : (l == [121]) = false := by simpa using h1
  have b2 : (l == [122]) = false := by simpa using h2
  clear h0 h1 h2
  go_enter Tryz.func50, Tryz.ntmps50
  go_wp2
  refine wp_loop_rounds 4 ?_
  rw [rounds_succ]
  go_wp2
  rw [rounds_succ]
  go_wp2
  rw [rounds_succ]
  go_wp2
  rw [rounds_succ]
  go_wp2
  go_ret
  exact ⟨by rw [HP.out]; rfl, (((Keep.refl w).alloc _).alloc _).alloc _⟩
end Go.Proofs.YtljamlgnobpjeaaGreatDoor
