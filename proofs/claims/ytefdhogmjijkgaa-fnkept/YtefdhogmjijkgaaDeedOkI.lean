/- Contracts of the program's DeedOk and of what it calls: it answers whether four numbers are a deed, and turns nothing. -/
import Derived.Test.YtefdhogmjijkgaaMA
import Derived.BigRegion
namespace Go.Proofs.Ytefdhogmjijkgaa
open Go.ChangeShapes Go.WideShapes Go.ChangeAt Go.RowKit

theorem isFrom_any (lo x hi : Int) (w : World) :
    Calls Try.prog 88 #[.int .i64 lo, .int .i64 x, .int .i64 hi] w fun e w' => e = .returned (.bool (inB x lo hi)) ∧ w' = w := by
  go_enter Try.func88, Try.ntmps88
  go_wp2
  all_goals
    go_ret
    exact ⟨ret_bool (by rw [Bool.eq_iff_iff]; unfold inB; simp; omega), rfl⟩
/-- The greatest of each number, by the kind; the least value. -/
def mostP (k : Int) : Int := if k = 1 ∨ k = 2 ∨ k = 3 then 2 else 0
def mostV (k : Int) : Int := if k = 2 ∨ k = 3 then 9 else 0
def leastV (k : Int) : Int := if k = 2 ∨ k = 3 then 1 else 0
def mostG (k : Int) : Int := if k = 1 ∨ k = 2 then 9 else 0
theorem limits_any (k : Int) (w : World) :
    Calls Try.prog 100 #[.int .i64 k] w fun e w' => e = .returned (.tuple #[deedV 1 0 (leastV k) 0, deedV 4 (mostP k) (mostV k) (mostG k)]) ∧ Keep w w' := by
  have hk : k = 1 ∨ k = 2 ∨ k = 3 ∨ (¬ k = 1 ∧ ¬ k = 2 ∧ ¬ k = 3) := by omega
  rcases hk with rfl | rfl | rfl | ⟨h1, h2, h3⟩
  all_goals
    go_enter Try.func100, Try.ntmps100
    go_wp2
    go_region
    go_wp2
    refine bodyPost_ret (results_row2 (by rfl) _ _ _ _ _ _ _ _ _ _ _ rfl (by simp only [heap_at, heap_drew, heap_size]; repeat (first | exact if_pos rfl | exact if_pos trivial | rw [if_neg (by omega)])) rfl (by simp only [heap_at, heap_drew, heap_size]; repeat (first | exact if_pos rfl | exact if_pos trivial | rw [if_neg (by omega)])) Try.underlying54 rfl (by kernel_rfl) (by kernel_rfl)) rfl ?_
    refine ⟨?_, (((((Keep.refl w).alloc _).alloc _).alloc _).alloc _).drew⟩
    first | rfl | simp [deedV, leastV, mostP, mostV, mostG, h1, h2, h3]
theorem deedB_from (k p v g : Int) : deedB k p v g = (inB k 1 4 && inB p 0 (mostP k) && inB v (leastV k) (mostV k) && inB g 0 (mostG k)) := by
  have hk : k = 1 ∨ k = 2 ∨ k = 3 ∨ k = 4 ∨ ¬ (1 ≤ k ∧ k ≤ 4) := by omega
  rw [Bool.eq_iff_iff]
  rcases hk with rfl | rfl | rfl | rfl | h
  all_goals
    simp [deedB, inB, mostP, mostV, leastV, mostG]
    omega
theorem implDeedOk_any (k p v g : Int) (w : World) :
    Calls Try.prog 99 #[deedV k p v g] w fun e w' => e = .returned (.bool (deedB k p v g)) ∧ Keep w w' := by
  rw [deedB_from]
  unfold deedV
  go_enter Try.func99, Try.ntmps99
  go_wp2_with fail
  refine (limits_any _ _).mono ?_
  rintro e w1 ⟨rfl, k1⟩
  have hs := box_size k1
  have c0 : w1.cell? ⟨w.heap.size, 0, none⟩ = some (.int .i64 k) := box_cell k1 0
  have c1 : w1.cell? ⟨w.heap.size, 1, none⟩ = some (.int .i64 p) := box_cell k1 1
  have c2 : w1.cell? ⟨w.heap.size, 2, none⟩ = some (.int .i64 v) := box_cell k1 2
  have c3 : w1.cell? ⟨w.heap.size, 3, none⟩ = some (.int .i64 g) := box_cell k1 3
  have K1 : Keep w w1 := ((Keep.refl w).alloc _).trans k1
  clear k1
  go_wp2_with (go_at_call 88; refine (isFrom_any _ _ _ _).mono ?_; rintro e w' ⟨rfl, rfl⟩)
  all_goals
    go_ret
    exact ⟨ret_bool (by simp [*]), (K1.alloc _).alloc _⟩
end Go.Proofs.Ytefdhogmjijkgaa
