/- Contracts of the program's helper that asks for any number of tests, at none and at one. -/
import Derived.Test.YtefdhogmjijkgaaTestsI
namespace Go.Proofs.Ytefdhogmjijkgaa
open Go.ChangeShapes Go.WideShapes Go.ChangeAt Go.RowKit

set_option maxHeartbeats 1000000 in
theorem pass_none (w : World) (x0 x1 : Int) (x2 : Bool) (x3 x4 x5 y0 y1 : Int) (y2 : Bool) (y3 y4 y5 : Int) :
    Calls Try.prog 55 #[eA x0 x1 x2 x3 x4 x5, eA y0 y1 y2 y3 y4 y5, .slice none 0 0] w fun e w' => e = .returned (.bool true) ∧ Keep w w' := by
  go_enter Try.func55, Try.ntmps55
  go_wp2
  refine wp_loop_rounds 1 ?_
  rw [rounds_succ]
  go_wp2
  go_ret
  exact ⟨rfl, ((Keep.refl w).alloc _).alloc _⟩
set_option maxHeartbeats 1000000 in
theorem pass_at (w : World) (g : Nat) (x0 x1 : Int) (x2 : Bool) (x3 x4 x5 y0 y1 : Int) (y2 : Bool) (y3 y4 y5 : Int) (hg : w.cell? ⟨g, 0, none⟩ = some (.func (Fn.func 33) #[] #[])) :
    Calls Try.prog 55 #[eA x0 x1 x2 x3 x4 x5, eA y0 y1 y2 y3 y4 y5, .slice (some ⟨g, 0, none⟩) 1 1] w fun e w' => e = .returned (.bool (onpE (x0, x1, x2, x3, x4, x5) (y0, y1, y2, y3, y4, y5))) ∧ Keep w w' := by
  have hgl := block_lt hg
  have C := fun (w1 : World) (_ : Keep w w1) => areAt_any w1 x0 x1 x2 x3 x4 x5 y0 y1 y2 y3 y4 y5
  generalize onpE (x0, x1, x2, x3, x4, x5) (y0, y1, y2, y3, y4, y5) = B at C ⊢
  have C2 := C _ (((Keep.refl w).alloc (.cells #[.int .i64 x0, .int .i64 x1, .bool x2, .int .i64 x3, .int .i64 x4, .int .i64 x5] 36)).alloc (.cells #[.int .i64 y0, .int .i64 y1, .bool y2, .int .i64 y3, .int .i64 y4, .int .i64 y5] 36))
  clear C
  go_enter Try.func55, Try.ntmps55
  go_wp2_with fail
  refine wp_loop_rounds 2 ?_
  rw [rounds_succ]
  go_wp2_with fail
  refine C2.mono ?_
  rintro e w1 ⟨rfl, k1⟩
  have K := (((Keep.refl w).alloc _).alloc _).trans k1
  cases B
  · go_wp2
    go_ret
    exact ⟨rfl, K⟩
  · go_wp2
    rw [rounds_succ]
    go_wp2
    go_ret
    exact ⟨rfl, K⟩
set_option maxHeartbeats 1000000 in
theorem pass_keep (w : World) (g : Nat) (v : Value) (dss : List (List Dd)) (h : RdW w v dss) (hl : ∀ i, i < dss.length → (dss.getD i []).length ≤ 1048576) (x0 x1 : Int) (x2 : Bool) (x3 x4 x5 y0 y1 : Int) (y2 : Bool) (y3 y4 y5 : Int) (hk : x0 = -1 ∨ ∃ c p q : Nat, x0 = (c : Int) ∧ x1 = (p : Int) ∧ y0 = (c : Int) ∧ y1 = (q : Int) ∧ c < dss.length ∧ (p < q ∨ (p = q ∧ ((dss.getD c []).getD p zD).1 = 3)) ∧ q < (dss.getD c []).length) (hg : w.cell? ⟨g, 0, none⟩ = some (.func (Fn.func 32) #[v] #[])) :
    Calls Try.prog 55 #[eA x0 x1 x2 x3 x4 x5, eA y0 y1 y2 y3 y4 y5, .slice (some ⟨g, 0, none⟩) 1 1] w fun e w' => e = .returned (.bool (keepE dss (x0, x1, x2, x3, x4, x5) (y0, y1, y2, y3, y4, y5))) ∧ Keep w w' := by
  have hgl := block_lt hg
  have C := fun (w1 : World) (k1 : Keep w w1) => keeps_any w1 v dss (h.keep k1) hl x0 x1 x2 x3 x4 x5 y0 y1 y2 y3 y4 y5 hk
  generalize keepE dss (x0, x1, x2, x3, x4, x5) (y0, y1, y2, y3, y4, y5) = B at C ⊢
  have C2 := C _ (((Keep.refl w).alloc (.cells #[.int .i64 x0, .int .i64 x1, .bool x2, .int .i64 x3, .int .i64 x4, .int .i64 x5] 36)).alloc (.cells #[.int .i64 y0, .int .i64 y1, .bool y2, .int .i64 y3, .int .i64 y4, .int .i64 y5] 36))
  clear C
  go_enter Try.func55, Try.ntmps55
  go_wp2_with fail
  refine wp_loop_rounds 2 ?_
  rw [rounds_succ]
  go_wp2_with fail
  refine C2.mono ?_
  rintro e w1 ⟨rfl, k1⟩
  have K := (((Keep.refl w).alloc _).alloc _).trans k1
  cases B
  · go_wp2
    go_ret
    exact ⟨rfl, K⟩
  · go_wp2
    rw [rounds_succ]
    go_wp2
    go_ret
    exact ⟨rfl, K⟩
end Go.Proofs.Ytefdhogmjijkgaa
