/- Contract of the program's helper that asks for any number of tests, at the one for one place. -/
import Derived.Test.YtkbkdlaknmgjpaaGreatMB
import Derived.Test.YtkbkdlaknmgjpaaGreatMC
namespace Go.Proofs.YtkbkdlaknmgjpaaGreat
open Go.ChangeShapes Go.WideShapes Go.ChangeAt Go.RowKit

set_option maxHeartbeats 1000000 in
theorem pass_at (w : World) (g : Nat) (x0 x1 : Int) (x2 : Bool) (x3 x4 x5 y0 y1 : Int) (y2 : Bool) (y3 y4 y5 : Int) (hg : w.cell? ⟨g, 0, none⟩ = some (.func (Fn.func 91) #[] #[])) :
    Calls Tryz.prog 137 #[eA x0 x1 x2 x3 x4 x5, eA y0 y1 y2 y3 y4 y5, .slice (some ⟨g, 0, none⟩) 1 1] w fun e w' => e = .returned (.bool (onpE (x0, x1, x2, x3, x4, x5) (y0, y1, y2, y3, y4, y5))) ∧ Keep w w' := by
  have hgl := block_lt hg
  have C := fun (w1 : World) (_ : Keep w w1) => areAt_any w1 x0 x1 x2 x3 x4 x5 y0 y1 y2 y3 y4 y5
  generalize onpE (x0, x1, x2, x3, x4, x5) (y0, y1, y2, y3, y4, y5) = B at C ⊢
  have C2 := C _ (((Keep.refl w).alloc (.cells #[.int .i64 x0, .int .i64 x1, .bool x2, .int .i64 x3, .int .i64 x4, .int .i64 x5] 40)).alloc (.cells #[.int .i64 y0, .int .i64 y1, .bool y2, .int .i64 y3, .int .i64 y4, .int .i64 y5] 40))
  clear C
  go_enter Tryz.func137, Tryz.ntmps137
  go_wp2_with fail
  refine wp_loop_rounds 2 ?_
  rw [rounds_succ]
  go_wp2_with fail
  refine C2.mono ?_
  rintro e w1 ⟨rfl, k1⟩
  have K := (((Keep.refl w).alloc _).alloc _).trans k1
  cases B
  · go_wp2
    go_ret
    exact ⟨rfl, K⟩
  · go_wp2
    rw [rounds_succ]
    go_wp2
    go_ret
    exact ⟨rfl, K⟩
end Go.Proofs.YtkbkdlaknmgjpaaGreat
