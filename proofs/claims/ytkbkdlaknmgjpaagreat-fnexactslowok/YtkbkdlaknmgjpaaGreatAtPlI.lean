/- Contract of the program's AtOnePlace. -/
import Derived.Test.YtkbkdlaknmgjpaaGreatMC
import Derived.Test.YtkbkdlaknmgjpaaGreatPassA
namespace Go.Proofs.YtkbkdlaknmgjpaaGreat
open Go.ChangeShapes Go.WideShapes Go.ChangeAt Go.RowKit

theorem col_plc (dss : List (List Dd)) : colAll (tQ onpE (eventsB dss)) (eventsB dss).length (eventsB dss).length = plcL (eventsB dss) := by
  cases hb : workB dss with
  | false => rw [eventsB, hb]; rfl
  | true => rw [eventsB, if_pos hb, ← plc_same hb]
set_option maxHeartbeats 1000000 in
theorem implAtOnePlace_any (w : World) (v : Value) (dss : List (List Dd)) (h : RdW w v dss) (hx : dss.length ≤ 1048576) (hm : ∀ i, i < dss.length → (dss.getD i []).length ≤ 1048576) :
    Calls Tryz.prog 126 #[v] w fun e w' => ∃ v', e = .returned v' ∧ Row w' w.heap.size v' (plcL (eventsB dss)) ∧ Keep w w' := by
  have C := fun (w0 : World) (k0 : Keep w w0) (g : Nat) (hg : w0.cell? ⟨g, 0, none⟩ = some (.func (Fn.func 91) #[] #[])) =>
    linesOf_any w0 v (.slice (some ⟨g, 0, none⟩) 1 1) dss onpE (h.keep k0) hx hm (fun i j _ _ x0 x1 x2 x3 x4 x5 y0 y1 y2 y3 y4 y5 _ _ _ w1 k1 => pass_at w1 g x0 x1 x2 x3 x4 x5 y0 y1 y2 y3 y4 y5 ((k1.cell (block_lt hg)).trans hg))
  rw [col_plc] at C
  go_enter Tryz.func126, Tryz.ntmps126
  go_wp2_with fail
  refine (C _ ((Keep.refl w).alloc _) _ ?_).mono ?_
  · simp
  rintro e w1 ⟨v1, rfl, r1, k1⟩
  go_wp2
  go_ret
  exact ⟨_, rfl, r1.base_le (by rw [heap_size]; omega), ((Keep.refl w).alloc _).trans k1⟩
end Go.Proofs.YtkbkdlaknmgjpaaGreat
