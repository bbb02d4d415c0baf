/- A deed that came in as an argument: four numbers, each fitting its kind; and how the laws hand it on. -/
import Derived.Test.YtkbkdlaknmgjpaaGreatMA
import Derived.Lib.SmallJoins
namespace Go.Proofs.YtkbkdlaknmgjpaaGreat
open Go.ChangeShapes Go.WideShapes Go.ChangeAt Go.RowKit

set_option maxRecDepth 100000 in
theorem open_deed {H : Type} {enc : TypeId × Value → H} {w : World} {base b0 : Nat} {spare : Nat → Bool} {held : Bool} {r : Reach} {v : Value} {d : DataW H} {p : List MemPlace}
    (hv : Value.okWide Tryz.prog w r b0 127 v) (h : DataW.Trod enc Tryz.prog w base spare held 127 v d p) :
    ∃ k p v' g : Int, v = deedV k p v' g ∧ (Lit.int .i64 k).wf = true ∧ (Lit.int .i64 p).wf = true ∧ (Lit.int .i64 v').wf = true ∧ (Lit.int .i64 g).wf = true := by
  obtain ⟨c0, c1, c2, c3, y0, y1, y2, y3, n, rfl, _, _, e0, e1, e2, e3⟩ := Joins.open_agg4 Tryz.underlying127 (by kernel_rfl) (by kernel_rfl) hv h
  obtain ⟨k, h0, _, w0⟩ := DataW.trod_int Tryz.underlying2 e0
  obtain ⟨p, h1, _, w1⟩ := DataW.trod_int Tryz.underlying2 e1
  obtain ⟨v', h2, _, w2⟩ := DataW.trod_int Tryz.underlying2 e2
  obtain ⟨g, h3, _, w3⟩ := DataW.trod_int Tryz.underlying2 e3
  simp only [List.cons.injEq, and_true] at h0 h1 h2 h3
  subst h0 h1 h2 h3
  exact ⟨k, p, v', g, rfl, w0, w1, w2, w3⟩
theorem toDeed_any (k p v g : Int) (w : World) :
    Calls Tryz.prog 120 #[deedV k p v g] w fun e w' => e = .returned (deedV k p v g) ∧ Keep w w' := by
  go_enter Tryz.func120, Tryz.ntmps120
  go_wp2
  refine bodyPost_ret (results_row (by rfl) _ _ (w.heap.size + 1) _ _ _ _ rfl (by simp only [heap_at, heap_size]; repeat (first | exact if_pos rfl | exact if_pos trivial | rw [if_neg (by omega)])) Tryz.underlying96 rfl (by kernel_rfl)) rfl ?_
  exact ⟨rfl, (((Keep.refl w).alloc _).alloc _).alloc _⟩
end Go.Proofs.YtkbkdlaknmgjpaaGreat
