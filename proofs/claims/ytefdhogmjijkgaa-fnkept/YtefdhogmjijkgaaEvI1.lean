/- Contracts of the program's eventOf: of a reading and of a writing. -/
import Derived.Test.YtefdhogmjijkgaaEvRow
import Derived.Outline
import Derived.BigRegion
import Derived.RegionTactic
import Derived.Lib.Hide
namespace Go.Proofs.Ytefdhogmjijkgaa
open Go.ChangeShapes Go.WideShapes Go.ChangeAt Go.RowKit

abbrev rdV (p : Int) : Value := .iface 110 (.agg #[.int .i64 p])
abbrev wrV (p v : Int) : Value := .iface 106 (.agg #[.int .i64 p, .int .i64 v])
abbrev evA (x0 x1 : Int) (r : Bool) (x3 x4 x5 : Int) : Value := .agg #[.int .i64 x0, .int .i64 x1, .bool r, .int .i64 x3, .int .i64 x4, .int .i64 x5]
theorem at_rd (p : Int) (w : World) : (method 231 110 (.agg #[.int .i64 p]) "loop.example/g00411/impl.at").run Try.prog w = .ok (117, .agg #[.int .i64 p]) w := by kernel_rfl
theorem at_wr (p v : Int) (w : World) : (method 231 106 (.agg #[.int .i64 p, .int .i64 v]) "loop.example/g00411/impl.at").run Try.prog w = .ok (116, .agg #[.int .i64 p, .int .i64 v]) w := by kernel_rfl
theorem atRd_any (p : Int) (w : World) : Calls Try.prog 117 #[.agg #[.int .i64 p]] w fun e w' => e = .returned (.int .i64 p) ∧ Keep w w' := by
  go_enter Try.func117, Try.ntmps117
  go_wp2
  go_ret
  exact ⟨rfl, (Keep.refl w).alloc _⟩
theorem atWr_any (p v : Int) (w : World) : Calls Try.prog 116 #[.agg #[.int .i64 p, .int .i64 v]] w fun e w' => e = .returned (.int .i64 p) ∧ Keep w w' := by
  go_enter Try.func116, Try.ntmps116
  go_wp2
  go_ret
  exact ⟨rfl, (Keep.refl w).alloc _⟩
theorem as_rd (p : Int) (w : World) : (Instr.typeAssert (rdV p) 96 110 true).run Try.prog w = .ok (.tuple #[.agg #[.int .i64 p], .bool true]) w := by kernel_rfl
theorem as_wr (p v : Int) (w : World) : (Instr.typeAssert (wrV p v) 96 110 true).run Try.prog w = .ok (.tuple #[.agg #[.int .i64 0], .bool false]) w := by kernel_rfl
theorem as_wr2 (p v : Int) (w : World) : (Instr.typeAssert (wrV p v) 96 106 true).run Try.prog w = .ok (.tuple #[.agg #[.int .i64 p, .int .i64 v], .bool true]) w := by kernel_rfl
/-- Six cells of a block, one after the other. -/
abbrev put6W (w : World) (B : Nat) (a0 a1 a2 a3 a4 a5 : Value) : World :=
  (((((w.setCell ⟨B, 0, none⟩ a0).setCell ⟨B, 1, none⟩ a1).setCell ⟨B, 2, none⟩ a2).setCell ⟨B, 3, none⟩ a3).setCell ⟨B, 4, none⟩ a4).setCell ⟨B, 5, none⟩ a5
theorem set6 {w : World} {B : Nat} {T : TypeId} {b0 b1 b2 b3 b4 b5 : Value} (h : w.heap[B]? = some (.cells #[b0, b1, b2, b3, b4, b5] T)) (a0 a1 a2 a3 a4 a5 : Value) :
    (put6W w B a0 a1 a2 a3 a4 a5).heap[B]? = some (.cells #[a0, a1, a2, a3, a4, a5] T) := by
  have h0 := heap_setCell_same w B 0 _ _ a0 h
  have h1 := heap_setCell_same _ B 1 _ _ a1 h0
  have h2 := heap_setCell_same _ B 2 _ _ a2 h1
  have h3 := heap_setCell_same _ B 3 _ _ a3 h2
  have h4 := heap_setCell_same _ B 4 _ _ a4 h3
  exact heap_setCell_same _ B 5 _ _ a5 h4
theorem keep1 {w wr : World} (h : Keep w wr) {g : Nat} (hg : w.heap.size ≤ g) (i : Nat) (x : Value) : Keep w (wr.setCell ⟨g, i, none⟩ x) :=
  h.grown (row := some g) ⟨rfl, rfl, rfl, by simp, fun k _ hk => heap_setCell_other wr ⟨g, i, none⟩ k x (fun e => hk (by simp [e]))⟩ (fun k hk => by simp at hk; omega)
theorem keep6 {w wr : World} (h : Keep w wr) (a0 a1 a2 a3 a4 a5 : Value) : Keep w (put6W wr w.heap.size a0 a1 a2 a3 a4 a5) :=
  keep1 (keep1 (keep1 (keep1 (keep1 (keep1 h (Nat.le_refl _) 0 a0) (Nat.le_refl _) 1 a1) (Nat.le_refl _) 2 a2) (Nat.le_refl _) 3 a3) (Nat.le_refl _) 4 a4) (Nat.le_refl _) 5 a5
theorem size6 (w : World) (B : Nat) (a0 a1 a2 a3 a4 a5 : Value) : (put6W w B a0 a1 a2 a3 a4 a5).heap.size = w.heap.size := by simp
set_option maxRecDepth 100000 in
set_option maxHeartbeats 1000000 in
theorem eventOf_rd (p : Int) (w : World) :
    Calls Try.prog 80 #[rdV p] w fun e w' => e = .returned (evA 0 0 true p 0 0) ∧ Keep w w' := by
  have hm := at_rd p
  have ha := as_rd p
  go_enter Try.func80, Try.ntmps80
  go_wp2_with fail
  refine (atRd_any _ _).mono ?_
  rintro e w1 ⟨rfl, k1⟩
  have hb := box_size k1
  have hh := box_heap k1
  have b0 := box_cell k1 0
  have b1 := box_cell k1 1
  have b2 := box_cell k1 2
  have b3 := box_cell k1 3
  have b4 := box_cell k1 4
  have b5 := box_cell k1 5
  have hfr := fun j => frozen_of_row w1 w.heap.size j _ _ (box_heap k1)
  have S := set6 hh (.int .i64 0) (.int .i64 0) (.bool true) (.int .i64 p) (.int .i64 0) (.int .i64 0)
  have K := keep6 (((Keep.refl w).alloc _).trans k1) (.int .i64 0) (.int .i64 0) (.bool true) (.int .i64 p) (.int .i64 0) (.int .i64 0)
  have Z := size6 w1 w.heap.size (.int .i64 0) (.int .i64 0) (.bool true) (.int .i64 p) (.int .i64 0) (.int .i64 0)
  go_wp2
  refine bodyPost_ret (results_row (by rfl) _ _ w.heap.size _ _ _ _ rfl (by rw [heap_at, if_neg (by rw [heap_size, Z]; omega), heap_at, if_neg (by rw [Z]; omega)]; exact S) Try.underlying36 rfl (by kernel_rfl)) rfl ?_
  exact ⟨rfl, (K.alloc _).alloc _⟩
set_option maxRecDepth 100000 in
set_option maxHeartbeats 1000000 in
theorem eventOf_wr (p v : Int) (w : World) :
    Calls Try.prog 80 #[wrV p v] w fun e w' => e = .returned (evA 0 0 false p v 0) ∧ Keep w w' := by
  have hm := at_wr p v
  have ha := as_wr p v
  have hc := as_wr2 p v
  go_enter Try.func80, Try.ntmps80
  go_wp2_with fail
  refine (atWr_any _ _ _).mono ?_
  rintro e w1 ⟨rfl, k1⟩
  have hb := box_size k1
  have hh := box_heap k1
  have b0 := box_cell k1 0
  have b1 := box_cell k1 1
  have b2 := box_cell k1 2
  have b3 := box_cell k1 3
  have b4 := box_cell k1 4
  have b5 := box_cell k1 5
  have hfr := fun j => frozen_of_row w1 w.heap.size j _ _ (box_heap k1)
  have S := set6 hh (.int .i64 0) (.int .i64 0) (.bool false) (.int .i64 p) (.int .i64 v) (.int .i64 0)
  have K := keep6 (((Keep.refl w).alloc _).trans k1) (.int .i64 0) (.int .i64 0) (.bool false) (.int .i64 p) (.int .i64 v) (.int .i64 0)
  have Z := size6 w1 w.heap.size (.int .i64 0) (.int .i64 0) (.bool false) (.int .i64 p) (.int .i64 v) (.int .i64 0)
  go_wp2
  refine bodyPost_ret (results_row (by rfl) _ _ w.heap.size _ _ _ _ rfl (by rw [heap_at, if_neg (by rw [heap_size, Z]; omega), heap_at, if_neg (by rw [Z]; omega)]; exact S) Try.underlying36 rfl (by kernel_rfl)) rfl ?_
  exact ⟨rfl, (K.alloc _).alloc _⟩
end Go.Proofs.Ytefdhogmjijkgaa
