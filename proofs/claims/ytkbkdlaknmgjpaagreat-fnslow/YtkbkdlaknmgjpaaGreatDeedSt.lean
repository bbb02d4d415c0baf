/- A deed in a block of the call's own, while it is filled: what it holds, and that all else stands. -/
import Derived.Test.YtkbkdlaknmgjpaaGreatStrs
import Derived.Test.YtkbkdlaknmgjpaaGreatMB
namespace Go.Proofs.YtkbkdlaknmgjpaaGreat
open Go.ChangeShapes Go.WideShapes Go.ChangeAt Go.RowKit

/-- What ReadDeed answers of a guess. -/
def readV (b : Bool) (k p v g : Int) : Value := if b = true then .tuple #[deedV k p v g, .bool true] else .tuple #[deedV 0 0 0 0, .bool false]
abbrev deedC (k p v g : Int) : Obj := .cells #[.int .i64 k, .int .i64 p, .int .i64 v, .int .i64 g] 96
/-- Block D of the world wr is a deed; all else that was in w1 stands as it stood. -/
def St (w1 wr : World) (D : Nat) (k p v g : Int) : Prop := wr.heap[D]? = some (deedC k p v g) ∧ w1.grownBy wr (some D)
theorem St.start {w1 : World} (k p v g : Int) : St w1 (w1.alloc (deedC k p v g)) w1.heap.size k p v g :=
  ⟨heap_alloc_new w1 _, World.grownBy_alloc w1 _ (some w1.heap.size)⟩
theorem St.size {w1 wr : World} {D : Nat} {k p v g : Int} (h : St w1 wr D k p v g) : D < wr.heap.size := (Array.getElem?_eq_some_iff.1 h.1).1
theorem St.keep {w1 wr wr' : World} {D : Nat} {k p v g : Int} (h : St w1 wr D k p v g) (hk : Keep wr wr') : St w1 wr' D k p v g :=
  ⟨(Below.block hk D h.size).trans h.1, grown_trans h.2 ⟨Below.os hk, Below.tape hk, Below.output hk, Below.size hk, fun i hi _ => Below.block hk i hi⟩⟩
theorem St.cells {w1 wr : World} {D : Nat} {k p v g : Int} (h : St w1 wr D k p v g) :
    wr.cell? ⟨D, 0, none⟩ = some (.int .i64 k) ∧ wr.cell? ⟨D, 1, none⟩ = some (.int .i64 p) ∧ wr.cell? ⟨D, 2, none⟩ = some (.int .i64 v) ∧ wr.cell? ⟨D, 3, none⟩ = some (.int .i64 g) :=
  ⟨cell_of_row wr D 0 _ _ (0, 0) h.1, cell_of_row wr D 1 _ _ (0, 0) h.1, cell_of_row wr D 2 _ _ (0, 0) h.1, cell_of_row wr D 3 _ _ (0, 0) h.1⟩
theorem St.free {w1 wr : World} {D : Nat} {k p v g : Int} (h : St w1 wr D k p v g) (i : Nat) : wr.frozen? ⟨D, i, none⟩ = false := frozen_of_row wr D i _ _ h.1
theorem St.set0 {w1 wr : World} {D : Nat} {k p v g : Int} (h : St w1 wr D k p v g) (x : Int) : St w1 (wr.setCell ⟨D, 0, none⟩ (.int .i64 x)) D x p v g :=
  ⟨by rw [heap_setCell_same wr D 0 _ _ _ h.1]; rfl, grown_trans h.2 ⟨rfl, rfl, rfl, by simp, fun i _ hi => heap_setCell_other wr ⟨D, 0, none⟩ i _ (fun e => hi (by simp [e]))⟩⟩
theorem St.set1 {w1 wr : World} {D : Nat} {k p v g : Int} (h : St w1 wr D k p v g) (x : Int) : St w1 (wr.setCell ⟨D, 1, none⟩ (.int .i64 x)) D k x v g :=
  ⟨by rw [heap_setCell_same wr D 1 _ _ _ h.1]; rfl, grown_trans h.2 ⟨rfl, rfl, rfl, by simp, fun i _ hi => heap_setCell_other wr ⟨D, 1, none⟩ i _ (fun e => hi (by simp [e]))⟩⟩
theorem St.set2 {w1 wr : World} {D : Nat} {k p v g : Int} (h : St w1 wr D k p v g) (x : Int) : St w1 (wr.setCell ⟨D, 2, none⟩ (.int .i64 x)) D k p x g :=
  ⟨by rw [heap_setCell_same wr D 2 _ _ _ h.1]; rfl, grown_trans h.2 ⟨rfl, rfl, rfl, by simp, fun i _ hi => heap_setCell_other wr ⟨D, 2, none⟩ i _ (fun e => hi (by simp [e]))⟩⟩
theorem St.set3 {w1 wr : World} {D : Nat} {k p v g : Int} (h : St w1 wr D k p v g) (x : Int) : St w1 (wr.setCell ⟨D, 3, none⟩ (.int .i64 x)) D k p v x :=
  ⟨by rw [heap_setCell_same wr D 3 _ _ _ h.1]; rfl, grown_trans h.2 ⟨rfl, rfl, rfl, by simp, fun i _ hi => heap_setCell_other wr ⟨D, 3, none⟩ i _ (fun e => hi (by simp [e]))⟩⟩
/-- What was there ahead of the deed's block stands. -/
theorem St.keep1 {w1 wr : World} {k p v g : Int} (h : St w1 wr w1.heap.size k p v g) : Keep w1 wr :=
  (Keep.refl w1).grown h.2 (fun k hk => by simp at hk; omega)
end Go.Proofs.YtkbkdlaknmgjpaaGreat
