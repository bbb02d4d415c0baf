/- An array of twelve numbers in a block of its own. -/
import Derived.Test.YtgolhjmbloiakaaMB
import Derived.Test.YtgolhjmbloiakaaMA
import Derived.Laws.Tables
namespace Go.Proofs.Ytgolhjmbloiakaa
open Go.ChangeShapes Go.WideShapes Go.ChangeAt Go.RowKit

abbrev pgC (p : List Int) : Array Value := (p.map (Value.int .i64)).toArray
abbrev pgV (p : List Int) : Value := .agg (pgC p)
def Pg (w : World) (g : Nat) (p : List Int) : Prop := w.heap[g]? = some (.cells (pgC p) 63 (0, 0))
theorem Pg.lt {w : World} {g : Nat} {p : List Int} (h : Pg w g p) : g < w.heap.size := (Array.getElem?_eq_some_iff.1 h).1
theorem Pg.row {w : World} {g : Nat} {p : List Int} (h : Pg w g p) : RowAt w g p := ⟨_, _, h, by show List.take p.length (p.map _) = _; exact List.take_of_length_le (by simp)⟩
theorem Pg.cell {w : World} {g : Nat} {p : List Int} (h : Pg w g p) {j : Nat} (hj : j < p.length) : w.cell? ⟨g, j, none⟩ = some (.int .i64 (p.getD j 0)) := h.row.cell hj
theorem Pg.free {w : World} {g : Nat} {p : List Int} (h : Pg w g p) (j : Nat) : w.frozen? ⟨g, j, none⟩ = false := frozen_of_row w g j _ _ h
theorem Pg.kept {w w' : World} {g : Nat} {p : List Int} {row : Option Nat} (h : Pg w g p) (hg : w.grownBy w' row) (hne : row ≠ some g) : Pg w' g p := by
  unfold Pg
  rw [hg.block g h.lt (fun e => hne e.symm)]
  exact h
theorem Pg.keep {w w' : World} {g : Nat} {p : List Int} (h : Pg w g p) (k : Keep w w') : Pg w' g p := h.kept k.grownBy (by simp)
theorem Pg.set {w : World} {g : Nat} {p : List Int} (h : Pg w g p) (j : Nat) (x : Int) : Pg (w.setCell ⟨g, j, none⟩ (.int .i64 x)) g (p.set j x) := by
  unfold Pg at h ⊢
  rw [heap_setCell_same w g j _ _ _ h]
  congr 2
  apply Array.ext'
  rw [Array.toList_setIfInBounds]
  simp [List.map_set]
theorem Pg.new {w : World} (p : List Int) : Pg (w.alloc (.cells (pgC p) 63 (0, 0))) w.heap.size p := heap_alloc_new w _
theorem pg_size {p : List Int} (h : p.length = 12) : (pgC p).size = 12 := by simp [pgC, h]
theorem pg_one (p : List Int) : (pgC p).all (·.oneCell') = true := by
  rw [Array.all_eq_true_iff_forall_mem]
  intro x hx
  simp only [pgC, List.mem_toArray, List.mem_map] at hx
  obtain ⟨a, _, rfl⟩ := hx
  rfl
theorem heap_setRow_same (w : World) (g : Nat) (t : TypeId) (old cs : Array Value) (hg : w.heap[g]? = some (.cells old t (0, 0))) : (w.setRow g cs).heap[g]? = some (.cells cs t (0, 0)) := by
  unfold World.setRow
  have hl := (Array.getElem?_eq_some_iff.1 hg).1
  rw [Array.getElem?_modify]
  simp [hg]
theorem grown_setRow (w : World) (g : Nat) (cs : Array Value) : w.grownBy (w.setRow g cs) (some g) :=
  ⟨rfl, rfl, rfl, by simp, fun k _ hk => by
    unfold World.setRow
    have hk' : k ≠ g := fun e => hk (by rw [e])
    rw [Array.getElem?_modify]
    simp [hk'.symm]⟩
theorem page_info : (Try.prog.info? 63).map (·.size) = some 12 := by kernel_rfl
end Go.Proofs.Ytgolhjmbloiakaa
