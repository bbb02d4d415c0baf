/- Lists of structs in memory, whatever the struct: its cells are a list of plain values. 'RdT': can be read; 'AppT': in memory of one's own, grows by append. -/
import Derived.Test.YtefdhogmjijkgaaMA
import Derived.Maps.AppendAt
import Derived.Laws.OwnMore
import Derived.OwnWalk
namespace Go.Proofs.Ytefdhogmjijkgaa
open Go.ChangeShapes Go.WideShapes Go.ChangeAt Go.RowKit

section
variable {α : Type} {cf : α → List Value} {n : Nat}
/-- A struct at a place. -/
def AtT (cf : α → List Value) (w : World) (b o : Nat) (x : α) : Prop := ∀ m u, (cf x)[m]? = some u → w.cell? ⟨b, o + m, none⟩ = some u
def RdT (cf : α → List Value) (n : Nat) (w : World) (v : Value) (xs : List α) : Prop :=
  ∃ (a : Option Addr) (cap : Nat), v = .slice a xs.length (xs.length + cap) ∧
    (xs = [] ∨ ∃ b off, a = some ⟨b, off, none⟩ ∧ b < w.heap.size ∧ ∀ i x, xs[i]? = some x → AtT cf w b (off + i * n) x)
theorem AtT.same {w w' : World} {b o : Nat} {x : α} (h : AtT cf w b o x) (hh : w'.heap[b]? = w.heap[b]?) : AtT cf w' b o x :=
  fun m u hm => by
    have := h m u hm
    simp only [World.cell?, hh] at this ⊢
    exact this
theorem AtT.keep {w w' : World} {b o : Nat} {x : α} (h : AtT cf w b o x) (hb : b < w.heap.size) (k : Keep w w') : AtT cf w' b o x := h.same (Below.block k b hb)
theorem RdT.keep {w w' : World} {v : Value} {xs : List α} (h : RdT cf n w v xs) (k : Keep w w') : RdT cf n w' v xs := by
  obtain ⟨a, cap, hv, h⟩ := h
  refine ⟨a, cap, hv, ?_⟩
  rcases h with h | ⟨b, off, ha, hb, hc⟩
  · exact .inl h
  · exact .inr ⟨b, off, ha, Nat.lt_of_lt_of_le hb k.size, fun i x hx => (hc i x hx).keep hb k⟩
def AppT (cf : α → List Value) (e : TypeId) (n : Nat) (w : World) (base : Nat) (v : Value) (xs : List α) : Prop := w.ownsRow base e n v xs.length (xs.flatMap cf)
variable {e : TypeId}
theorem AppT.keep {w w' : World} {base : Nat} {v : Value} {xs : List α} (h : AppT cf e n w base v xs) (k : Keep w w') : AppT cf e n w' base v xs :=
  World.ownsRow.kept h k.grownBy (by cases v.ownBlock <;> simp)
theorem AppT.kept {w w' : World} {base : Nat} {v : Value} {xs : List α} {row : Option Nat} (h : AppT cf e n w base v xs) (hg : w.grownBy w' row) (hne : v.ownBlock = none ∨ v.ownBlock ≠ row) : AppT cf e n w' base v xs :=
  World.ownsRow.kept h hg hne
theorem AppT.lt {w : World} {base : Nat} {v : Value} {xs : List α} (h : AppT cf e n w base v xs) : ∀ k, v.ownBlock = some k → base ≤ k ∧ k < w.heap.size := World.ownsRow.lt h
theorem AppT.ge {w : World} {base : Nat} {v : Value} {xs : List α} (h : AppT cf e n w base v xs) : ∀ k, v.ownBlock = some k → base ≤ k := fun k hk => (h.lt k hk).1
theorem appT_hit {w : World} {base : Nat} {v : Value} {xs : List α} {x : α} (h : w.ownsRow base e n v (xs.length + 1) (xs.flatMap cf ++ cf x)) : AppT cf e n w base v (xs ++ [x]) := by
  unfold AppT; rw [List.flatMap_append]; simpa using h
theorem appT_empty (w : World) : AppT cf e n (w.alloc (.cells #[] e)) w.heap.size (.slice (some ⟨w.heap.size, 0, none⟩) 0 0) [] :=
  World.ownsRow_lit w #[] 0 (Nat.le_refl _) (by decide) (by simp)
theorem flat_at (hn : ∀ x, (cf x).length = n) : ∀ (xs : List α) (i : Nat) (x : α) (m : Nat), xs[i]? = some x → m < n → (xs.flatMap cf)[i * n + m]? = (cf x)[m]?
  | [], i, x, m, h, _ => by simp at h
  | y :: r, 0, x, m, h, hm => by
    simp at h
    subst h
    rw [List.flatMap_cons, List.getElem?_append_left (by rw [hn]; omega)]
    simp
  | y :: r, i + 1, x, m, h, hm => by
    have ih := flat_at hn r i x m (by simpa using h) hm
    have e1 : (i + 1) * n + m = n + (i * n + m) := by rw [Nat.add_mul]; omega
    rw [List.flatMap_cons, List.getElem?_append_right (by rw [hn]; omega), hn, e1, Nat.add_sub_cancel_left, ih]
theorem AppT.shape {w : World} {base : Nat} {v : Value} {xs : List α} (h : AppT cf e n w base v xs) : ∃ a c, v = .slice a xs.length c := by
  rcases h.2 with ⟨rfl, hz⟩ | ⟨g, cap, cur, rfl, _⟩
  · exact ⟨none, 0, by rw [hz]⟩
  · exact ⟨_, _, rfl⟩
theorem AppT.rd (hn : ∀ x, (cf x).length = n) {w : World} {base : Nat} {v : Value} {xs : List α} (h : AppT cf e n w base v xs) : RdT cf n w v xs := by
  have h2 := h
  have hlt := h.lt
  rcases h.2 with ⟨rfl, hz⟩ | ⟨g, cap, cur, rfl, hb, hg, hcap, _, hs, _⟩
  · have : xs = [] := List.eq_nil_of_length_eq_zero hz
    subst this
    exact ⟨none, 0, rfl, .inl rfl⟩
  · obtain ⟨x, rfl⟩ : ∃ x, cap = xs.length + x := ⟨cap - xs.length, by omega⟩
    refine ⟨_, x, rfl, .inr ⟨g, 0, rfl, (hlt g rfl).2, fun i y hy m u hm => ?_⟩⟩
    have hi : i < xs.length := (List.getElem?_eq_some_iff.1 hy).1
    have hmn : m < n := by have := (List.getElem?_eq_some_iff.1 hm).1; rw [hn] at this; exact this
    have hb2 : i * n + m < xs.length * n := by
      have h3 : (i + 1) * n ≤ xs.length * n := Nat.mul_le_mul_right n hi
      rw [Nat.add_mul] at h3
      omega
    rw [Nat.zero_add, World.ownsRow.cellAt h2 (i * n + m) hb2, flat_at hn xs i y m hy hmn]
    exact hm
end
end Go.Proofs.Ytefdhogmjijkgaa
