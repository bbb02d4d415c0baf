/- Lists of events in memory of one's own: one event after the other is put there. -/
import Derived.Test.YtabafnfadophhaaEvRow
import Derived.Laws.OwnMore
import Derived.OwnWalk
namespace Go.Proofs.Ytabafnfadophhaa
open Go.ChangeShapes Go.WideShapes Go.ChangeAt Go.RowKit

theorem put6 {α : Type} : ∀ (A C : List α) (b0 b1 b2 b3 b4 b5 a0 a1 a2 a3 a4 a5 : α),
    ((((((A ++ b0 :: b1 :: b2 :: b3 :: b4 :: b5 :: C).set A.length a0).set (A.length + 1) a1).set (A.length + 2) a2).set (A.length + 3) a3).set (A.length + 4) a4).set (A.length + 5) a5 = A ++ a0 :: a1 :: a2 :: a3 :: a4 :: a5 :: C
  | [], _, _, _, _, _, _, _, _, _, _, _, _, _ => rfl
  | x :: A, C, b0, b1, b2, b3, b4, b5, a0, a1, a2, a3, a4, a5 => congrArg (List.cons x) (put6 A C b0 b1 b2 b3 b4 b5 a0 a1 a2 a3 a4 a5)
theorem six {α : Type} : ∀ l : List α, 6 ≤ l.length → ∃ b0 b1 b2 b3 b4 b5 C, l = b0 :: b1 :: b2 :: b3 :: b4 :: b5 :: C
  | b0 :: b1 :: b2 :: b3 :: b4 :: b5 :: C, _ => ⟨b0, b1, b2, b3, b4, b5, C, rfl⟩
  | [], h => by simp at h
  | [_], h => by simp at h
  | [_, _], h => by simp at h
  | [_, _, _], h => by simp at h
  | [_, _, _, _], h => by simp at h
  | [_, _, _, _, _], h => by simp at h
theorem take_put6 {α : Type} (L : List α) (o : Nat) (h : o + 6 ≤ L.length) (a0 a1 a2 a3 a4 a5 : α) :
    (((((((L.set o a0).set (o + 1) a1).set (o + 2) a2).set (o + 3) a3).set (o + 4) a4).set (o + 5) a5)).take (o + 6) = L.take o ++ [a0, a1, a2, a3, a4, a5] := by
  obtain ⟨b0, b1, b2, b3, b4, b5, C, hC⟩ := six (L.drop o) (by rw [List.length_drop]; omega)
  have hl : (L.take o).length = o := by rw [List.length_take]; omega
  have hL : L = L.take o ++ b0 :: b1 :: b2 :: b3 :: b4 :: b5 :: C := by rw [← hC, List.take_append_drop]
  generalize L.take o = A at hl hL
  subst hl hL
  rw [put6, List.take_append, List.take_of_length_le (by omega)]
  simp
theorem take_moreE (es : List Ev) (k : Nat) (h : k < es.length) : es.take (k + 1) = es.take k ++ [es.getD k zE] := by
  rw [List.take_add_one, evs_get h]; rfl
/-- The first j of a row of n events are those of 'es'; the rest may be anything. -/
def PutE (w : World) (base : Nat) (g n cap j : Nat) (es : List Ev) : Prop :=
  ∃ L, w.ownsRow base 43 6 (.slice (some ⟨g, 0, none⟩) n cap) n L ∧ L.take (j * 6) = es.flatMap cE
theorem PutE.cell {w : World} {base g n cap j : Nat} {es : List Ev} (h : PutE w base g n cap j es) {i : Nat} (hi : i < n * 6) : ∃ u, w.cell? ⟨g, i, none⟩ = some u := by
  obtain ⟨L, h, _⟩ := h
  have hl := h.1
  exact ⟨L[i]'(by omega), by rw [World.ownsRow.cellAt h i hi, List.getElem?_eq_getElem]⟩
theorem PutE.free {w : World} {base g n cap j : Nat} {es : List Ev} (h : PutE w base g n cap j es) (i : Nat) : w.frozen? ⟨g, i, none⟩ = false := by
  obtain ⟨L, h, _⟩ := h
  exact World.ownsRow.frozenAt h i
theorem PutE.keep {w w' : World} {base g n cap j : Nat} {es : List Ev} (h : PutE w base g n cap j es) (k : Keep w w') : PutE w' base g n cap j es := by
  obtain ⟨L, h, h2⟩ := h
  exact ⟨L, World.ownsRow.kept h k.grownBy (.inr (by simp [Value.ownBlock])), h2⟩
theorem PutE.lt {w : World} {base g n cap j : Nat} {es : List Ev} (h : PutE w base g n cap j es) : g < w.heap.size := by
  obtain ⟨L, h, _⟩ := h
  exact (World.ownsRow.lt h g rfl).2
theorem PutE.put {w : World} {base g n cap j : Nat} {es : List Ev} (h : PutE w base g n cap j es) (hj : j < n) (e : Ev) :
    PutE ((((((w.setCell ⟨g, j * 6, none⟩ (.int .i64 e.1)).setCell ⟨g, j * 6 + 1, none⟩ (.int .i64 e.2.1)).setCell ⟨g, j * 6 + 2, none⟩ (.bool e.2.2.1)).setCell ⟨g, j * 6 + 3, none⟩ (.int .i64 e.2.2.2.1)).setCell ⟨g, j * 6 + 4, none⟩ (.int .i64 e.2.2.2.2.1)).setCell ⟨g, j * 6 + 5, none⟩ (.int .i64 e.2.2.2.2.2)) base g n cap (j + 1) (es ++ [e]) ∧
    w.grownBy ((((((w.setCell ⟨g, j * 6, none⟩ (.int .i64 e.1)).setCell ⟨g, j * 6 + 1, none⟩ (.int .i64 e.2.1)).setCell ⟨g, j * 6 + 2, none⟩ (.bool e.2.2.1)).setCell ⟨g, j * 6 + 3, none⟩ (.int .i64 e.2.2.2.1)).setCell ⟨g, j * 6 + 4, none⟩ (.int .i64 e.2.2.2.2.1)).setCell ⟨g, j * 6 + 5, none⟩ (.int .i64 e.2.2.2.2.2)) (some g) := by
  obtain ⟨L, h, h2⟩ := h
  have hl := h.1
  have s0 := World.ownsRow.stored h (j * 6) (.int .i64 e.1)
  have s1 := World.ownsRow.stored s0.1 (j * 6 + 1) (.int .i64 e.2.1)
  have s2 := World.ownsRow.stored s1.1 (j * 6 + 2) (.bool e.2.2.1)
  have s3 := World.ownsRow.stored s2.1 (j * 6 + 3) (.int .i64 e.2.2.2.1)
  have s4 := World.ownsRow.stored s3.1 (j * 6 + 4) (.int .i64 e.2.2.2.2.1)
  have s5 := World.ownsRow.stored s4.1 (j * 6 + 5) (.int .i64 e.2.2.2.2.2)
  refine ⟨⟨_, s5.1, ?_⟩, grown_trans (grown_trans (grown_trans (grown_trans (grown_trans s0.2 s1.2) s2.2) s3.2) s4.2) s5.2⟩
  rw [show (j + 1) * 6 = j * 6 + 6 by omega, take_put6 L (j * 6) (by omega), h2, List.flatMap_append]
  rfl
theorem PutE.app {w : World} {base g cap : Nat} {es : List Ev} (h : PutE w base g es.length cap es.length es) : AppE w base (.slice (some ⟨g, 0, none⟩) es.length cap) es := by
  obtain ⟨L, h, h2⟩ := h
  have hl := h.1
  rw [List.take_of_length_le (by omega)] at h2
  subst h2
  exact h
theorem PutE.start {w : World} {base g n cap : Nat} {L : List Value} (h : w.ownsRow base 43 6 (.slice (some ⟨g, 0, none⟩) n cap) n L) : PutE w base g n cap 0 [] := ⟨L, h, by simp⟩
end Go.Proofs.Ytabafnfadophhaa
