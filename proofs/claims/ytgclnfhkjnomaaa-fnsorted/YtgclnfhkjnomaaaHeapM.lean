/- The heap of those that wait, as the program keeps it: one cell that holds a list; contracts of its five methods; which method the library's heap comes to. -/
import Derived.Test.YtgclnfhkjnomaaaRow
import Derived.Test.YtgclnfhkjnomaaaHeapPlain
import Derived.Outline
import Derived.RegionTactic
import Derived.BigRegion
import Derived.BigQuiet
import Derived.Deep.RegionHeld3
import Derived.Deep.AppendLies
import Derived.OwnWalk
import Derived.StillTactics
import Derived.Laws.Pointers
namespace Go.Proofs.Ytgclnfhkjnomaaa
open Go.ChangeShapes Go.WideShapes Go.ChangeAt Go.RowKit

/-- Nothing but block a and block b has turned. -/
structure Turn (w w' : World) (a : Nat) (b : Option Nat) : Prop where
  os : w'.os = w.os
  tape : w'.tape = w.tape
  output : w'.output = w.output
  size : w.heap.size ≤ w'.heap.size
  block : ∀ k, k < w.heap.size → k ≠ a → some k ≠ b → w'.heap[k]? = w.heap[k]?
theorem Turn.refl (w : World) (a : Nat) (b : Option Nat) : Turn w w a b := ⟨rfl, rfl, rfl, Nat.le_refl _, fun _ _ _ _ => rfl⟩
theorem Turn.of_b {w w' : World} {a : Nat} {b : Option Nat} (h : w.grownBy w' b) : Turn w w' a b := ⟨h.os, h.tape, h.output, h.size, fun k hk _ hb => h.block k hk hb⟩
theorem Turn.of_a {w w' : World} {a : Nat} {b : Option Nat} (h : w.grownBy w' (some a)) : Turn w w' a b := ⟨h.os, h.tape, h.output, h.size, fun k hk ha _ => h.block k hk (by simpa using ha)⟩
theorem Turn.trans {w w1 w2 : World} {a : Nat} {b b' : Option Nat} (h : Turn w w1 a b) (k : Turn w1 w2 a b') (hb : b' = b ∨ ∀ i, b' = some i → w.heap.size ≤ i) : Turn w w2 a b :=
  ⟨k.os.trans h.os, k.tape.trans h.tape, k.output.trans h.output, Nat.le_trans h.size k.size, fun i hi ha hbi =>
    (k.block i (Nat.lt_of_lt_of_le hi h.size) ha (by
      rcases hb with rfl | hb
      · exact hbi
      · intro e; have := hb i e.symm; omega)).trans (h.block i hi ha hbi)⟩
theorem Turn.keep {u w w' : World} {a : Nat} {b : Option Nat} (h : Turn w w' a b) (k : Keep u w) (ha : u.heap.size ≤ a) (hb : ∀ i, b = some i → u.heap.size ≤ i) : Keep u w' := by
  have hs := k.size
  exact Below.trans k ⟨h.os, h.tape, h.output, h.size, fun i hi => h.block i (by omega) (by omega) (fun e => by have := hb i e.symm; omega)⟩
theorem RowAt.turn {w w' : World} {g a : Nat} {b : Option Nat} {zs : List Int} (h : RowAt w g zs) (t : Turn w w' a b) (ha : g ≠ a) (hb : some g ≠ b) : RowAt w' g zs := by
  have hlt := h.lt
  obtain ⟨cur, e, hh, ht⟩ := h
  exact ⟨cur, e, by rw [t.block g hlt ha hb]; exact hh, ht⟩
theorem Own.turn {w w' : World} {base a : Nat} {b : Option Nat} {v : Value} {zs : List Int} (h : Own w base v zs) (t : Turn w w' a b) (ha : v.ownBlock ≠ some a) (hb : v.ownBlock = none ∨ v.ownBlock ≠ b) : Own w' base v zs := by
  have hlt := World.ownsRow.lt h
  refine ⟨h.1, ?_⟩
  rcases h.2 with h | ⟨g, cap, cur, rfl, hg, hh, rest⟩
  · exact .inl h
  · refine .inr ⟨g, cap, cur, rfl, hg, ?_, rest⟩
    rw [t.block g (hlt g rfl).2 (fun e => ha (by rw [e]; rfl)) (by
      rcases hb with hb | hb
      · simp [Value.ownBlock] at hb
      · exact hb)]
    exact hh
theorem Own.setAt {w : World} {base g n cap : Nat} {zs : List Int} (h : Own w base (.slice (some ⟨g, 0, none⟩) n cap) zs) (j : Nat) (x : Int) : Own (w.setCell ⟨g, j, none⟩ (.int .i64 x)) base (.slice (some ⟨g, 0, none⟩) n cap) (zs.set j x) := by
  obtain ⟨h1, h2⟩ := h
  refine ⟨by simp, ?_⟩
  rcases h2 with ⟨h, _⟩ | ⟨g', cap', cur, e, hg, hh, r1, r2, r3, r4⟩
  · cases h
  · cases e
    refine .inr ⟨g, cap, cur.setIfInBounds j (.int .i64 x), by simp, hg, heap_setCell_same w g j _ _ _ hh, by simpa using r1, r2, by simpa using r3, ?_⟩
    rw [Nat.mul_one] at r4 ⊢
    rw [Array.toList_setIfInBounds]
    exact take_set_val _ zs j x r4
theorem Own.cut {w : World} {base g n cap : Nat} {zs : List Int} (h : Own w base (.slice (some ⟨g, 0, none⟩) n cap) zs) {m : Nat} (hm : m ≤ zs.length) : Own w base (.slice (some ⟨g, 0, none⟩) m cap) (zs.take m) := by
  obtain ⟨h1, h2⟩ := h
  have hl : (zs.take m).length = m := by rw [List.length_take]; omega
  refine ⟨by simp, ?_⟩
  rw [hl]
  rcases h2 with ⟨h, _⟩ | ⟨g', cap', cur, e, hg, hh, r1, r2, r3, r4⟩
  · cases h
  · cases e
    refine .inr ⟨g, cap, cur, rfl, hg, hh, by omega, r2, r3, ?_⟩
    rw [Nat.mul_one] at r4 ⊢
    have e1 := congrArg (List.take m) r4
    rw [List.take_take, Nat.min_eq_left hm, ← List.map_take] at e1
    exact e1
theorem Own.len {w : World} {base g n cap : Nat} {zs : List Int} (h : Own w base (.slice (some ⟨g, 0, none⟩) n cap) zs) : n = zs.length := by
  rcases h.2 with ⟨h, _⟩ | ⟨g', cap', cur, e, _⟩
  · cases h
  · cases e; rfl
theorem Own.rowAt {w : World} {base g n cap : Nat} {zs : List Int} (h : Own w base (.slice (some ⟨g, 0, none⟩) n cap) zs) : RowAt w g zs := by
  rcases h.2 with ⟨h, _⟩ | ⟨g', cap', cur, e, hg, hh, r1, r2, r3, r4⟩
  · cases h
  · cases e
    exact ⟨cur, _, hh, by rw [Nat.mul_one] at r4; exact r4⟩
/-- The heap: cell hb holds the list v, whose numbers q lie in a block behind hb. -/
structure Hp (w : World) (hb : Nat) (v : Value) (q : List Int) : Prop where
  cell : w.heap[hb]? = some (.cells #[v] 70 (0, 0))
  own : Own w (hb + 1) v q
theorem Hp.at {w : World} {hb : Nat} {v : Value} {q : List Int} (h : Hp w hb v q) : w.cell? ⟨hb, 0, none⟩ = some v := by rw [cell_of_row w hb 0 _ _ _ h.cell]; rfl
theorem Hp.free {w : World} {hb : Nat} {v : Value} {q : List Int} (h : Hp w hb v q) : w.frozen? ⟨hb, 0, none⟩ = false := frozen_of_row w hb 0 _ _ h.cell
theorem Hp.lt {w : World} {hb : Nat} {v : Value} {q : List Int} (h : Hp w hb v q) : hb < w.heap.size := (Array.getElem?_eq_some_iff.1 h.cell).1
theorem Hp.keep {w w' : World} {hb : Nat} {v : Value} {q : List Int} (h : Hp w hb v q) (k : Keep w w') : Hp w' hb v q :=
  ⟨by rw [Below.block k hb h.lt]; exact h.cell, h.own.keep k⟩
theorem Hp.grown {w w' : World} {hb : Nat} {v : Value} {q : List Int} {row : Option Nat} (h : Hp w hb v q) (g : w.grownBy w' row) (h1 : row ≠ some hb) (h2 : v.ownBlock = none ∨ v.ownBlock ≠ row) : Hp w' hb v q :=
  ⟨by rw [g.block hb h.lt (fun e => h1 e.symm)]; exact h.cell, h.own.kept g h2⟩

theorem wLen_any (w : World) (a : Option Addr) (n cap : Nat) :
    Calls Try.prog 107 #[.slice a n cap] w fun e w' => e = .returned (.int .i64 n) ∧ w' = w := by
  go_enter Try.func107, Try.ntmps107
  go_wp2
  go_ret
  exact ⟨rfl, rfl⟩
/-- Is the one at i less than the one at j? -/
def ltB (q : List Int) (i j : Nat) : Bool := decide (q.getD i 0 < q.getD j 0)
theorem ltB_yes {q : List Int} {i j : Nat} (h : ltB q i j = true) : q.getD i 0 < q.getD j 0 := of_decide_eq_true h
theorem ltB_no {q : List Int} {i j : Nat} (h : ltB q i j = false) : q.getD j 0 ≤ q.getD i 0 := by have := of_decide_eq_false h; omega
set_option maxHeartbeats 2000000 in
theorem wLess_any (w : World) (g n cap : Nat) (q : List Int) (h : RowAt w g q) (hn : n = q.length) (i j : Nat) (hi : i < n) (hj : j < n) (_h12 : n ≤ 13) :
    Calls Try.prog 108 #[.slice (some ⟨g, 0, none⟩) n cap, .int .i64 i, .int .i64 j] w fun e w' => e = .returned (.bool (ltB q i j)) ∧ Keep w w' := by
  have ci := h.cell (j := i) (by omega)
  have cj := h.cell (j := j) (by omega)
  have HD : Hid (decide (q.getD i 0 < q.getD j 0) = ltB q i j) := rfl
  generalize q.getD i 0 = x at *
  generalize q.getD j 0 = y at *
  have i1 : (0 : Int) ≤ (i : Int) := Int.natCast_nonneg _
  have i2 : (i : Int) < (n : Int) := by omega
  have i3 : (0 : Int) ≤ (j : Int) := Int.natCast_nonneg _
  have i4 : (j : Int) < (n : Int) := by omega
  go_enter Try.func108, Try.ntmps108
  go_wp2
  go_quiet (fail)
  go_wp2
  go_ret
  exact ⟨ret_bool HD.out, (Keep.refl _).drewN _⟩
set_option maxHeartbeats 4000000 in
theorem wSwap_any (w : World) (base g n cap : Nat) (q : List Int) (h : Own w base (.slice (some ⟨g, 0, none⟩) n cap) q) (i j : Nat) (hi : i < n) (hj : j < n) (_h12 : n ≤ 13) :
    Calls Try.prog 109 #[.slice (some ⟨g, 0, none⟩) n cap, .int .i64 i, .int .i64 j] w fun e w' => e = .returned (.tuple #[]) ∧ Own w' base (.slice (some ⟨g, 0, none⟩) n cap) (swapL q i j) ∧ w.grownBy w' (some g) := by
  have hn := h.len
  have hr := h.rowAt
  have ci := hr.cell (j := i) (by omega)
  have cj := hr.cell (j := j) (by omega)
  have fi := hr.free i
  have fj := hr.free j
  have hs := (h.setAt i (q.getD j 0)).setAt j (q.getD i 0)
  have G := grown_trans (grown_set w g i (.int .i64 (q.getD j 0))) (grown_set (w.setCell ⟨g, i, none⟩ (.int .i64 (q.getD j 0))) g j (.int .i64 (q.getD i 0)))
  have HS : Hid ((q.set i (q.getD j 0)).set j (q.getD i 0) = swapL q i j) := rfl
  rw [HS.out] at hs
  clear hr h HS hn
  generalize q.getD i 0 = x at *
  generalize q.getD j 0 = y at *
  obtain ⟨v', hy'⟩ := cell?_setCell_some (w := w) (p := ⟨g, i, none⟩) (x := .int .i64 y) (q := ⟨g, j, none⟩) cj
  have i1 : (0 : Int) ≤ (i : Int) := Int.natCast_nonneg _
  have i2 : (i : Int) < (n : Int) := by omega
  have i3 : (0 : Int) ≤ (j : Int) := Int.natCast_nonneg _
  have i4 : (j : Int) < (n : Int) := by omega
  go_enter Try.func109, Try.ntmps109
  go_wp2
  go_region
  all_goals (try go_wp2)
  all_goals go_end0
  all_goals exact ⟨rfl, hs.kept (row := none) (grown_drew _ none) (by simp [Value.ownBlock]), grown_trans G (grown_drew _ _)⟩
end Go.Proofs.Ytgclnfhkjnomaaa
