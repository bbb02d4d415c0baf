/- Several texts in one. -/
import Derived.Test.YtgolhjmbloiakabMA
import Derived.Outline
import Derived.OwnWalk
import Derived.Lib.Hide
import Derived.Test.YtgolhjmbloiakabMB
import Derived.RangeFuncBox
import Derived.Scope
import Derived.WalkMore
/- Works in memory of one's own: lists of deeds in blocks, what turns them, what leaves them. -/
namespace Go.Proofs.Ytgolhjmbloiakab
open Go.ChangeShapes Go.WideShapes Go.ChangeAt Go.RowKit

theorem Try.infoD : (Try.prog.info? 56).map (fun i => (i.zero, i.size, i.bytes)) = some (some (.agg #[.int .i64 0, .int .i64 0, .int .i64 0, .int .i64 0]), 4, 32) := by kernel_rfl
/-- Block g is a plain row of at least n cells. -/
def Blk (w : World) (g n : Nat) : Prop := ∃ cur t, w.heap[g]? = some (.cells cur t (0, 0)) ∧ n ≤ cur.size
theorem Blk.free {w : World} {g n : Nat} (h : Blk w g n) (i : Nat) : w.frozen? ⟨g, i, none⟩ = false := by
  obtain ⟨cur, t, h, _⟩ := h
  exact frozen_of_row w g i cur t h
theorem Blk.cell {w : World} {g n : Nat} (h : Blk w g n) {i : Nat} (hi : i < n) : ∃ u, w.cell? ⟨g, i, none⟩ = some u := by
  obtain ⟨cur, t, h, hn⟩ := h
  exact ⟨cur[i]'(by omega), by rw [cell_of_row w g i cur t (0, 0) h, Array.getElem?_eq_getElem (by omega)]⟩
theorem Blk.lt {w : World} {g n : Nat} (h : Blk w g n) : g < w.heap.size := by
  obtain ⟨cur, t, h, _⟩ := h
  exact (Array.getElem?_eq_some_iff.1 h).1
theorem Blk.set {w : World} {g n : Nat} (h : Blk w g n) (i : Nat) (x : Value) : Blk (w.setCell ⟨g, i, none⟩ x) g n := by
  obtain ⟨cur, t, h, hn⟩ := h
  exact ⟨cur.setIfInBounds i x, t, heap_setCell_same w g i cur t x h, by simpa using hn⟩
theorem Blk.kept {w w' : World} {g n : Nat} {row : Option Nat} (h : Blk w g n) (hg : w.grownBy w' row) (hne : row ≠ some g) : Blk w' g n := by
  have hl := h.lt
  obtain ⟨cur, t, h, hn⟩ := h
  exact ⟨cur, t, (hg.block g hl (fun e => hne e.symm)).trans h, hn⟩
/-- A list of deeds in a block of one's own. -/
def OwnD (w : World) (base : Nat) (v : Value) (ds : List Dd) : Prop :=
  ∃ (a : Option Addr) (cap : Nat), v = .slice a ds.length (ds.length + cap) ∧ (ds = [] ∨ ∃ g, a = some ⟨g, 0, none⟩ ∧ base ≤ g ∧ Blk w g (ds.length * 4) ∧ ∀ i, i < ds.length → AtD w g (i * 4) (ds.getD i zD))
theorem OwnD.rd {w : World} {base : Nat} {v : Value} {ds : List Dd} (h : OwnD w base v ds) : RdD w v ds := by
  obtain ⟨a, cap, hv, h⟩ := h
  refine ⟨a, cap, hv, ?_⟩
  rcases h with h | ⟨g, ha, _, hb, hc⟩
  · exact .inl h
  · exact .inr ⟨g, 0, ha, hb.lt, fun i hi => by rw [Nat.zero_add]; exact hc i hi⟩
theorem putD {w : World} {g o : Nat} {d : Dd} {b' o' : Nat} {d' : Dd} (h : AtD w b' o' d') (hne : b' ≠ g ∨ o' + 4 ≤ o ∨ o + 4 ≤ o') :
    AtD ((((w.setCell ⟨g, o, none⟩ (.int .i64 d.1)).setCell ⟨g, o + 1, none⟩ (.int .i64 d.2.1)).setCell ⟨g, o + 2, none⟩ (.int .i64 d.2.2.1)).setCell ⟨g, o + 3, none⟩ (.int .i64 d.2.2.2)) b' o' d' := by
  have key : ∀ (w : World) (j : Nat) (x : Value) (q : Nat), q < o' + 4 → o' ≤ q → o ≤ j → j < o + 4 → (w.setCell ⟨g, j, none⟩ x).cell? ⟨b', q, none⟩ = w.cell? ⟨b', q, none⟩ := by
    intro w j x q h1 h2 h3 h4
    refine World.cell?_setCell_other _ _ _ _ (fun e => ?_)
    have e1 : g = b' ∧ j = q := by simpa using e
    omega
  unfold AtD at *
  refine ⟨?_, ?_, ?_, ?_⟩
  all_goals
    rw [key _ _ _ _ (by omega) (by omega) (by omega) (by omega), key _ _ _ _ (by omega) (by omega) (by omega) (by omega), key _ _ _ _ (by omega) (by omega) (by omega) (by omega), key _ _ _ _ (by omega) (by omega) (by omega) (by omega)]
  · exact h.1
  · exact h.2.1
  · exact h.2.2.1
  · exact h.2.2.2
theorem putD_same {w : World} {g o n : Nat} {d : Dd} (hb : Blk w g n) (ho : o + 4 ≤ n) :
    AtD ((((w.setCell ⟨g, o, none⟩ (.int .i64 d.1)).setCell ⟨g, o + 1, none⟩ (.int .i64 d.2.1)).setCell ⟨g, o + 2, none⟩ (.int .i64 d.2.2.1)).setCell ⟨g, o + 3, none⟩ (.int .i64 d.2.2.2)) g o d := by
  have oth : ∀ (w : World) (j q : Nat) (x : Value), j ≠ q → (w.setCell ⟨g, j, none⟩ x).cell? ⟨g, q, none⟩ = w.cell? ⟨g, q, none⟩ := by
    intro w j q x h
    exact World.cell?_setCell_other _ _ _ _ (by intro e; apply h; injection e)
  have h1 := hb.set o (.int .i64 d.1)
  have h2 := h1.set (o + 1) (.int .i64 d.2.1)
  have h3 := h2.set (o + 2) (.int .i64 d.2.2.1)
  obtain ⟨u0, e0⟩ := hb.cell (show o < n by omega)
  obtain ⟨u1, e1⟩ := h1.cell (show o + 1 < n by omega)
  obtain ⟨u2, e2⟩ := h2.cell (show o + 2 < n by omega)
  obtain ⟨u3, e3⟩ := h3.cell (show o + 3 < n by omega)
  refine ⟨?_, ?_, ?_, ?_⟩
  · rw [oth _ _ _ _ (by omega), oth _ _ _ _ (by omega), oth _ _ _ _ (by omega), World.cell?_setCell_same _ _ _ e0]
  · rw [oth _ _ _ _ (by omega), oth _ _ _ _ (by omega), World.cell?_setCell_same _ _ _ e1]
  · rw [oth _ _ _ _ (by omega), World.cell?_setCell_same _ _ _ e2]
  · rw [World.cell?_setCell_same _ _ _ e3]
theorem Blk.ofOwn {w : World} {base e size g n : Nat} {xs : List Value} (h : w.ownsRow base e size (.slice (some ⟨g, 0, none⟩) n n) n xs) : Blk w g (n * size) := by
  rcases h.2 with ⟨hv, _⟩ | ⟨g', cap, cur, hv, _, hg, _, _, hs, _⟩
  · cases hv
  · simp only [Value.slice.injEq, Option.some.injEq, Addr.mk.injEq, and_true, true_and] at hv
    obtain ⟨rfl, rfl⟩ := hv
    exact ⟨cur, e, hg, by rw [hs]; exact Nat.le_refl _⟩
theorem OwnD.keep {w w' : World} {base : Nat} {v : Value} {ds : List Dd} (h : OwnD w base v ds) (k : Keep w w') : OwnD w' base v ds := by
  obtain ⟨a, cap, hv, h⟩ := h
  refine ⟨a, cap, hv, ?_⟩
  rcases h with h | ⟨g, ha, hb, hB, hc⟩
  · exact .inl h
  · exact .inr ⟨g, ha, hb, hB.kept k.grownBy (by simp), fun i hi => (hc i hi).keep hB.lt k⟩
theorem OwnD.kept {w w' : World} {base : Nat} {v : Value} {ds : List Dd} {row : Option Nat} (h : OwnD w base v ds) (hg : w.grownBy w' row) (hne : ds = [] ∨ v.ownBlock ≠ row) : OwnD w' base v ds := by
  obtain ⟨a, cap, rfl, h⟩ := h
  refine ⟨a, cap, rfl, ?_⟩
  rcases h with h | ⟨g, rfl, hb, hB, hc⟩
  · exact .inl h
  · rcases hne with hne | hne
    · exact .inl hne
    · have hne' : row ≠ some g := fun e => hne (by simp [Value.ownBlock, e])
      have hcell : ∀ j, w'.cell? ⟨g, j, none⟩ = w.cell? ⟨g, j, none⟩ := fun j => World.cell?_of_block (w := w) (hg.block g hB.lt (fun e => hne' e.symm))
      exact .inr ⟨g, rfl, hb, hB.kept hg hne', fun i hi => ⟨(hcell _).trans (hc i hi).1, (hcell _).trans (hc i hi).2.1, (hcell _).trans (hc i hi).2.2.1, (hcell _).trans (hc i hi).2.2.2⟩⟩
theorem OwnD.mono {w : World} {base base' : Nat} {v : Value} {ds : List Dd} (h : OwnD w base v ds) (hb : base' ≤ base) : OwnD w base' v ds := by
  obtain ⟨a, cap, hv, h⟩ := h
  refine ⟨a, cap, hv, ?_⟩
  rcases h with h | ⟨g, ha, hg, rest⟩
  · exact .inl h
  · exact .inr ⟨g, ha, Nat.le_trans hb hg, rest⟩
theorem OwnD.block {w : World} {base : Nat} {v : Value} {ds : List Dd} (h : OwnD w base v ds) (hne : ds ≠ []) : ∃ g, v.ownBlock = some g ∧ base ≤ g ∧ g < w.heap.size := by
  obtain ⟨a, cap, rfl, h⟩ := h
  rcases h with h | ⟨g, rfl, hb, hB, _⟩
  · exact absurd h hne
  · exact ⟨g, rfl, hb, hB.lt⟩
/-- The values of a row of slices lie each in a block of its own, and none in the row's. -/
def Apart (g n : Nat) (V : Nat → Value) (D : Nat → List Dd) : Prop :=
  (∀ i, i < n → D i ≠ [] → (V i).ownBlock ≠ some g) ∧ ∀ i j, i < j → j < n → D i ≠ [] → D j ≠ [] → (V i).ownBlock ≠ (V j).ownBlock
/-- A work in memory of one's own. -/
def OwnW (w : World) (base : Nat) (v : Value) (dss : List (List Dd)) : Prop :=
  ∃ (a : Option Addr) (cap : Nat), v = .slice a dss.length cap ∧ (dss = [] ∨ ∃ (g : Nat) (V : Nat → Value), a = some ⟨g, 0, none⟩ ∧ base ≤ g ∧ Blk w g dss.length ∧
    (∀ i, i < dss.length → w.cell? ⟨g, i, none⟩ = some (V i) ∧ OwnD w base (V i) (dss.getD i [])) ∧ Apart g dss.length V (fun i => dss.getD i []))
theorem OwnW.rd {w : World} {base : Nat} {v : Value} {dss : List (List Dd)} (h : OwnW w base v dss) : RdW w v dss := by
  obtain ⟨a, cap, hv, h⟩ := h
  refine ⟨a, cap, hv, ?_⟩
  rcases h with h | ⟨g, V, ha, _, hb, hc, _⟩
  · exact .inl h
  · exact .inr ⟨g, 0, ha, hb.lt, fun i hi => ⟨V i, by rw [Nat.zero_add]; exact (hc i hi).1, (hc i hi).2.rd⟩⟩
theorem Try.infoDS : (Try.prog.info? 40).map (fun i => (i.zero, i.size, i.bytes)) = some (some (.slice none 0 0), 1, 24) := by kernel_rfl
theorem set_far {w : World} {g i b j : Nat} {x : Value} (h : b ≠ g) : (w.setCell ⟨g, i, none⟩ x).cell? ⟨b, j, none⟩ = w.cell? ⟨b, j, none⟩ :=
  World.cell?_setCell_other _ _ _ _ (fun e => h (by injection e with e1; exact e1.symm))
theorem grown_put (w : World) (g j : Nat) (v : Value) : w.grownBy (w.setCell ⟨g, j, none⟩ v) (some g) :=
  ⟨rfl, rfl, rfl, by simp, fun k _ hk => heap_setCell_other w ⟨g, j, none⟩ k v (fun e => hk (by simp [e]))⟩
def mkD (k : Int) (i : Nat) : Dd := (k + 4 * i, k + 4 * i + 1, k + 4 * i + 1 + 1, k + 4 * i + 1 + 1 + 1)
def mksD (k : Int) (n : Nat) : List Dd := (List.range n).map (mkD k)
theorem mksD_len (k : Int) (n : Nat) : (mksD k n).length = n := by simp [mksD]
theorem mksD_get (k : Int) (n i : Nat) (h : i < n) : (mksD k n).getD i zD = mkD k i := range_getD _ _ _ _ h
/-- The block that a list of deeds has (an empty one: none). -/
def ownO (v : Value) (ds : List Dd) : Option Nat := if ds = [] then none else v.ownBlock
theorem cell_same {w w' : World} {b : Nat} (h : w'.heap[b]? = w.heap[b]?) (o : Nat) : w'.cell? ⟨b, o, none⟩ = w.cell? ⟨b, o, none⟩ := by
  simp only [World.cell?, h]
theorem AtD.same {w w' : World} {b o : Nat} {d : Dd} (h : AtD w b o d) (hh : w'.heap[b]? = w.heap[b]?) : AtD w' b o d :=
  ⟨(cell_same hh _).trans h.1, (cell_same hh _).trans h.2.1, (cell_same hh _).trans h.2.2.1, (cell_same hh _).trans h.2.2.2⟩
theorem Blk.same {w w' : World} {g n : Nat} (h : Blk w g n) (hh : w'.heap[g]? = w.heap[g]?) : Blk w' g n := by
  obtain ⟨cur, t, h, hn⟩ := h
  exact ⟨cur, t, hh.trans h, hn⟩
theorem OwnD.same {w w' : World} {base : Nat} {v : Value} {ds : List Dd} (h : OwnD w base v ds) (hh : ∀ g, ownO v ds = some g → g < w.heap.size → base ≤ g → w'.heap[g]? = w.heap[g]?) : OwnD w' base v ds := by
  obtain ⟨a, cap, rfl, h⟩ := h
  refine ⟨a, cap, rfl, ?_⟩
  rcases h with h | ⟨g, rfl, hb, hB, hA⟩
  · exact .inl h
  · by_cases h0 : ds = []
    · exact .inl h0
    · have e := hh g (by rw [ownO, if_neg h0]; rfl) hB.lt hb
      exact .inr ⟨g, rfl, hb, hB.same e, fun i hi => (hA i hi).same e⟩
theorem OwnD.keptO {w w' : World} {base : Nat} {v : Value} {ds : List Dd} {row : Option Nat} (h : OwnD w base v ds) (hg : w.grownBy w' row) (hne : ownO v ds = none ∨ ownO v ds ≠ row) : OwnD w' base v ds :=
  h.same (fun g hgg hlt _ => hg.block g hlt (by
    rcases hne with e | e
    · rw [e] at hgg; cases hgg
    · rw [hgg] at e; exact e))
/-- All that has turned lies from block lo to before block hi. -/
structure Only (lo hi : Nat) (w w' : World) : Prop where
  os : w'.os = w.os
  tape : w'.tape = w.tape
  output : w'.output = w.output
  size : w.heap.size ≤ w'.heap.size
  block : ∀ b, b < w.heap.size → (b < lo ∨ hi ≤ b) → w'.heap[b]? = w.heap[b]?
theorem Only.refl (lo hi : Nat) (w : World) : Only lo hi w w := ⟨rfl, rfl, rfl, Nat.le_refl _, fun _ _ _ => rfl⟩
theorem Only.grown {lo hi : Nat} {a w w' : World} {row : Option Nat} (h : Only lo hi a w) (hg : w.grownBy w' row) (hr : ∀ k, row = some k → lo ≤ k ∧ k < hi) : Only lo hi a w' :=
  ⟨hg.os.trans h.os, hg.tape.trans h.tape, hg.output.trans h.output, Nat.le_trans h.size hg.size, fun b hb ho => (hg.block b (Nat.lt_of_lt_of_le hb h.size) (fun e => by have := hr b e.symm; omega)).trans (h.block b hb ho)⟩
theorem Keep.only {a w w' : World} {lo hi : Nat} (h : Keep a w) (k : Only lo hi w w') (hl : a.heap.size ≤ lo) : Keep a w' :=
  ⟨k.os.trans (Below.os h), k.tape.trans (Below.tape h), k.output.trans (Below.output h), Nat.le_trans (Below.size h) k.size, fun b hb => (k.block b (Nat.lt_of_lt_of_le hb h.size) (.inl (Nat.lt_of_lt_of_le hb hl))).trans (Below.block h b hb)⟩
theorem OwnW.only {w w' : World} {base lo hi : Nat} {v : Value} {dss : List (List Dd)} (h : OwnW w base v dss) (k : Only lo hi w w') (hb : hi ≤ base) : OwnW w' base v dss := by
  obtain ⟨a, cap, rfl, h⟩ := h
  refine ⟨a, cap, rfl, ?_⟩
  rcases h with h | ⟨g, V, rfl, hg, hB, hc, hA⟩
  · exact .inl h
  · have e := k.block g hB.lt (.inr (Nat.le_trans hb hg))
    exact .inr ⟨g, V, rfl, hg, hB.same e, fun i hi => ⟨(cell_same e _).trans (hc i hi).1, (hc i hi).2.same (fun b _ hlt hbb => k.block b hlt (.inr (Nat.le_trans hb hbb)))⟩, hA⟩
theorem OwnW.base_le {w : World} {base base' : Nat} {v : Value} {dss : List (List Dd)} (h : OwnW w base v dss) (hb : base' ≤ base) : OwnW w base' v dss := by
  obtain ⟨a, cap, hv, h⟩ := h
  refine ⟨a, cap, hv, ?_⟩
  rcases h with h | ⟨g, V, ha, hg, hB, hc, hA⟩
  · exact .inl h
  · exact .inr ⟨g, V, ha, Nat.le_trans hb hg, hB, fun i hi => ⟨(hc i hi).1, (hc i hi).2.mono hb⟩, hA⟩
def mksW (k : Int) : List (List Dd) → List (List Dd)
  | [] => []
  | d :: r => mksD k d.length :: mksW (k + 4 * d.length) r
theorem mksW_len (k : Int) (dss : List (List Dd)) : (mksW k dss).length = dss.length := by
  induction dss generalizing k with
  | nil => rfl
  | cons d r ih => simp [mksW, ih]
theorem mksW_get (k : Int) : ∀ (dss : List (List Dd)) (i : Nat), i < dss.length → (mksW k dss).getD i [] = mksD (k + 4 * (lenW (dss.take i) : Nat)) (dss.getD i []).length
  | [], i, h => by simp at h
  | d :: r, 0, h => by simp [mksW, lenW]
  | d :: r, i + 1, h => by
    have ih := mksW_get (k + 4 * d.length) r i (by simpa using h)
    simp only [mksW, List.getD_cons_succ, List.take_succ_cons, lenW] at ih ⊢
    rw [ih]
    congr 1
    omega
theorem lenW_snocM (d : List Dd) : ∀ l : List (List Dd), lenW (l ++ [d]) = lenW l + d.length
  | [] => by simp [lenW]
  | x :: r => by rw [List.cons_append, lenW, lenW, lenW_snocM d r]; omega
theorem take_moreM {α : Type} (l : List α) (k : Nat) (z : α) (h : k < l.length) : l.take (k + 1) = l.take k ++ [l.getD k z] := by
  rw [List.take_add_one, List.getElem?_eq_getElem h, List.getD_eq_getElem?_getD, List.getElem?_eq_getElem h]
  rfl
theorem lenW_take_le (dss : List (List Dd)) : ∀ i, i ≤ dss.length → lenW (dss.take i) ≤ lenW dss := by
  induction dss with
  | nil => intro i _; simp
  | cons d r ih =>
    intro i hi
    cases i with
    | zero => simp [lenW]
    | succ i => simp only [List.take_succ_cons, lenW]; have := ih i (by simpa using hi); omega
theorem lenW_one (dss : List (List Dd)) (i : Nat) (h : i < dss.length) : lenW (dss.take i) + (dss.getD i []).length ≤ lenW dss := by
  have := lenW_take_le dss (i + 1) h
  rw [take_moreM dss i [] h, lenW_snocM] at this
  exact this
theorem mksD_nil {k : Int} {n : Nat} : mksD k n = [] ↔ n = 0 := by
  constructor
  · intro h; have := mksD_len k n; rw [h] at this; simpa using this.symm
  · rintro rfl; rfl
end Go.Proofs.Ytgolhjmbloiakab

/- How long a work's events are; a list of events that others' turns leave. -/
namespace Go.Proofs.Ytgolhjmbloiakab
open Go.ChangeShapes Go.WideShapes Go.ChangeAt Go.RowKit

theorem eventsB_len9 (dss : List (List Dd)) : (eventsB dss).length ≤ 9 := by
  unfold eventsB
  split
  · rename_i h
    simp only [workB, Bool.and_eq_true, decide_eq_true_eq] at h
    obtain ⟨⟨⟨⟨_, h2⟩, _⟩, h4⟩, _⟩ := h
    have := evsW_len (fun i hi => all_get [] h2 i hi) dss.length (Nat.le_refl _)
    omega
  · simp
theorem eventsB_len (dss : List (List Dd)) : (eventsB dss).length ≤ 1048576 := by
  have := eventsB_len9 dss
  omega
theorem appE_only {w w' : World} {base lo hi : Nat} {v : Value} {es : List Ev} (h : AppE w base v es) (k : Only lo hi w w') (hb : hi ≤ base) : AppE w' base v es := by
  have hlt := h.lt
  refine ⟨h.1, ?_⟩
  rcases h.2 with h | ⟨g, cap, cur, hv, hg, hh, rest⟩
  · exact .inl h
  · subst hv
    exact .inr ⟨g, cap, cur, rfl, hg, (k.block g (hlt g rfl).2 (.inr (Nat.le_trans hb hg))).trans hh, rest⟩
end Go.Proofs.Ytgolhjmbloiakab

/- Contract of the program's SourcesCount. -/
namespace Go.Proofs.Ytgolhjmbloiakab
open Go.ChangeShapes Go.WideShapes Go.ChangeAt Go.RowKit Go.Shelf

theorem chc_twelve {es : List Ev} (h : es.length ≤ 12) : ∀ i, ((chcL es).getD i []).length ≤ 12 := by
  intro i
  by_cases hi : i < (chcL es).length
  · exact (chc_len h).2 i hi
  · rw [List.getD_eq_getElem?_getD, List.getElem?_eq_none (by omega)]
    simp
set_option maxRecDepth 100000 in
set_option maxHeartbeats 2000000 in
theorem implSourcesCount_any (w : World) (v : Value) (dss : List (List Dd)) (h : RdW w v dss) (hx : dss.length ≤ 1048576) (hm : ∀ i, i < dss.length → (dss.getD i []).length ≤ 1048576) :
    Calls Try.prog 38 #[v] w fun e w' => e = .returned (.int .i64 (cntB dss)) ∧ Keep w w' := by
  have h12 : (eventsB dss).length ≤ 12 := by have := eventsB_len9 dss; omega
  obtain ⟨cl1, cl2⟩ := chc_len h12
  have cl3 := chc_twelve h12
  cases hb : workB dss
  · have HE : Hid (cntB dss = -1) := Lib.hid (by rw [cntB, hb]; rfl)
    have C := implWorkOk_any w v dss h hx hm
    rw [hb] at C
    go_enter Try.func38, Try.ntmps38
    go_wp2_with fail
    refine C.mono ?_
    rintro e w1 ⟨rfl, k1⟩
    go_wp2
    go_ret
    exact ⟨by rw [HE.out]; rfl, k1⟩
  have HE : Hid (cntB dss = (srcN (chcL (eventsB dss)) (chcL (eventsB dss)).length : Nat)) := Lib.hid (by rw [srcN_int, cntB, if_pos hb])
  have ct := (cnt_top cl1 cl2 _ (Nat.le_refl _)).2
  rw [← srcN_int] at ct
  have C := implWorkOk_any w v dss h hx hm
  rw [hb] at C
  have hdw : Fence.wide.depth = none := rfl
  have hsem := @Oper.semAt_some
  refine (callsIn_wide (n := 0)).1 (callsIn_of_wp_marks Try.func38 rfl trivial ?_ rfl)
  simp only [Try.ntmps38, List.size_toArray, List.length_cons, List.length_nil, Nat.reduceAdd, Nat.reduceSub, Array.replicate_succ, Array.replicate_zero, List.push_toArray, List.append_toArray, List.nil_append, List.cons_append]
  gi_wp2_with fail
  refine ⟨trivial, (callsIn_wide.2 C).mono ?_⟩
  rintro e w1 ⟨rfl, k1⟩
  have b1 := Boxed.new w1 2 (.int .i64 0)
  have k1' : Keep w (w1.alloc (.cells #[.int .i64 0] 2)) := k1.alloc _
  gi_wp2_with fail
  refine ⟨trivial, (callsIn_wide.2 (implEventsOf_any _ _ _ (h.keep k1') hx hm)).mono ?_⟩
  rintro e w2 ⟨v2, rfl, a2, k2⟩
  gi_wp2_with fail
  refine ⟨trivial, (callsIn_wide.2 (choicesOf_any _ _ _ a2.rd h12)).mono ?_⟩
  rintro e w3 ⟨v3, rfl, rp, k3⟩
  have b3 := boxed_keep (boxed_keep b1 k2) k3
  have K3 := (k1'.trans k2).trans k3
  have s2 := k2.size
  rw [heap_size] at s2
  have s3 := k3.size
  have hw1 := k1.size
  generalize chcL (eventsB dss) = css at *
  obtain ⟨ac, cc, hv3, -, -⟩ := rp.2
  subst hv3
  clear k1 k1' k2 k3 b1 a2 C h hx hm h12
  gi_wp2_with fail
  refine ⟨trivial, (callsIn_wide.2 (sources_any _ _ _ _)).mono ?_⟩
  rintro e w4 ⟨rfl, rfl⟩
  have bc := (Boxed.new w3 52 (.slice ac css.length cc)).cell
  have b4 := b3.alloc (.cells #[.slice ac css.length cc] 52)
  have K4 := K3.alloc (.cells #[.slice ac css.length cc] 52)
  have rp4 := rp.but (Nat.le_refl _) ((But.refl (fun _ => False) w3).alloc (.cells #[.slice ac css.length cc] 52)) (fun _ _ _ h => h)
  have hz4 := heap_size w3 (.cells #[.slice ac css.length cc] 52)
  generalize w3.alloc (.cells #[.slice ac css.length cc] 52) = w4 at *
  have hseq := sources_seq css w2.heap.size w3.heap.size cl3 css.length cl1 w4 w3.heap.size _ rp4 bc (by omega) (by omega)
  gi_wp2
  refine wp_rangeM (gf := 66) (lb := #[.pointer (some ⟨w3.heap.size, 0, none⟩)]) rfl (enters_of Try.func66 (by kernel_rfl) rfl) rfl hseq (But.refl _ _) ?pr (fun b => b = w1.heap.size) ?hC
    (fun k A => Boxed A w1.heap.size 2 (.int .i64 k) ∧ Keep w A) (fun _ _ _ => False) ?hI ?hIx (lieS_but css css.length) ⟨b4, K4⟩
    (fun v' => { tmps := #[v, undef, .int .i64 0, .pointer (some ⟨w1.heap.size, 0, none⟩), v, .bool true, .bool false, v, v2, .slice ac css.length cc, .func (.func 66) #[] #[.pointer (some ⟨w3.heap.size, 0, none⟩)], v', undef, undef, undef], defers := [] }) ?assign ?body ?done ?stop
  case pr => rintro b' (⟨_, h⟩ | rfl) <;> omega
  case hC =>
    rintro b' rfl
    refine ⟨by omega, ?_⟩
    rintro (⟨h1, h2⟩ | h) <;> omega
  case hI =>
    rintro k A B ⟨h1, h2⟩ hB
    exact ⟨boxed_but h1 hB (fun h => by have := h.1; omega), keep_but h2 hB (fun b hb => by have := hb.1; omega)⟩
  case hIx => intro c k A B h _; exact h
  case assign =>
    intro m v' W K hK
    gi_wp2
    simpa using hK
  case body =>
    rintro m k v' W hk ⟨h1, h2⟩ _
    have c1 := h1.cell
    have c2 := h1.frozen
    have i1 : (0 : Int) ≤ (k : Int) := Int.natCast_nonneg _
    have i2 : (k : Int) < 8916100448256 := by omega
    gi_wp2
    exact ⟨(But.refl (fun b => b = w1.heap.size) W).setCell rfl _ _, by have := h1.set (.int .i64 ((k : Int) + 1)); simpa using this, keep_but h2 ((But.refl (fun b => b = w1.heap.size) W).setCell rfl _ _) (fun b hb => by omega)⟩
  case done =>
    rintro W ⟨h1, h2⟩ hD
    have c1 := h1.cell
    gi_wp2
    refine ⟨by simp, .inl ⟨_, _, rfl, run_takeDeferred hD, ?_⟩⟩
    exact ⟨_, results_tmp rfl _ _ _, by rw [HE.out]; rfl, keep_but h2 ((But.refl (fun b => b = w4.heap.size) W).put rfl _) (fun b hb => by omega)⟩
  case stop => rintro c k W _ h _; exact h.elim
end Go.Proofs.Ytgolhjmbloiakab

/- Plain mathematics of rows: factorials; the n-th order of a list; the orders of the writes at each place. -/
namespace Go.Proofs.Ytgolhjmbloiakab

def fac : Nat → Int
  | 0 => 1
  | n + 1 => fac n * ((n : Int) + 1)
theorem fac_pos : ∀ n : Nat, 0 < fac n
  | 0 => by decide
  | n + 1 => Int.mul_pos (fac_pos n) (by omega)
theorem fac_top {n : Nat} (h : n ≤ 12) : fac n ≤ 479001600 := by
  have : ∀ j : Nat, j ≤ 12 → fac j ≤ 479001600 := by decide +kernel
  exact this n h
/-- The n-th order of a list: its next one, then the n-th order of what is left. -/
def ordL : Nat → List Int → Int → List Int
  | 0, _, _ => []
  | m + 1, l, n => l.getD (n / fac m).toNat 0 :: ordL m (l.eraseIdx (n / fac m).toNat) (n % fac m)
theorem ordL_len : ∀ (m : Nat) (l : List Int) (n : Int), (ordL m l n).length = m
  | 0, _, _ => rfl
  | m + 1, l, n => by rw [ordL, List.length_cons, ordL_len m]
/-- Which one is next. -/
theorem ord_next {m : Nat} {n : Int} (h0 : 0 ≤ n) (h1 : n < fac (m + 1)) : 0 ≤ n / fac m ∧ n / fac m < (m : Int) + 1 ∧ 0 ≤ n % fac m ∧ n % fac m < fac m := by
  have hp := fac_pos m
  refine ⟨Int.ediv_nonneg h0 (by omega), ?_, Int.emod_nonneg _ (by omega), Int.emod_lt_of_pos _ hp⟩
  refine Int.ediv_lt_of_lt_mul hp ?_
  rw [fac, Int.mul_comm] at h1
  exact h1
theorem erase_len {l : List Int} {k m : Nat} (hl : l.length = m + 1) (hk : k < m + 1) : (l.eraseIdx k).length = m := by
  rw [List.length_eraseIdx, if_pos (by omega)]; omega
theorem erase_perm : ∀ {l : List Int} {k : Nat}, k < l.length → (l.getD k 0 :: l.eraseIdx k).Perm l
  | [], k, h => by simp at h
  | x :: r, 0, _ => by simp
  | x :: r, k + 1, h => by
    have ih := erase_perm (l := r) (k := k) (by simpa using h)
    rw [List.eraseIdx_cons_succ, List.getD_cons_succ]
    exact (List.Perm.swap x _ _).trans (List.Perm.cons x ih)
theorem ord_perm : ∀ {m : Nat} {l : List Int} {n : Int}, l.length = m → 0 ≤ n → n < fac m → (ordL m l n).Perm l
  | 0, l, n, hl, _, _ => by
    have : l = [] := List.eq_nil_of_length_eq_zero hl
    subst this
    exact List.Perm.refl _
  | m + 1, l, n, hl, h0, h1 => by
    obtain ⟨k0, k1, n0, n1⟩ := ord_next h0 h1
    have hk : (n / fac m).toNat < m + 1 := by omega
    rw [ordL]
    exact (List.Perm.cons _ (ord_perm (erase_len hl hk) n0 n1)).trans (erase_perm (by omega))
theorem nodup_get {l : List Int} (hn : l.Nodup) {p q : Nat} (hp : p < l.length) (hq : q < l.length) (e : l.getD p 0 = l.getD q 0) : p = q := by
  rw [List.getD_eq_getElem?_getD, List.getElem?_eq_getElem hp, List.getD_eq_getElem?_getD, List.getElem?_eq_getElem hq] at e
  exact (List.getElem_inj hn).1 e
theorem erase_nodup {l : List Int} (hn : l.Nodup) (k : Nat) : (l.eraseIdx k).Nodup := hn.sublist (List.eraseIdx_sublist l k)
theorem ord_inj : ∀ {m : Nat} {l : List Int} {n n' : Int}, l.length = m → l.Nodup → 0 ≤ n → n < fac m → 0 ≤ n' → n' < fac m → ordL m l n = ordL m l n' → n = n'
  | 0, l, n, n', _, _, h0, h1, g0, g1, _ => by simp only [fac] at h1 g1; omega
  | m + 1, l, n, n', hl, hn, h0, h1, g0, g1, e => by
    obtain ⟨k0, k1, n0, n1⟩ := ord_next h0 h1
    obtain ⟨j0, j1, m0, m1⟩ := ord_next g0 g1
    rw [ordL, ordL, List.cons.injEq] at e
    have ek := nodup_get hn (p := (n / fac m).toNat) (q := (n' / fac m).toNat) (by omega) (by omega) e.1
    have e2 := e.2
    rw [← ek] at e2
    have ih := ord_inj (erase_len hl (by omega)) (erase_nodup hn _) n0 n1 m0 m1 e2
    have q : n / fac m = n' / fac m := by omega
    have a := Int.mul_ediv_add_emod n (fac m)
    have b := Int.mul_ediv_add_emod n' (fac m)
    rw [q, ih] at a
    omega
/-- The writes at one place, the first one foremost, the others in the n-th order. -/
def partL (l : List Int) (n : Int) : List Int := l.getD 0 0 :: ordL (l.length - 1) (l.drop 1) n
theorem part_len {l : List Int} (h : 0 < l.length) (n : Int) : (partL l n).length = l.length := by rw [partL, List.length_cons, ordL_len]; omega
theorem part_perm {l : List Int} {n : Int} (h : 0 < l.length) (h0 : 0 ≤ n) (h1 : n < fac (l.length - 1)) : (partL l n).Perm l := by
  match l, h with
  | x :: r, _ =>
    rw [partL]
    simp only [List.length_cons, Nat.add_sub_cancel, List.drop_succ_cons, List.drop_zero, List.getD_cons_zero] at h1 ⊢
    exact List.Perm.cons x (ord_perm rfl h0 h1)
theorem part_inj {l : List Int} {n n' : Int} (hn : l.Nodup) (h0 : 0 ≤ n) (h1 : n < fac (l.length - 1)) (g0 : 0 ≤ n') (g1 : n' < fac (l.length - 1)) (e : partL l n = partL l n') : n = n' := by
  rw [partL, partL, List.cons.injEq] at e
  refine ord_inj ?_ (hn.sublist (List.drop_sublist 1 l)) h0 h1 g0 g1 e.2
  rw [List.length_drop]
/-- The writes at a place. -/
def plcW (es : List Ev) (p : Nat) : List Int := idxB (toE (p : Int)) es
def rcntL (es : List Ev) : Int := fac ((plcW es 0).length - 1) * fac ((plcW es 1).length - 1) * fac ((plcW es 2).length - 1)
/-- The n-th rows. -/
def ratL (es : List Ev) (n : Int) : List Int :=
  partL (plcW es 0) (n / fac ((plcW es 2).length - 1) / fac ((plcW es 1).length - 1) % fac ((plcW es 0).length - 1)) ++ partL (plcW es 1) (n / fac ((plcW es 2).length - 1) % fac ((plcW es 1).length - 1)) ++ partL (plcW es 2) (n % fac ((plcW es 2).length - 1))
/-- Is the part of the list from 'at0' on an order of p, with i foremost? -/
def okP (rows : List Int) (at0 : Nat) (p : List Int) (i : Nat) : Bool := decide (at0 + p.length ≤ rows.length) && (rows.getD at0 0 == (i : Int)) && p.all (fun x => isB ((rows.drop at0).take p.length) x)
def rowsL (es : List Ev) (rows : List Int) : Bool :=
  okP rows 0 (plcW es 0) 0 && okP rows (plcW es 0).length (plcW es 1) 1 && okP rows ((plcW es 0).length + (plcW es 1).length) (plcW es 2) 2 && decide ((plcW es 0).length + (plcW es 1).length + (plcW es 2).length = rows.length)
/-- What the specification answers at every argument. -/
def rowsB (dss : List (List Dd)) (rows : List Int) : Bool := workB dss && rowsL (eventsB dss) rows
def rcntB (dss : List (List Dd)) : Int := if workB dss = true then rcntL (eventsB dss) else -1
def ratB (dss : List (List Dd)) (n : Int) : List Int := if 0 ≤ n ∧ n < rcntB dss then ratL (eventsB dss) n else []
end Go.Proofs.Ytgolhjmbloiakab

/- Rows: what is right is an order of all writes, none twice; each number below their count tells rows that are right, another one than every other number. -/
namespace Go.Proofs.Ytgolhjmbloiakab
open Go.RowKit

/-- As many, and all of them: the same in some order. -/
theorem perm_of : ∀ {p b : List Int}, p.Nodup → (∀ x ∈ p, x ∈ b) → b.length ≤ p.length → p.Perm b
  | [], b, _, _, hl => by
    have : b = [] := List.eq_nil_of_length_eq_zero (by simpa using hl)
    subst this
    exact List.Perm.refl _
  | x :: t, b, hn, hs, hl => by
    have hx := hs x (by simp)
    rw [List.nodup_cons] at hn
    have hb : (b.erase x).length = b.length - 1 := List.length_erase_of_mem hx
    have ih := perm_of (p := t) (b := b.erase x) hn.2 (fun y hy => by
      have h1 := hs y (by simp [hy])
      exact (List.mem_erase_of_ne (fun e => hn.1 (by rw [← e]; exact hy))).2 h1) (by rw [hb]; simp only [List.length_cons] at hl; omega)
    exact (List.Perm.cons x ih).trans (List.perm_cons_erase hx).symm
theorem mem_isB {l : List Int} {n : Int} (h : n ∈ l) : isB l n = true := by
  unfold isB
  rw [List.any_eq_true]
  exact ⟨n, h, by simp⟩
theorem okP_perm {rows p : List Int} {at0 i : Nat} (hn : p.Nodup) (h : okP rows at0 p i = true) : at0 + p.length ≤ rows.length ∧ p.Perm ((rows.drop at0).take p.length) := by
  unfold okP at h
  simp only [Bool.and_eq_true, decide_eq_true_eq, List.all_eq_true] at h
  refine ⟨h.1.1, perm_of hn (fun x hx => isB_mem (h.2 x hx)) ?_⟩
  rw [List.length_take]
  omega
theorem plcW_nodup {es : List Ev} (hx : es.length ≤ 12) (p : Nat) : (plcW es p).Nodup := by
  unfold plcW idxB
  rw [if_pos hx]
  exact (idxK_rises _ _ _).imp (fun h e => by omega)
theorem plcW_mem {es : List Ev} (hx : es.length ≤ 12) {p : Nat} {x : Int} (h : x ∈ plcW es p) : (0 ≤ x ∧ x < (es.length : Int)) ∧ (es.getD x.toNat zE).2.2.2.1 = (p : Int) := by
  unfold plcW idxB at h
  rw [if_pos hx] at h
  have h1 := idxK_lt _ _ _ _ h
  have h2 := idxK_mem _ _ _ _ h
  unfold toE at h2
  simp only [Bool.and_eq_true, beq_iff_eq] at h2
  exact ⟨h1, h2.2⟩
theorem plcW_len {es : List Ev} (hx : es.length ≤ 12) (p : Nat) : (plcW es p).length ≤ 12 := by
  unfold plcW idxB
  rw [if_pos hx]
  have := idxK_len (toE (p : Int)) es es.length
  omega
def allW (es : List Ev) : List Int := plcW es 0 ++ plcW es 1 ++ plcW es 2
theorem allW_nodup {es : List Ev} (hx : es.length ≤ 12) : (allW es).Nodup := by
  have dis : ∀ {p q : Nat}, p ≠ q → ∀ a ∈ plcW es p, ∀ b ∈ plcW es q, a ≠ b := fun {p q} hpq a ha b hb e => by
    have h1 := (plcW_mem hx ha).2
    have h2 := (plcW_mem hx hb).2
    rw [e, h2] at h1
    omega
  unfold allW
  rw [List.nodup_append, List.nodup_append]
  refine ⟨⟨plcW_nodup hx 0, plcW_nodup hx 1, dis (by decide)⟩, plcW_nodup hx 2, fun a ha b hb => ?_⟩
  rcases List.mem_append.1 ha with h | h
  · exact dis (p := 0) (q := 2) (by decide) a h b hb
  · exact dis (p := 1) (q := 2) (by decide) a h b hb
theorem rows_perm {es : List Ev} {rows : List Int} (hx : es.length ≤ 12) (h : rowsL es rows = true) : (allW es).Perm rows := by
  unfold rowsL at h
  simp only [Bool.and_eq_true, decide_eq_true_eq] at h
  obtain ⟨⟨⟨h0, h1⟩, h2⟩, hl⟩ := h
  obtain ⟨l0, p0⟩ := okP_perm (plcW_nodup hx 0) h0
  obtain ⟨l1, p1⟩ := okP_perm (plcW_nodup hx 1) h1
  obtain ⟨l2, p2⟩ := okP_perm (plcW_nodup hx 2) h2
  have e : rows = rows.take (plcW es 0).length ++ (rows.drop (plcW es 0).length).take (plcW es 1).length ++ (rows.drop ((plcW es 0).length + (plcW es 1).length)).take (plcW es 2).length := by
    have t2 : (rows.drop ((plcW es 0).length + (plcW es 1).length)).take (plcW es 2).length = rows.drop ((plcW es 0).length + (plcW es 1).length) := List.take_of_length_le (by rw [List.length_drop]; omega)
    rw [t2, List.append_assoc, ← List.drop_drop, List.take_append_drop, List.take_append_drop]
  rw [List.drop_zero] at p0
  unfold allW
  rw [e]
  exact (p0.append p1).append p2
theorem rows_use {es : List Ev} {rows : List Int} (hx : es.length ≤ 12) (h : rowsL es rows = true) : rows.Nodup ∧ rows.length ≤ 36 ∧ ∀ i, i < rows.length → 0 ≤ rows.getD i 0 ∧ rows.getD i 0 < (es.length : Int) := by
  have hp := rows_perm hx h
  refine ⟨hp.nodup_iff.1 (allW_nodup hx), ?_, fun i hi => ?_⟩
  · rw [← hp.length_eq]
    unfold allW
    rw [List.length_append, List.length_append]
    have := plcW_len hx 0
    have := plcW_len hx 1
    have := plcW_len hx 2
    omega
  · have hm : rows.getD i 0 ∈ rows := by
      rw [List.getD_eq_getElem?_getD, List.getElem?_eq_getElem hi]
      exact List.getElem_mem hi
    have hm := hp.mem_iff.2 hm
    unfold allW at hm
    rcases List.mem_append.1 hm with hm | hm
    · rcases List.mem_append.1 hm with hm | hm
      · exact (plcW_mem hx hm).1
      · exact (plcW_mem hx hm).1
    · exact (plcW_mem hx hm).1
theorem okP_mk {A P C p : List Int} {i : Nat} (hl : P.length = p.length) (hp : P.Perm p) (h0 : 0 < p.length) (hi : P.getD 0 0 = (i : Int)) : okP (A ++ P ++ C) A.length p i = true := by
  unfold okP
  simp only [Bool.and_eq_true, decide_eq_true_eq, beq_iff_eq, List.all_eq_true]
  refine ⟨⟨by rw [List.length_append, List.length_append]; omega, ?_⟩, fun x hx => ?_⟩
  · rw [List.append_assoc, List.getD_eq_getElem?_getD, List.getElem?_append_right (Nat.le_refl _), Nat.sub_self, List.getElem?_append_left (by omega), ← List.getD_eq_getElem?_getD]
    exact hi
  · refine mem_isB ?_
    rw [List.append_assoc, List.drop_left, ← hl, List.take_left]
    exact hp.mem_iff.2 hx
/-- Each place has writes, its beginning foremost. -/
theorem plcW_first {dss : List (List Dd)} (hb : workB dss = true) (p : Nat) (hp : p < 3) : 0 < (plcW (eventsB dss) p).length ∧ (plcW (eventsB dss) p).getD 0 0 = (p : Int) := by
  obtain ⟨h12, _, _, hf, _⟩ := events_law hb
  obtain ⟨r, hr⟩ := hf p hp
  unfold plcW idxB
  rw [eventsB, if_pos hb, if_pos h12, hr]
  exact ⟨by simp, rfl⟩
theorem eventsB_12 (dss : List (List Dd)) : (eventsB dss).length ≤ 12 := by
  unfold eventsB
  split
  · rename_i hb
    exact (events_law hb).1
  · simp
theorem rat_parts {es : List Ev} {n : Int} (h0 : 0 ≤ n) (h1 : n < rcntL es) :
    (0 ≤ n % fac ((plcW es 2).length - 1) ∧ n % fac ((plcW es 2).length - 1) < fac ((plcW es 2).length - 1)) ∧
    (0 ≤ n / fac ((plcW es 2).length - 1) % fac ((plcW es 1).length - 1) ∧ n / fac ((plcW es 2).length - 1) % fac ((plcW es 1).length - 1) < fac ((plcW es 1).length - 1)) ∧
    (0 ≤ n / fac ((plcW es 2).length - 1) / fac ((plcW es 1).length - 1) ∧ n / fac ((plcW es 2).length - 1) / fac ((plcW es 1).length - 1) < fac ((plcW es 0).length - 1)) := by
  have f0 := fac_pos ((plcW es 0).length - 1)
  have f1 := fac_pos ((plcW es 1).length - 1)
  have f2 := fac_pos ((plcW es 2).length - 1)
  unfold rcntL at h1
  refine ⟨⟨Int.emod_nonneg _ (by omega), Int.emod_lt_of_pos _ f2⟩, ⟨Int.emod_nonneg _ (by omega), Int.emod_lt_of_pos _ f1⟩, Int.ediv_nonneg (Int.ediv_nonneg h0 (by omega)) (by omega), ?_⟩
  exact Int.ediv_lt_of_lt_mul f1 (Int.ediv_lt_of_lt_mul f2 h1)
theorem rat_ok {dss : List (List Dd)} {n : Int} (hb : workB dss = true) (h0 : 0 ≤ n) (h1 : n < rcntL (eventsB dss)) : rowsL (eventsB dss) (ratL (eventsB dss) n) = true := by
  obtain ⟨⟨a0, a1⟩, ⟨b0, b1⟩, c0, c1⟩ := rat_parts h0 h1
  have e0 : n / fac ((plcW (eventsB dss) 2).length - 1) / fac ((plcW (eventsB dss) 1).length - 1) % fac ((plcW (eventsB dss) 0).length - 1) = n / fac ((plcW (eventsB dss) 2).length - 1) / fac ((plcW (eventsB dss) 1).length - 1) := Int.emod_eq_of_lt c0 c1
  obtain ⟨p0, q0⟩ := plcW_first hb 0 (by decide)
  obtain ⟨p1, q1⟩ := plcW_first hb 1 (by decide)
  obtain ⟨p2, q2⟩ := plcW_first hb 2 (by decide)
  unfold ratL
  rw [e0]
  generalize n / fac ((plcW (eventsB dss) 2).length - 1) / fac ((plcW (eventsB dss) 1).length - 1) = x0 at c0 c1
  generalize n / fac ((plcW (eventsB dss) 2).length - 1) % fac ((plcW (eventsB dss) 1).length - 1) = x1 at b0 b1
  generalize n % fac ((plcW (eventsB dss) 2).length - 1) = x2 at a0 a1
  have L0 := part_len p0 x0
  have L1 := part_len p1 x1
  have L2 := part_len p2 x2
  unfold rowsL
  simp only [Bool.and_eq_true, decide_eq_true_eq]
  refine ⟨⟨⟨?_, ?_⟩, ?_⟩, ?_⟩
  · have := okP_mk (A := []) (C := partL (plcW (eventsB dss) 1) x1 ++ partL (plcW (eventsB dss) 2) x2) L0 (part_perm p0 c0 c1) p0 (i := 0) q0
    rw [List.nil_append, ← List.append_assoc] at this
    exact this
  · have := okP_mk (A := partL (plcW (eventsB dss) 0) x0) (C := partL (plcW (eventsB dss) 2) x2) L1 (part_perm p1 b0 b1) p1 (i := 1) q1
    rw [L0] at this
    exact this
  · have := okP_mk (A := partL (plcW (eventsB dss) 0) x0 ++ partL (plcW (eventsB dss) 1) x1) (C := []) L2 (part_perm p2 a0 a1) p2 (i := 2) q2
    rw [List.append_nil, List.length_append, L0, L1] at this
    exact this
  · rw [List.length_append, List.length_append, L0, L1, L2]
theorem rat_inj {dss : List (List Dd)} {n m : Int} (hb : workB dss = true) (h0 : 0 ≤ n) (h1 : n < rcntL (eventsB dss)) (g0 : 0 ≤ m) (g1 : m < rcntL (eventsB dss)) (e : ratL (eventsB dss) m = ratL (eventsB dss) n) : m = n := by
  have hx := eventsB_12 dss
  obtain ⟨⟨a0, a1⟩, ⟨b0, b1⟩, c0, c1⟩ := rat_parts h0 h1
  obtain ⟨⟨d0, d1⟩, ⟨i0, i1⟩, j0, j1⟩ := rat_parts g0 g1
  obtain ⟨p0, _⟩ := plcW_first hb 0 (by decide)
  obtain ⟨p1, _⟩ := plcW_first hb 1 (by decide)
  obtain ⟨p2, _⟩ := plcW_first hb 2 (by decide)
  unfold ratL at e
  rw [Int.emod_eq_of_lt c0 c1, Int.emod_eq_of_lt j0 j1] at e
  obtain ⟨e01, e2⟩ := List.append_inj' e (by rw [part_len p2, part_len p2])
  obtain ⟨e0, e1⟩ := List.append_inj' e01 (by rw [part_len p1, part_len p1])
  have r2 := part_inj (plcW_nodup hx 2) d0 d1 a0 a1 e2
  have r1 := part_inj (plcW_nodup hx 1) i0 i1 b0 b1 e1
  have r0 := part_inj (plcW_nodup hx 0) j0 j1 c0 c1 e0
  have x2 := Int.mul_ediv_add_emod m (fac ((plcW (eventsB dss) 2).length - 1))
  have y2 := Int.mul_ediv_add_emod n (fac ((plcW (eventsB dss) 2).length - 1))
  have x1 := Int.mul_ediv_add_emod (m / fac ((plcW (eventsB dss) 2).length - 1)) (fac ((plcW (eventsB dss) 1).length - 1))
  have y1 := Int.mul_ediv_add_emod (n / fac ((plcW (eventsB dss) 2).length - 1)) (fac ((plcW (eventsB dss) 1).length - 1))
  rw [r0, r1, y1] at x1
  rw [← x1, r2] at x2
  omega
theorem rcnt_in {es : List Ev} (hx : es.length ≤ 9) : 0 < rcntL es ∧ rcntL es ≤ 47784725839872000 := by
  have b : ∀ p, (plcW es p).length - 1 ≤ 8 := fun p => by
    unfold plcW idxB
    rw [if_pos (by omega)]
    have := idxK_len (toE (p : Int)) es es.length
    omega
  have top : ∀ j : Nat, j ≤ 8 → fac j ≤ 40320 := by decide +kernel
  have f0 := fac_pos ((plcW es 0).length - 1)
  have f1 := fac_pos ((plcW es 1).length - 1)
  have f2 := fac_pos ((plcW es 2).length - 1)
  have t0 := top _ (b 0)
  have t1 := top _ (b 1)
  have t2 := top _ (b 2)
  unfold rcntL
  refine ⟨Int.mul_pos (Int.mul_pos f0 f1) f2, ?_⟩
  have m1 : fac ((plcW es 0).length - 1) * fac ((plcW es 1).length - 1) ≤ 40320 * 40320 := Int.mul_le_mul t0 t1 (by omega) (by decide)
  have m2 : fac ((plcW es 0).length - 1) * fac ((plcW es 1).length - 1) * fac ((plcW es 2).length - 1) ≤ 40320 * 40320 * 40320 := Int.mul_le_mul m1 t2 (by omega) (by decide)
  omega
end Go.Proofs.Ytgolhjmbloiakab

/- Plain mathematics of rows as the program makes them: for each seat the writes that may have it; a walk that gives seat after seat to the least one that is left. -/
namespace Go.Proofs.Ytgolhjmbloiakab

/-- Who may have the i-th seat of a place. -/
def seatAt (l : List Int) (i : Nat) : List Int := if i = 0 then l.take 1 else l.drop 1
def seatK (l : List Int) (i : Nat) : List (List Int) := (List.range i).map (seatAt l)
theorem seatK_more (l : List Int) (i : Nat) : seatK l (i + 1) = seatK l i ++ [seatAt l i] := by
  unfold seatK
  rw [List.range_succ, List.map_append]
  rfl
def seatP (l : List Int) : List (List Int) := seatK l l.length
theorem seatP_cons (x : Int) (r : List Int) : seatP (x :: r) = [x] :: List.replicate r.length r := by
  unfold seatP seatK
  rw [List.length_cons, List.range_succ_eq_map, List.map_cons, List.map_map]
  congr 1
  refine List.ext_getElem (by simp) (fun i h1 h2 => ?_)
  simp [seatAt]
theorem seatP_len (l : List Int) : (seatP l).length = l.length := by simp [seatP, seatK]
def seatsL (es : List Ev) : List (List Int) := seatP (plcW es 0) ++ seatP (plcW es 1) ++ seatP (plcW es 2)
/-- Who may have a seat, is past the one that had it last, and has none ahead. -/
def nextL (s ahead : List Int) (last : Int) : List Int := s.filter (fun x => decide (last < x) && !isB ahead x)
def nextB (s ahead : List Int) (last : Int) : Int := (nextL s ahead last).headD (-1)
theorem next_step {s ahead t : List Int} {last x : Int} (hs : s.Pairwise (· < ·)) (h : nextL s ahead last = x :: t) : nextL s ahead x = t ∧ last < x ∧ isB ahead x = false := by
  have hx : x ∈ nextL s ahead last := by rw [h]; simp
  unfold nextL at hx
  rw [List.mem_filter] at hx
  simp only [Bool.and_eq_true, decide_eq_true_eq, Bool.not_eq_true'] at hx
  refine ⟨?_, hx.2.1, hx.2.2⟩
  have h1 : nextL s ahead x = (nextL s ahead last).filter (fun y => decide (x < y)) := by
    unfold nextL
    rw [List.filter_filter]
    refine List.filter_congr (fun y _ => ?_)
    by_cases hy : x < y
    · have : last < y := by omega
      simp [hy, this]
    · simp [hy]
  have hp : (x :: t).Pairwise (· < ·) := by
    rw [← h]
    exact hs.filter _
  rw [List.pairwise_cons] at hp
  rw [h1, h, List.filter_cons, if_neg (by simp), List.filter_eq_self]
  intro y hy
  simpa using hp.1 y hy
/-- What the walk does from a seat on: a step is 'none', what it finds is told. -/
def allT : List (List Int) → List Int → List (Option (List Int))
  | [], a => [some a]
  | s :: ss, a => (nextL s a (-1)).flatMap (fun x => none :: allT ss (a ++ [x])) ++ [none]
def hereT (ss : List (List Int)) (rows : List Int) (last : Int) : List (Option (List Int)) :=
  match ss.drop rows.length with
  | [] => [some rows]
  | s :: r => (nextL s rows last).flatMap (fun x => none :: allT r (rows ++ [x])) ++ [none]
theorem here_all (ss : List (List Int)) (rows : List Int) : hereT ss rows (-1) = allT (ss.drop rows.length) rows := by
  unfold hereT
  cases ss.drop rows.length <;> rfl
def backT (ss : List (List Int)) (rows : List Int) : Nat → List (Option (List Int))
  | 0 => []
  | k + 1 => hereT ss (rows.take k) (rows.getD k 0) ++ backT ss rows k
theorem back_more (ss : List (List Int)) (rows : List Int) (x : Int) : ∀ k : Nat, k ≤ rows.length → backT ss (rows ++ [x]) k = backT ss rows k
  | 0, _ => rfl
  | k + 1, h => by
    rw [backT, backT, back_more ss rows x k (by omega), List.take_append_of_le_length (by omega)]
    congr 2
    rw [List.getD_eq_getElem?_getD, List.getElem?_append_left (by omega), ← List.getD_eq_getElem?_getD]
def comeT (ss : List (List Int)) (rows : List Int) (last : Int) : List (Option (List Int)) := hereT ss rows last ++ backT ss rows rows.length
theorem back_snoc (ss : List (List Int)) (rows : List Int) (x : Int) : backT ss (rows ++ [x]) (rows ++ [x]).length = comeT ss rows x := by
  rw [List.length_append, List.length_singleton, backT, back_more ss rows x _ (Nat.le_refl _), comeT]
  congr 2
  · rw [List.take_append_of_le_length (Nat.le_refl _), List.take_length]
  · rw [List.getD_eq_getElem?_getD, List.getElem?_append_right (Nat.le_refl _), Nat.sub_self]; rfl
/-- A seat is given. -/
theorem come_give {ss : List (List Int)} {rows t : List Int} {last x : Int} (hlt : rows.length < ss.length) (hs : (ss.getD rows.length []).Pairwise (· < ·)) (h : nextL (ss.getD rows.length []) rows last = x :: t) :
    comeT ss rows last = none :: comeT ss (rows ++ [x]) (-1) := by
  have hd : ss.drop rows.length = ss.getD rows.length [] :: ss.drop (rows.length + 1) := by
    rw [List.getD_eq_getElem?_getD, List.getElem?_eq_getElem hlt]
    exact List.drop_eq_getElem_cons hlt
  have hn := (next_step hs h).1
  conv => rhs; rw [comeT, back_snoc, here_all, List.length_append, List.length_singleton, comeT]
  rw [comeT, hereT, hereT, hd]
  simp only [h, hn, List.flatMap_cons, List.cons_append, List.append_assoc]
/-- Nobody may have it: one seat back. -/
theorem come_none {ss : List (List Int)} {rows : List Int} {last : Int} (hlt : rows.length < ss.length) (h : nextL (ss.getD rows.length []) rows last = []) :
    comeT ss rows last = none :: backT ss rows rows.length := by
  have hd : ss.drop rows.length = ss.getD rows.length [] :: ss.drop (rows.length + 1) := by
    rw [List.getD_eq_getElem?_getD, List.getElem?_eq_getElem hlt]
    exact List.drop_eq_getElem_cons hlt
  rw [comeT, hereT, hd]
  simp only [h, List.flatMap_nil, List.nil_append, List.cons_append]
/-- All seats are given. -/
theorem come_full {ss : List (List Int)} {rows : List Int} {last : Int} (hl : rows.length = ss.length) : comeT ss rows last = some rows :: backT ss rows rows.length := by
  rw [comeT, hereT, List.drop_of_length_le (by omega)]
  rfl
/-- All that is found. -/
def allS : List (List Int) → List Int → List (List Int)
  | [], a => [a]
  | s :: ss, a => (nextL s a (-1)).flatMap (fun x => allS ss (a ++ [x]))
theorem all_found : ∀ (ss : List (List Int)) (a : List Int), (allT ss a).filterMap id = allS ss a
  | [], a => rfl
  | s :: ss, a => by
    rw [allT, allS, List.filterMap_append]
    simp only [List.filterMap_cons, List.filterMap_nil, id, List.append_nil]
    rw [List.filterMap_flatMap]
    congr 1
    funext x
    rw [List.filterMap_cons]
    exact all_found ss _
end Go.Proofs.Ytgolhjmbloiakab

/- Contract of the program's seatsOf. -/
namespace Go.Proofs.Ytgolhjmbloiakab
open Go.ChangeShapes Go.WideShapes Go.ChangeAt Go.RowKit

theorem cell_lone {w : World} {b : Nat} {v : Value} (h : w.cell? ⟨b, 0, none⟩ = some v) : ∀ j u, ([v] : List Value)[j]? = some u → w.cell? ((⟨b, 0, none⟩ : Addr).add j) = some u := by
  intro j u hj
  match j, hj with
  | 0, hj =>
    simp at hj
    subst hj
    exact h
  | k + 1, hj => simp at hj
theorem Beside.first {w : World} {x : Value} {b o n c : Nat} {l : List Int} (h : Beside w x (.slice (some ⟨b, o, none⟩) n c) l) (hl : 0 < l.length) : Beside w x (.slice (some ⟨b, o, none⟩) 1 c) (l.take 1) := by
  have hlen : (l.take 1).length = 1 := by rw [List.length_take]; omega
  have hcap : l.length ≤ c := h.cap
  refine ⟨?_, h.ne, h.lt, by rw [hlen]; show 1 ≤ c; omega⟩
  obtain ⟨a, cap, he, hr⟩ := h.rd
  simp only [Value.slice.injEq] at he
  obtain ⟨rfl, rfl, rfl⟩ := he
  refine ⟨_, _, by rw [hlen], ?_⟩
  rcases hr with hr | ⟨b', o', he, hb, hc⟩
  · rw [hr] at hl; simp at hl
  · simp only [Option.some.injEq, Addr.mk.injEq, and_true] at he
    obtain ⟨rfl, rfl⟩ := he
    refine .inr ⟨b, o, rfl, hb, fun i hi => ?_⟩
    rw [hc i (by omega), List.getD_eq_getElem?_getD, List.getD_eq_getElem?_getD, List.getElem?_take, if_pos (by omega)]
theorem Beside.rest {w : World} {x : Value} {b o n c : Nat} {l : List Int} (h : Beside w x (.slice (some ⟨b, o, none⟩) n c) l) (hl : 0 < l.length) : Beside w x (.slice (some ⟨b, o + 1, none⟩) (n - 1) (c - 1)) (l.drop 1) := by
  have hlen : (l.drop 1).length = l.length - 1 := by rw [List.length_drop]
  have hcap : l.length ≤ c := h.cap
  refine ⟨?_, h.ne, h.lt, by rw [hlen]; show l.length - 1 ≤ c - 1; omega⟩
  obtain ⟨a, cap, he, hr⟩ := h.rd
  simp only [Value.slice.injEq] at he
  obtain ⟨rfl, rfl, rfl⟩ := he
  refine ⟨_, _, by rw [hlen], ?_⟩
  rcases hr with hr | ⟨b', o', he, hb, hc⟩
  · rw [hr] at hl; simp at hl
  · simp only [Option.some.injEq, Addr.mk.injEq, and_true] at he
    obtain ⟨rfl, rfl⟩ := he
    refine .inr ⟨b, o + 1, rfl, hb, fun i hi => ?_⟩
    rw [Nat.add_assoc, Nat.add_comm 1 i, hc (i + 1) (by omega), List.getD_eq_getElem?_getD, List.getD_eq_getElem?_getD, List.getElem?_drop, Nat.add_comm 1 i]
def seatN (es : List Ev) : Nat → List (List Int)
  | 0 => []
  | p + 1 => seatN es p ++ seatP (plcW es p)
theorem seatN_three (es : List Ev) : seatN es 3 = seatsL es := by
  simp only [seatN, seatsL, List.nil_append]
theorem seatK_len (l : List Int) (k : Nat) : (seatK l k).length = k := by simp [seatK]
theorem seatN_len {es : List Ev} (hx : es.length ≤ 12) : ∀ p : Nat, (seatN es p).length ≤ 12 * p
  | 0 => by simp [seatN]
  | p + 1 => by
    have := seatN_len hx p
    have := plcW_len hx p
    rw [seatN, List.length_append, seatP_len]
    omega
set_option maxRecDepth 100000 in
set_option maxHeartbeats 2000000 in
theorem seatsOf_any (w : World) (v : Value) (es : List Ev) (h : RdE w v es) (hx : es.length ≤ 12) :
    Calls Try.prog 40 #[v] w fun e w' => ∃ v', e = .returned v' ∧ RdL w' v' (seatsL es) ∧ Keep w w' := by
  obtain ⟨i0, hi, hz0, hz1, hz2⟩ := info_parts Try.infoL
  have A0 := appL_empty w
  have K0 : Keep w (w.alloc (.cells #[] 24)) := (Keep.refl w).alloc _
  have HS : Hid (seatsL es = seatN es 3) := Lib.hid (seatN_three es).symm
  have HL : Hid (∀ p, (seatN es p).length ≤ 12 * p) := Lib.hid (seatN_len hx)
  go_enter Try.func40, Try.ntmps40
  go_wp2
  go_loopw [3, 8] (fun x i wr => ∃ p : Nat, ∃ vs : List Value, p ≤ 3 ∧ i = .int .i64 p ∧ AppL wr w.heap.size x vs (seatN es p) ∧ Keep w wr) (fun _ i _ => 3 - (intOf i).toNat)
  case atStart => exact ⟨0, [], by omega, rfl, A0, K0⟩
  case round =>
    obtain ⟨p, vs, hp, rfl, hA, hK⟩ := hrel
    clear A0 K0
    by_cases hlt : p < 3
    · have hpl := plcW_len hx p
      have HN : Hid (seatN es (p + 1) = seatN es p ++ seatK (plcW es p) (plcW es p).length) := Lib.hid rfl
      have hsl : (seatN es p).length ≤ 36 := by have := HL.out p; omega
      have i2 : (p : Int) < 3 := by omega
      go_wp2_with fail
      refine (implWritesTo_any _ _ _ (h.keep hK) (by omega) _).mono ?_
      rintro e w2 ⟨v2, rfl, o2, k2⟩
      have HI : Hid (plcW es p = idxB (toE (p : Int)) es) := Lib.hid rfl
      rw [HI.out] at hpl HN
      clear HI
      generalize idxB (toE (p : Int)) es = l at o2 hpl HN
      generalize seatN es p = S at hA HN hsl
      have A1 : AppL w2 w.heap.size u3 vs (S ++ seatK l 0) := by
        have : S ++ seatK l 0 = S := by simp [seatK]
        rw [this]
        exact hA.keep k2
      have B1 : Beside w2 u3 v2 l := o2.beside (fun k hk => (hA.lt k hk).2)
      have K1 := hK.trans k2
      obtain ⟨a2, c2, rfl, -⟩ := o2.rd
      clear hA hK o2 k2
      obtain ⟨wo, rfl⟩ : ∃ wo : World, wo = w2 := ⟨_, rfl⟩
      go_wp2
      go_loopw [3, 16] (fun x i wr => ∃ k : Nat, ∃ vs : List Value, k ≤ l.length ∧ i = .int .i64 k ∧ AppL wr w.heap.size x vs (S ++ seatK l k) ∧ Beside wr x (.slice a2 l.length c2) l ∧ Keep w wr) (fun _ i _ => l.length - (intOf i).toNat)
      case atStart => exact ⟨0, vs, Nat.zero_le _, rfl, A1, B1, K1⟩
      case round =>
        obtain ⟨k, vs, hk, rfl, hA, hB, hK⟩ := hrel
        clear A1 B1 K1
        by_cases hkl : k < l.length
        · have HC : Hid (S ++ seatK l (k + 1) = S ++ seatK l k ++ [seatAt l k]) := Lib.hid (by rw [seatK_more, List.append_assoc])
          have hcl : (S ++ seatK l k).length = S.length + k := by rw [List.length_append, seatK_len]
          have hcap : l.length ≤ c2 := hB.cap
          have hRd := hB.rd
          obtain ⟨a', c', he', hRd⟩ := hRd
          simp only [Value.slice.injEq, true_and] at he'
          obtain ⟨rfl, rfl⟩ := he'
          rcases hRd with h0 | ⟨br, or', rfl, hbr, -⟩
          · exfalso; rw [h0] at hkl; simp at hkl
          have hF := hB.first (by omega)
          have hT := hB.rest (by omega)
          have i1 : (0 : Int) ≤ (k : Int) := Int.natCast_nonneg _
          have i2 : (k : Int) < (l.length : Int) := by omega
          have hsz := hK.size
          generalize S ++ seatK l k = D at hA HC hcl
          by_cases hk0 : k = 0
          · have HZ : Hid (seatAt l k = l.take 1) := Lib.hid (by unfold seatAt; rw [if_pos hk0])
            rw [HZ.out] at HC
            have hkb : ((k : Int) == 0) = true := by simp [hk0]
            have hA2 := hA.keep ((Keep.refl wr).alloc (.cells #[.slice (some ⟨br, or', none⟩) 1 c2] 24))
            have hB2 := hB.keep ((Keep.refl wr).alloc (.cells #[.slice (some ⟨br, or', none⟩) 1 c2] 24))
            have hU := hF.keep ((Keep.refl wr).alloc (.cells #[.slice (some ⟨br, or', none⟩) 1 c2] 24))
            have c1 : (1 : Int) ≤ (c2 : Int) := by omega
            clear hF hT hk0 HZ hA hB
            go_wp2_with (at_builtin; refine wpList_append_own_at _ rfl _ _ 52 rfl w.heap.size 24 i0 (.slice none 0 0) 1 24 Try.underlying52 hi hz0 hz1 hz2 rfl (by decide) _ _ _ rfl hA2.row ⟨_, 0, none⟩ 1 1 [.slice (some ⟨br, or', none⟩) 1 c2] rfl rfl ?c1 ?c2 ?c3 ?c4 ?c5 ?_)
            case c1 => exact cell_lone (Boxed.new _ _ _).cell
            case c2 => intro u hu; simp at hu; subst hu; rfl
            case c3 => unfold maxLen; omega
            case c4 => omega
            case c5 => first | omega | (simp; omega)
            intro v' w3 hown' hgrow _ hblk
            have hblk' : v'.ownBlock = u3.ownBlock ∨ v'.ownBlock = some (wr.alloc (.cells #[.slice (some ⟨br, or', none⟩) 1 c2] 24)).heap.size := by rw [heap_size]; exact hblk
            have hA3 := hA2.push hU (by rw [hcl]; exact hown') hgrow hblk'
            have hB3 := hB2.grow hgrow hblk'
            have hK3 : Keep w w3 := (hK.alloc _).grown hgrow (fun k hk => (hA2.lt k hk).1)
            clear hown' hgrow hblk hblk' hA2 hB2 hU hK
            go_wp2
            go_roundw
            case rel => exact ⟨k + 1, _, by omega, by go_num, by rw [HC.out]; exact hA3, hB3, hK3⟩
            case measure => simp [intOf]; omega
          · have HZ : Hid (seatAt l k = l.drop 1) := Lib.hid (by unfold seatAt; rw [if_neg hk0])
            rw [HZ.out] at HC
            have hkb : ((k : Int) == 0) = false := by simp; omega
            have hA2 := hA.keep ((Keep.refl wr).alloc (.cells #[.slice (some ⟨br, or' + 1, none⟩) (l.length - 1) (c2 - 1)] 24))
            have hB2 := hB.keep ((Keep.refl wr).alloc (.cells #[.slice (some ⟨br, or' + 1, none⟩) (l.length - 1) (c2 - 1)] 24))
            have hU := hT.keep ((Keep.refl wr).alloc (.cells #[.slice (some ⟨br, or' + 1, none⟩) (l.length - 1) (c2 - 1)] 24))
            have c1 : (1 : Int) ≤ (l.length : Int) := by omega
            have c2' : 1 < c2 := by omega
            have c3 : (l.length : Int) ≤ (c2 : Int) := by omega
            clear hF hT hk0 HZ hA hB
            go_wp2_with (at_builtin; refine wpList_append_own_at _ rfl _ _ 52 rfl w.heap.size 24 i0 (.slice none 0 0) 1 24 Try.underlying52 hi hz0 hz1 hz2 rfl (by decide) _ _ _ rfl hA2.row ⟨_, 0, none⟩ 1 1 [.slice (some ⟨br, or' + 1, none⟩) (l.length - 1) (c2 - 1)] rfl rfl ?c1 ?c2 ?c3 ?c4 ?c5 ?_)
            case c1 => exact cell_lone (Boxed.new _ _ _).cell
            case c2 => intro u hu; simp at hu; subst hu; rfl
            case c3 => unfold maxLen; omega
            case c4 => omega
            case c5 => first | omega | (simp; omega)
            intro v' w3 hown' hgrow _ hblk
            have hblk' : v'.ownBlock = u3.ownBlock ∨ v'.ownBlock = some (wr.alloc (.cells #[.slice (some ⟨br, or' + 1, none⟩) (l.length - 1) (c2 - 1)] 24)).heap.size := by rw [heap_size]; exact hblk
            have hA3 := hA2.push hU (by rw [hcl]; exact hown') hgrow hblk'
            have hB3 := hB2.grow hgrow hblk'
            have hK3 : Keep w w3 := (hK.alloc _).grown hgrow (fun k hk => (hA2.lt k hk).1)
            clear hown' hgrow hblk hblk' hA2 hB2 hU hK
            go_wp2
            go_roundw
            case rel => exact ⟨k + 1, _, by omega, by go_num, by rw [HC.out]; exact hA3, hB3, hK3⟩
            case measure => simp [intOf]; omega
        · obtain rfl : k = l.length := by omega
          have hN : AppL wr w.heap.size u3 vs (seatN es (p + 1)) := by rw [HN.out]; exact hA
          clear hA hB
          go_wp2
          go_roundw
          case rel => exact ⟨p + 1, vs, by omega, by go_num, hN, hK⟩
          case measure => simp [intOf]; omega
    · obtain rfl : p = 3 := by omega
      have HR := Lib.hid hA.rd
      go_wp2
      go_ret
      exact ⟨_, rfl, by rw [HS.out]; exact HR.out, hK⟩
end Go.Proofs.Ytgolhjmbloiakab

/- A scope in which the run jumps to several labels: what holds at each label when it is jumped to, with a number that each pass lowers. -/
namespace Go.Proofs.Ytgolhjmbloiakab

/-- By a goto to a label: J of that label; else as Q. -/
def atLabel (J : Nat → Act → World → Prop) (Q : Exit → Act → World → Prop) : Exit → Act → World → Prop
  | .goto l, a, w => J l a w
  | e, a, w => Q e a w
theorem atLabel_ret {J : Nat → Act → World → Prop} {Q : Exit → Act → World → Prop} {a : Act} {w : World} : atLabel J Q .ret a w = Q .ret a w := rfl
theorem wp_scope_labels {P : Program} {Q : Exit → Act → World → Prop} {c : Code} {a : Act} {w : World} (rest : Nat → Code) (J : Nat → Nat → Act → World → Prop)
    (hf : ∀ l m a w, J l m a w → findLabel c l = some (rest l)) (first : c.wp P (atLabel (fun l a w => ∃ m, J l m a w) Q) a w)
    (pass : ∀ l m a w, J l m a w → (rest l).wp P (atLabel (fun l' a' w' => ∃ m', m' < m ∧ J l' m' a' w') Q) a w) : (Code.scope c).wp P Q a w := by
  intro b k cs
  have on : ∀ m l a w, J l m a w → ∃ e a' w', Q e a' w' ∧ Arrives P (lone (b.at a (.code (rest l) :: .inScope c :: k)) cs w) b k cs e a' w' := by
    intro m
    induction m using Nat.strongRecOn with
    | _ m ih =>
      intro l a w hJ
      obtain ⟨e, a₁, w₁, hq, harr⟩ := pass l m a w hJ b (.inScope c :: k) cs
      cases e with
      | goto l' =>
        obtain ⟨m', hlt, hJ'⟩ : ∃ m', m' < m ∧ J l' m' a₁ w₁ := hq
        obtain ⟨e₂, a₂, w₂, hq₂, harr₂⟩ := ih _ hlt l' a₁ w₁ hJ'
        have hg : gotoIn l' (.inScope c :: k) = some (.code (rest l') :: .inScope c :: k) := by simp [gotoIn, hf l' m' a₁ w₁ hJ']
        exact ⟨e₂, a₂, w₂, hq₂, .of_steps (harr _ hg) harr₂⟩
      | normal => exact ⟨.normal, a₁, w₁, hq, Steps.trans harr (.one step_inScope)⟩
      | exit id => exact ⟨.exit id, a₁, w₁, hq, fun k' hk => harr k' (by simp [exitTo, hk])⟩
      | ret => exact ⟨_, a₁, w₁, hq, harr⟩
      | panic ch => exact ⟨_, a₁, w₁, hq, harr⟩
      | outgrown => exact ⟨_, a₁, w₁, hq, harr⟩
  obtain ⟨e, a₁, w₁, hq, harr⟩ := first b (.inScope c :: k) cs
  cases e with
  | goto l' =>
    obtain ⟨m, hJ'⟩ : ∃ m, J l' m a₁ w₁ := hq
    obtain ⟨e₂, a₂, w₂, hq₂, harr₂⟩ := on m l' a₁ w₁ hJ'
    have hg : gotoIn l' (.inScope c :: k) = some (.code (rest l') :: .inScope c :: k) := by simp [gotoIn, hf l' m a₁ w₁ hJ']
    exact ⟨e₂, a₂, w₂, hq₂, .of_steps (.head step_scope (harr _ hg)) harr₂⟩
  | normal => exact ⟨.normal, a₁, w₁, hq, .head step_scope (Steps.trans harr (.one step_inScope))⟩
  | exit id => exact ⟨.exit id, a₁, w₁, hq, fun k' hk => .head step_scope (harr k' (by simp [exitTo, hk]))⟩
  | ret => exact ⟨_, a₁, w₁, hq, .of_steps (.one step_scope) harr⟩
  | panic ch => exact ⟨_, a₁, w₁, hq, .of_steps (.one step_scope) harr⟩
  | outgrown => exact ⟨_, a₁, w₁, hq, .of_steps (.one step_scope) harr⟩
def ofTwo {α : Type} (x0 x1 d : α) : Nat → α
  | 0 => x0
  | 1 => x1
  | _ => d
/-- Where one goes on: at each of two labels, with a lower number. -/
def below2 (J0 J1 : Nat → Act → World → Prop) (Q : Exit → Act → World → Prop) (m : Nat) : Exit → Act → World → Prop := atLabel (ofTwo (fun a' w' => ∃ m', m' < m ∧ J0 m' a' w') (fun a' w' => ∃ m', m' < m ∧ J1 m' a' w') (fun _ _ => False)) Q
def any2 (J0 J1 : Nat → Act → World → Prop) (Q : Exit → Act → World → Prop) : Exit → Act → World → Prop := atLabel (ofTwo (fun a w => ∃ m, J0 m a w) (fun a w => ∃ m, J1 m a w) (fun _ _ => False)) Q
theorem below2_ret {J0 J1 : Nat → Act → World → Prop} {Q : Exit → Act → World → Prop} {m : Nat} {a : Act} {w : World} : below2 J0 J1 Q m .ret a w = Q .ret a w := rfl
theorem below2_to0 {J0 J1 : Nat → Act → World → Prop} {Q : Exit → Act → World → Prop} {m : Nat} {a : Act} {w : World} (h : ∃ m', m' < m ∧ J0 m' a w) : below2 J0 J1 Q m (.goto 0) a w := h
theorem below2_to1 {J0 J1 : Nat → Act → World → Prop} {Q : Exit → Act → World → Prop} {m : Nat} {a : Act} {w : World} (h : ∃ m', m' < m ∧ J1 m' a w) : below2 J0 J1 Q m (.goto 1) a w := h
theorem below2_any {J0 J1 : Nat → Act → World → Prop} {Q : Exit → Act → World → Prop} {m : Nat} (e : Exit) (a : Act) (w : World) (h : below2 J0 J1 Q m e a w) : any2 J0 J1 Q e a w := by
  cases e with
  | goto l =>
    match l, h with
    | 0, h => obtain ⟨m', _, h⟩ : ∃ m', m' < m ∧ J0 m' a w := h; exact ⟨m', h⟩
    | 1, h => obtain ⟨m', _, h⟩ : ∃ m', m' < m ∧ J1 m' a w := h; exact ⟨m', h⟩
  | _ => exact h
theorem below2_le {J0 J1 : Nat → Act → World → Prop} {Q : Exit → Act → World → Prop} {k m : Nat} (hk : k ≤ m) (e : Exit) (a : Act) (w : World) (h : below2 J0 J1 Q k e a w) : below2 J0 J1 Q m e a w := by
  cases e with
  | goto l =>
    match l, h with
    | 0, h => obtain ⟨m', hl, h⟩ : ∃ m', m' < k ∧ J0 m' a w := h; exact ⟨m', by omega, h⟩
    | 1, h => obtain ⟨m', hl, h⟩ : ∃ m', m' < k ∧ J1 m' a w := h; exact ⟨m', by omega, h⟩
  | _ => exact h
/-- Two labels; from label 1 the run may also go straight on to label 0. -/
theorem wp_scope_two {P : Program} {Q : Exit → Act → World → Prop} {c r0 r1 : Code} {a : Act} {w : World} (J0 J1 : Nat → Act → World → Prop)
    (hf0 : findLabel c 0 = some (Code.skip.seq r0)) (hf1 : findLabel c 1 = some (Code.skip.seq r1))
    (pass0 : ∀ m a w, J0 m a w → r0.wp P (below2 J0 J1 Q m) a w)
    (pass1 : ∀ m, (∀ m' a w, m' < m → J0 m' a w → r0.wp P (below2 J0 J1 Q m) a w) → ∀ a w, J1 m a w → r1.wp P (below2 J0 J1 Q m) a w)
    (first : (∀ m a w, J1 m a w → r1.wp P (any2 J0 J1 Q) a w) → c.wp P (any2 J0 J1 Q) a w) : (Code.scope c).wp P Q a w := by
  have p1 : ∀ m a w, J1 m a w → r1.wp P (below2 J0 J1 Q m) a w := fun m a w h => pass1 m (fun m' a w hm h0 => Code.wp_mono (below2_le (Nat.le_of_lt hm)) (pass0 m' a w h0)) a w h
  have e1 : (fun l a w => ∃ m, ofTwo J0 J1 (fun _ _ _ => False) l m a w) = ofTwo (fun a w => ∃ m, J0 m a w) (fun a w => ∃ m, J1 m a w) (fun _ _ => False) := by
    funext l a w
    match l with
    | 0 => rfl
    | 1 => rfl
    | l + 2 => simp [ofTwo]
  have e2 : ∀ m : Nat, (fun l a w => ∃ m', m' < m ∧ ofTwo J0 J1 (fun _ _ _ => False) l m' a w) = ofTwo (fun a w => ∃ m', m' < m ∧ J0 m' a w) (fun a w => ∃ m', m' < m ∧ J1 m' a w) (fun _ _ => False) := by
    intro m
    funext l a w
    match l with
    | 0 => rfl
    | 1 => rfl
    | l + 2 => simp [ofTwo]
  refine wp_scope_labels (ofTwo (Code.skip.seq r0) (Code.skip.seq r1) r0) (ofTwo J0 J1 (fun _ _ _ => False)) (fun l m a w h => ?_) (by rw [e1]; exact first (fun m a w h => Code.wp_mono below2_any (p1 m a w h))) (fun l m a w h => ?_)
  · match l, h with
    | 0, _ => exact hf0
    | 1, _ => exact hf1
  · rw [e2]
    match l, h with
    | 0, h => exact wp_seq (wp_skip (pass0 m a w h))
    | 1, h => exact wp_seq (wp_skip (p1 m a w h))
end Go.Proofs.Ytgolhjmbloiakab

/- Is a number in a list: plain. -/
namespace Go.Proofs.Ytgolhjmbloiakab

theorem isB_take {l : List Int} {n : Int} (h : ∀ i, i < l.length → l.getD i 0 ≠ n) : isB l n = false := by
  unfold isB
  rw [List.any_eq_false]
  intro x hx
  obtain ⟨i, hi, e⟩ := List.getElem_of_mem hx
  have := h i hi
  rw [List.getD_eq_getElem?_getD, List.getElem?_eq_getElem hi] at this
  simp only [Option.getD_some] at this
  rw [← e]
  simpa using this
theorem isB_at {l : List Int} {n : Int} {i : Nat} (hi : i < l.length) (h : l.getD i 0 = n) : isB l n = true := by
  unfold isB
  rw [List.any_eq_true]
  refine ⟨n, ?_, by simp⟩
  rw [← h, List.getD_eq_getElem?_getD, List.getElem?_eq_getElem hi]
  exact List.getElem_mem hi
end Go.Proofs.Ytgolhjmbloiakab

/- Contracts of slices.Index and slices.Contains of a list of numbers. -/
namespace Go.Proofs.Ytgolhjmbloiakab
open Go.ChangeShapes Go.WideShapes Go.ChangeAt Go.RowKit

set_option maxHeartbeats 1000000 in
theorem index_any (w : World) (v : Value) (zs : List Int) (h : Rd w v zs) (hn : zs.length ≤ 1048576) (n : Int) :
    Calls Try.prog 82 #[v, .int .i64 n] w fun e w' => ∃ r : Int, e = .returned (.int .i64 r) ∧ Hid (decide (0 ≤ r) = isB zs n) ∧ w' = w := by
  obtain ⟨a, c, rfl, h⟩ := h
  go_enter Try.func82, Try.ntmps82
  go_wp2
  go_loop [8] (fun i => ∃ k : Nat, k ≤ zs.length ∧ i = .int .i64 k ∧ Hid (∀ i, i < k → zs.getD i 0 ≠ n)) (fun i => zs.length - (intOf i).toNat)
  case atStart => exact ⟨0, Nat.zero_le _, rfl, Lib.hid (fun i hi => absurd hi (Nat.not_lt_zero _))⟩
  case round =>
    obtain ⟨k, hk, rfl, hno⟩ := hrel
    by_cases hlt : k < zs.length
    · rcases h with h | ⟨b, o, rfl, hb, hc⟩
      · exfalso; rw [h] at hlt; simp at hlt
      have d1 := hc k hlt
      obtain ⟨p, hp⟩ : ∃ p, p = zs.getD k 0 := ⟨_, rfl⟩
      have HP := Lib.hid hp
      rw [← hp] at d1
      clear hc hp
      have i1 : (0 : Int) ≤ (k : Int) := Int.natCast_nonneg _
      have i2 : (k : Int) < (zs.length : Int) := by omega
      by_cases he : p = n
      · have hb : (n == p) = true := by simp [he]
        have HE : Hid (isB zs n = true) := Lib.hid (isB_at hlt (by rw [← HP.out]; exact he))
        clear he
        go_wp2
        go_ret
        exact ⟨k, rfl, Lib.hid (by rw [HE.out]; simp), rfl⟩
      · have hb : (n == p) = false := by simp; exact fun h => he h.symm
        have HE : Hid (∀ i, i < k + 1 → zs.getD i 0 ≠ n) := Lib.hid (fun i hi => by
          by_cases e : i = k
          · subst e; rw [← HP.out]; exact he
          · exact hno.out i (by omega))
        clear he
        go_wp2
        go_round
        case rel => exact ⟨k + 1, by omega, by go_num, HE⟩
        case measure => simp [intOf]; omega
    · obtain rfl : k = zs.length := by omega
      have HE : Hid (isB zs n = false) := Lib.hid (isB_take hno.out)
      go_wp2
      go_ret
      exact ⟨-1, rfl, Lib.hid (by rw [HE.out]; rfl), rfl⟩
theorem contains_any (w : World) (v : Value) (zs : List Int) (h : Rd w v zs) (hn : zs.length ≤ 1048576) (n : Int) :
    Calls Try.prog 75 #[v, .int .i64 n] w fun e w' => e = .returned (.bool (isB zs n)) ∧ w' = w := by
  go_enter Try.func75, Try.ntmps75
  go_wp2_with fail
  refine (index_any _ _ _ h hn _).mono ?_
  rintro e w1 ⟨r, rfl, hr, rfl⟩
  go_wp2
  go_ret
  exact ⟨by rw [← hr.out]; rfl, rfl⟩
end Go.Proofs.Ytgolhjmbloiakab

/- Contract of the program's nextFor: the least that may have a seat, is past the one that had it last, and has none ahead. -/
namespace Go.Proofs.Ytgolhjmbloiakab
open Go.ChangeShapes Go.WideShapes Go.ChangeAt Go.RowKit

theorem take_snocI (s : List Int) (k : Nat) (h : k < s.length) : s.take (k + 1) = s.take k ++ [s.getD k 0] := by
  rw [List.take_add_one, List.getElem?_eq_getElem h, List.getD_eq_getElem?_getD, List.getElem?_eq_getElem h]
  rfl
theorem next_take_more {s a : List Int} {last p : Int} {k : Nat} (h : nextL (s.take k) a last = []) (hk : k < s.length) (hp : p = s.getD k 0) (ht : (decide (last < p) && !isB a p) = false) : nextL (s.take (k + 1)) a last = [] := by
  unfold nextL at h ⊢
  rw [take_snocI s k hk, List.filter_append, h, ← hp]
  simp [ht]
theorem next_take_hit {s a : List Int} {last p : Int} {k : Nat} (h : nextL (s.take k) a last = []) (hk : k < s.length) (hp : p = s.getD k 0) (ht : (decide (last < p) && !isB a p) = true) : nextB s a last = p := by
  have e : s = s.take k ++ (p :: s.drop (k + 1)) := by
    rw [hp, List.getD_eq_getElem?_getD, List.getElem?_eq_getElem hk]
    show s = s.take k ++ s[k] :: s.drop (k + 1)
    rw [← List.drop_eq_getElem_cons hk, List.take_append_drop]
  unfold nextB
  unfold nextL at h ⊢
  rw [e, List.filter_append, h, List.filter_cons, if_pos ht]
  rfl
set_option maxHeartbeats 1000000 in
theorem nextFor_any (w : World) (v va : Value) (s a : List Int) (last : Int) (h : Rd w v s) (ha : Rd w va a) (hn : s.length ≤ 1048576) (han : a.length ≤ 1048576) :
    Calls Try.prog 59 #[v, va, .int .i64 last] w fun e w' => e = .returned (.int .i64 (nextB s a last)) ∧ w' = w := by
  obtain ⟨a1, c1, rfl, -⟩ := id ha
  obtain ⟨a0, c0, rfl, h⟩ := h
  go_enter Try.func59, Try.ntmps59
  go_wp2
  go_loop [11] (fun i => ∃ k : Nat, k ≤ s.length ∧ i = .int .i64 k ∧ Hid (nextL (s.take k) a last = [])) (fun i => s.length - (intOf i).toNat)
  case atStart => exact ⟨0, Nat.zero_le _, rfl, Lib.hid rfl⟩
  case round =>
    obtain ⟨k, hk, rfl, hno⟩ := hrel
    by_cases hlt : k < s.length
    · rcases h with h | ⟨b, o, rfl, hb, hc⟩
      · exfalso; rw [h] at hlt; simp at hlt
      have d1 := hc k hlt
      obtain ⟨p, hp⟩ : ∃ p, p = s.getD k 0 := ⟨_, rfl⟩
      have HP := Lib.hid hp
      rw [← hp] at d1
      clear hc hp
      have i1 : (0 : Int) ≤ (k : Int) := Int.natCast_nonneg _
      have i2 : (k : Int) < (s.length : Int) := by omega
      have C := contains_any w _ a ha han p
      by_cases hgt : last < p
      · cases hi : isB a p
        · have HE : Hid (nextB s a last = p) := Lib.hid (next_take_hit hno.out hlt HP.out (by rw [hi]; simp [hgt]))
          rw [hi] at C
          go_wp2_with fail
          refine C.mono ?_
          rintro e w5 ⟨rfl, rfl⟩
          go_wp2
          go_ret
          exact ⟨by rw [HE.out]; rfl, rfl⟩
        · have HE : Hid (nextL (s.take (k + 1)) a last = []) := Lib.hid (next_take_more hno.out hlt HP.out (by rw [hi]; simp))
          rw [hi] at C
          go_wp2_with fail
          refine C.mono ?_
          rintro e w5 ⟨rfl, rfl⟩
          go_wp2
          go_round
          case rel => exact ⟨k + 1, by omega, by go_num, HE⟩
          case measure => simp [intOf]; omega
      · have HE : Hid (nextL (s.take (k + 1)) a last = []) := Lib.hid (next_take_more hno.out hlt HP.out (by simp [hgt]))
        have hg2 : decide (last < p) = false := by simp [hgt]
        clear C
        go_wp2
        go_round
        case rel => exact ⟨k + 1, by omega, by go_num, HE⟩
        case measure => simp [intOf]; omega
    · obtain rfl : k = s.length := by omega
      have HE : Hid (nextB s a last = -1) := Lib.hid (by
        have := hno.out
        rw [List.take_length] at this
        unfold nextB
        rw [this]
        rfl)
      go_wp2
      go_ret
      exact ⟨by rw [HE.out]; rfl, rfl⟩
end Go.Proofs.Ytgolhjmbloiakab

/- Contract of the program's walkedRows: it meets all that the seats allow, in their order, and stops at the n-th. -/
namespace Go.Proofs.Ytgolhjmbloiakab
open Go.ChangeShapes Go.WideShapes Go.ChangeAt Go.RowKit

/-- The n-th of all, if there is one; how many were met. -/
def wrB (E : List (List Int)) (n : Int) : List Int := if 0 ≤ n ∧ n < (E.length : Int) then E.getD n.toNat [] else []
def wcB (E : List (List Int)) (n : Int) : Int := if 0 ≤ n ∧ n < (E.length : Int) then n else (E.length : Int)
/-- What holds while it walks: T is still to come. -/
structure Wk (ss : List (List Int)) (n : Int) (rows : List Int) (last : Int) (met : Nat) (T : List (Option (List Int))) : Prop where
  come : T.filterMap id = (allS ss []).drop met
  top : met ≤ (allS ss []).length
  low : n < 0 ∨ (met : Int) ≤ n
  len : rows.length ≤ ss.length
  lst : -1 ≤ last
  pos : ∀ x ∈ rows, 0 ≤ x
theorem Wk.start (ss : List (List Int)) (n : Int) : Wk ss n [] (-1) 0 (comeT ss [] (-1)) := by
  refine ⟨?_, Nat.zero_le _, by omega, Nat.zero_le _, by decide, by simp⟩
  have e : comeT ss [] (-1) = allT ss [] := by
    unfold comeT
    rw [here_all]
    exact List.append_nil _
  rw [e, all_found, List.drop_zero]
theorem Wk.nil {ss : List (List Int)} {n : Int} {rows : List Int} {last : Int} {met : Nat} {T : List (Option (List Int))} (h : Wk ss n rows last met T) (hT : T = []) : wcB (allS ss []) n = (met : Int) ∧ wrB (allS ss []) n = [] := by
  have hc := h.come
  rw [hT, List.filterMap_nil] at hc
  have hl := congrArg List.length hc
  rw [List.length_drop, List.length_nil] at hl
  have := h.top
  have := h.low
  unfold wcB wrB
  rw [if_neg (by omega), if_neg (by omega)]
  exact ⟨by omega, rfl⟩
theorem Wk.back {ss : List (List Int)} {n : Int} {r' : List Int} {x last : Int} {met : Nat} {T T' : List (Option (List Int))} (h : Wk ss n (r' ++ [x]) last met T) (hT : T = T') : Wk ss n r' x met T' := by
  have hl := h.len
  rw [List.length_append, List.length_singleton] at hl
  have := h.pos x (by simp)
  exact ⟨by rw [← hT]; exact h.come, h.top, h.low, by omega, by omega, fun y hy => h.pos y (by simp [hy])⟩
theorem Wk.fail {ss : List (List Int)} {n : Int} {rows : List Int} {last last' : Int} {met : Nat} {T T' : List (Option (List Int))} (h : Wk ss n rows last met T) (hT : T = none :: T') (hl : -1 ≤ last') : Wk ss n rows last' met T' := by
  have hc := h.come
  rw [hT, List.filterMap_cons] at hc
  exact ⟨hc, h.top, h.low, h.len, hl, h.pos⟩
theorem Wk.give {ss : List (List Int)} {n : Int} {rows : List Int} {last x : Int} {met : Nat} {T T' : List (Option (List Int))} (h : Wk ss n rows last met T) (hT : T = none :: T') (hx : 0 ≤ x) (hlt : rows.length < ss.length) : Wk ss n (rows ++ [x]) (-1) met T' := by
  have hc := h.come
  rw [hT, List.filterMap_cons] at hc
  refine ⟨hc, h.top, h.low, by rw [List.length_append, List.length_singleton]; omega, by decide, fun y hy => ?_⟩
  rcases List.mem_append.1 hy with hy | hy
  · exact h.pos y hy
  · rw [List.mem_singleton] at hy
    omega
theorem Wk.met {ss : List (List Int)} {n : Int} {rows : List Int} {last : Int} {met : Nat} {T T' : List (Option (List Int))} (h : Wk ss n rows last met T) (hT : T = some rows :: T') :
    met < (allS ss []).length ∧ (allS ss []).getD met [] = rows ∧ T'.filterMap id = (allS ss []).drop (met + 1) := by
  have hc := h.come
  rw [hT, List.filterMap_cons] at hc
  have hl : met < (allS ss []).length := by
    apply Classical.byContradiction
    intro hn
    rw [List.drop_of_length_le (by omega)] at hc
    cases hc
  rw [List.drop_eq_getElem_cons hl] at hc
  simp only [id, List.cons.injEq] at hc
  refine ⟨hl, ?_, hc.2⟩
  rw [List.getD_eq_getElem?_getD, List.getElem?_eq_getElem hl]
  exact hc.1.symm
theorem Wk.hit {ss : List (List Int)} {n : Int} {rows : List Int} {last : Int} {met : Nat} {T T' : List (Option (List Int))} (h : Wk ss n rows last met T) (hT : T = some rows :: T') (hn : (met : Int) = n) : wcB (allS ss []) n = (met : Int) ∧ wrB (allS ss []) n = rows := by
  obtain ⟨h1, h2, _⟩ := h.met hT
  unfold wcB wrB
  rw [if_pos (by omega), if_pos (by omega), ← hn, Int.toNat_natCast]
  exact ⟨rfl, h2⟩
theorem Wk.pass {ss : List (List Int)} {n : Int} {rows : List Int} {last : Int} {met : Nat} {T T' : List (Option (List Int))} (h : Wk ss n rows last met T) (hT : T = some rows :: T') (hn : (met : Int) ≠ n) : Wk ss n rows last (met + 1) T' := by
  obtain ⟨h1, h2, h3⟩ := h.met hT
  have := h.low
  exact ⟨h3, by omega, by omega, h.len, h.lst, h.pos⟩
theorem wrap_small {n : Int} (h : 0 ≤ n ∧ n < 4611686018427387904) : IntKind.i64.wrap n = n := by
  rw [IntKind.wrap_i64]
  omega
theorem Own.short {w : World} {base : Nat} {ar : Option Addr} {cr : Nat} {r' : List Int} {x : Int} {n : Nat} (h : Own w base (.slice ar n cr) (r' ++ [x])) :
    ∃ g, ar = some ⟨g, 0, none⟩ ∧ Own w base (.slice (some ⟨g, 0, none⟩) r'.length cr) r' ∧ w.cell? ⟨g, r'.length, none⟩ = some (.int .i64 x) ∧ r'.length + 1 ≤ cr := by
  have hrd := h.rd
  unfold Own World.ownsRow at h
  rcases h.2 with ⟨h1, h2⟩ | ⟨g, cap, cur, hv, hb, hg, hc, hm, hs, ht⟩
  · simp at h2
  · simp only [Value.slice.injEq] at hv
    obtain ⟨rfl, rfl, rfl⟩ := hv
    rw [List.length_append, List.length_singleton] at hc
    refine ⟨g, rfl, ⟨by simp, .inr ⟨g, cr, cur, rfl, hb, hg, by omega, hm, hs, ?_⟩⟩, ?_, hc⟩
    · rw [Nat.mul_one, List.length_append, List.length_singleton] at ht
      have := congrArg (List.take r'.length) ht
      rw [List.take_take, Nat.min_eq_left (by omega), List.map_append, List.take_append_of_le_length (by simp)] at this
      have e : (r'.map (Value.int .i64)).take r'.length = r'.map (Value.int .i64) := List.take_of_length_le (by simp)
      rw [e] at this
      rw [Nat.mul_one]
      exact this
    · obtain ⟨a, c, he, hr⟩ := hrd
      simp only [Value.slice.injEq] at he
      obtain ⟨rfl, _, rfl⟩ := he
      rcases hr with hr | ⟨b, off, he, hb2, hcell⟩
      · simp at hr
      · simp only [Option.some.injEq, Addr.mk.injEq, and_true] at he
        obtain ⟨rfl, rfl⟩ := he
        have := hcell r'.length (by simp)
        rw [Nat.zero_add, List.getD_eq_getElem?_getD, List.getElem?_append_right (Nat.le_refl _), Nat.sub_self] at this
        exact this
def atBack (w : World) (a0 : Option Addr) (c0 : Nat) (ss : List (List Int)) (n : Int) : Nat → Act → World → Prop := fun m a wr => ∃ (rows : List Int) (vr : Value) (met : Nat) (last : Int), m = 2 * (backT ss rows rows.length).length + 1 ∧ Wk ss n rows last met (backT ss rows rows.length) ∧ Own wr w.heap.size vr rows ∧ Keep w wr ∧ ∃ (u9 u10 u11 u12 u13 u14 u15 u16 u17 u18 u19 u20 u21 u22 u23 u24 u25 u26 u27 u28 u29 u30 u31 u32 u33 u34 u35 u36 u37 u38 u39 u40 u41 u42 u43 u44 u45 u46 u47 u48 u49 u50 u51 : Value), a = { tmps := #[.slice a0 ss.length c0, .int .i64 n, undef, undef, .slice none 0 0, .int .i64 0, vr, .int .i64 met, .int .i64 last, u9, u10, u11, u12, u13, u14, u15, u16, u17, u18, u19, u20, u21, u22, u23, u24, u25, u26, u27, u28, u29, u30, u31, u32, u33, u34, u35, u36, u37, u38, u39, u40, u41, u42, u43, u44, u45, u46, u47, u48, u49, u50, u51], defers := [] }
def atOn (w : World) (a0 : Option Addr) (c0 : Nat) (ss : List (List Int)) (n : Int) : Nat → Act → World → Prop := fun m a wr => ∃ (rows : List Int) (vr : Value) (met : Nat) (last : Int), m = 2 * (comeT ss rows last).length ∧ Wk ss n rows last met (comeT ss rows last) ∧ Own wr w.heap.size vr rows ∧ Keep w wr ∧ ∃ (u9 u10 u11 u12 u13 u14 u15 u16 u17 u18 u19 u20 u21 u22 u23 u24 u25 u26 u27 u28 u29 u30 u31 u32 u33 u34 u35 u36 u37 u38 u39 u40 u41 u42 u43 u44 u45 u46 u47 u48 u49 u50 u51 : Value), a = { tmps := #[.slice a0 ss.length c0, .int .i64 n, undef, undef, .slice none 0 0, .int .i64 0, vr, .int .i64 met, .int .i64 last, u9, u10, u11, u12, u13, u14, u15, u16, u17, u18, u19, u20, u21, u22, u23, u24, u25, u26, u27, u28, u29, u30, u31, u32, u33, u34, u35, u36, u37, u38, u39, u40, u41, u42, u43, u44, u45, u46, u47, u48, u49, u50, u51], defers := [] }
set_option maxRecDepth 100000 in
set_option maxHeartbeats 4000000 in
theorem walkedRows_any (w : World) (v : Value) (ss : List (List Int)) (n : Int) (h : RdL w v ss) (hsl : ss.length ≤ 1048576) (hs : ∀ i, i < ss.length → (ss.getD i []).Pairwise (· < ·) ∧ (ss.getD i []).length ≤ 1048576) (hE : (allS ss []).length ≤ 1000000000000000000) :
    Calls Try.prog 39 #[v, .int .i64 n] w fun e w' => ∃ v', e = .returned (.tuple #[v', .int .i64 (wcB (allS ss []) n)]) ∧ Own w' w.heap.size v' (wrB (allS ss []) n) ∧ Keep w w' := by
  have hL := h
  obtain ⟨a0, c0, rfl, -⟩ := id h
  have hown0 : Own (w.alloc (.cells #[] 2)) w.heap.size (.slice (some ⟨w.heap.size, 0, none⟩) 0 0) [] := World.ownsRow_lit w #[] 0 (Nat.le_refl _) (by decide) rfl
  have K0 : Keep w (w.alloc (.cells #[] 2)) := (Keep.refl w).alloc _
  obtain ⟨i0, hi, hz0, hz1, hz2⟩ := info_parts Try.infoI
  have hS := Lib.hid hs
  clear h hs
  have W0 := Wk.start ss n
  go_enter Try.func39, Try.ntmps39
  go_wp2
  refine wp_scope_two (atBack w a0 c0 ss n) (atOn w a0 c0 ss n) rfl rfl ?pass0 ?pass1 ?first
  case pass0 =>
    rintro m a wr ⟨rows, vr, met, last, hm, hW, hO, hK, u9, u10, u11, u12, u13, u14, u15, u16, u17, u18, u19, u20, u21, u22, u23, u24, u25, u26, u27, u28, u29, u30, u31, u32, u33, u34, u35, u36, u37, u38, u39, u40, u41, u42, u43, u44, u45, u46, u47, u48, u49, u50, u51, rfl⟩
    obtain ⟨ar, cr, rfl, -⟩ := id hO.rd
    have HM0 := Lib.hid hm
    have RS := hL
    clear hown0 K0 W0 hm
    by_cases h0 : rows.length = 0
    · have hr0 : rows = [] := List.eq_nil_of_length_eq_zero h0
      have hb0 : ((rows.length : Int) == 0) = true := by simp [h0]
      have HA : Hid (wcB (allS ss []) n = (met : Int) ∧ wrB (allS ss []) n = rows) := Lib.hid (by rw [hr0]; exact hW.nil (by rw [hr0]; rfl))
      clear h0 hr0 hW hS RS hL
      go_wp2
      rw [below2_ret]
      go_ret2
      exact ⟨.slice ar rows.length cr, by rw [HA.out.1]; rfl, by rw [HA.out.2]; exact hO, hK⟩
    · obtain ⟨r', x, hrx⟩ : ∃ r' x, rows = r' ++ [x] := ⟨rows.dropLast, rows.getLast (fun e => h0 (by rw [e]; rfl)), (List.dropLast_concat_getLast _).symm⟩
      subst hrx
      have hlen : (r' ++ [x]).length = r'.length + 1 := by simp
      have HC : Hid (backT ss (r' ++ [x]) (r' ++ [x]).length = comeT ss r' x) := Lib.hid (back_snoc ss r' x)
      have hb0 : (((r'.length + 1 : Nat) : Int) == 0) = false := by simp; omega
      have hW' := hW.back HC.out
      have HM : Hid (2 * (comeT ss r' x).length < m) := Lib.hid (by rw [← HC.out]; have := HM0.out; omega)
      have hrl := hW'.len
      obtain ⟨g, hg, hO', hcell, hcap⟩ := hO.short
      subst hg
      have i1 : IntKind.i64.wrap (((r'.length + 1 : Nat) : Int) - 1) = (r'.length : Int) := by
        have : ((r'.length + 1 : Nat) : Int) - 1 = (r'.length : Int) := by omega
        rw [this]
        exact wrap_small (by omega)
      have i2 : (0 : Int) ≤ (r'.length : Int) := Int.natCast_nonneg _
      have i3 : (r'.length : Int) < ((r'.length + 1 : Nat) : Int) := by omega
      have i4 : (r'.length : Int) ≤ (cr : Int) := by omega
      rw [hlen]
      clear h0 hW hS RS hL hO HC hlen
      go_wp2
      go_step3
      refine below2_to1 ?_
      exact ⟨_, HM.out, r', _, met, x, rfl, hW', hO', hK, _, _, _, _, _, _, _, _, _, _, _, _, _, _, _, _, _, _, _, _, _, _, _, _, _, _, _, _, _, _, _, _, _, _, _, _, _, _, _, _, _, _, _, rfl⟩

  case pass1 =>
    intro m pass0
    rintro a wr ⟨rows, vr, met, last, hm, hW, hO, hK, u9, u10, u11, u12, u13, u14, u15, u16, u17, u18, u19, u20, u21, u22, u23, u24, u25, u26, u27, u28, u29, u30, u31, u32, u33, u34, u35, u36, u37, u38, u39, u40, u41, u42, u43, u44, u45, u46, u47, u48, u49, u50, u51, rfl⟩
    obtain ⟨ar, cr, rfl, -⟩ := id hO.rd
    have HM0 := Lib.hid hm
    have PB := Lib.hid pass0
    clear hown0 K0 W0 hm pass0
    have hwl := hW.len
    by_cases hfull : rows.length = ss.length
    · have HF : Hid (comeT ss rows last = some rows :: backT ss rows rows.length) := Lib.hid (come_full hfull)
      have hb1 : ((rows.length : Int) == (ss.length : Int)) = true := by simp [hfull]
      have hb1' : ((ss.length : Int) == (rows.length : Int)) = true := by simp [hfull]
      clear hfull
      by_cases hmn : (met : Int) = n
      · have HA : Hid (wcB (allS ss []) n = (met : Int) ∧ wrB (allS ss []) n = rows) := Lib.hid (hW.hit HF.out hmn)
        have hb2 : ((met : Int) == n) = true := by simp [hmn]
        clear hmn hW hS hL PB hwl
        go_wp2
        rw [below2_ret]
        go_ret2
        exact ⟨.slice ar rows.length cr, by rw [HA.out.1]; rfl, by rw [HA.out.2]; exact hO, hK⟩
      · have hW2 := hW.pass HF.out hmn
        have hb2 : ((met : Int) == n) = false := by simp [hmn]
        have htop := hW2.top
        have i1 : IntKind.i64.wrap ((met : Int) + 1) = ((met + 1 : Nat) : Int) := by
          have : (met : Int) + 1 = ((met + 1 : Nat) : Int) := by omega
          rw [this]
          exact wrap_small (by omega)
        have HM : Hid (2 * (backT ss rows rows.length).length + 1 < m) := Lib.hid (by rw [HM0.out, HF.out, List.length_cons]; omega)
        clear hmn hW hS hL PB hwl htop
        go_wp2
        go_step3
        refine below2_to0 ?_
        exact ⟨_, HM.out, rows, _, met + 1, last, rfl, hW2, hO, hK, _, _, _, _, _, _, _, _, _, _, _, _, _, _, _, _, _, _, _, _, _, _, _, _, _, _, _, _, _, _, _, _, _, _, _, _, _, _, _, _, _, _, _, rfl⟩
    · have hlt : rows.length < ss.length := by omega
      have hb1 : ((rows.length : Int) == (ss.length : Int)) = false := by simp; omega
      have RS := hL.keep hK
      obtain ⟨a', c', he', RS⟩ := RS
      simp only [Value.slice.injEq, true_and] at he'
      obtain ⟨rfl, rfl⟩ := he'
      rcases RS with h0 | ⟨b, o, rfl, hb, hc⟩
      · exfalso; rw [h0] at hlt; simp at hlt
      obtain ⟨vi, d1, r2⟩ := hc rows.length hlt
      obtain ⟨hs1, hs2⟩ := hS.out rows.length hlt
      have j1 : (0 : Int) ≤ (rows.length : Int) := Int.natCast_nonneg _
      have j2 : (rows.length : Int) < (ss.length : Int) := by omega
      have C := nextFor_any wr vi _ (ss.getD rows.length []) rows last r2 hO.rd hs2 (by omega)
      obtain ⟨az, cz, hvi, -⟩ := id r2
      have hsz := hK.size
      rcases hnx : nextL (ss.getD rows.length []) rows last with _ | ⟨x, t⟩
      · have HF : Hid (comeT ss rows last = none :: backT ss rows rows.length) := Lib.hid (come_none hlt hnx)
        have hnb : nextB (ss.getD rows.length []) rows last = -1 := by unfold nextB; rw [hnx]; rfl
        rw [hnb] at C
        have hW2 := hW.fail HF.out (last' := -1) (by decide)
        have HM : Hid (2 * (backT ss rows rows.length).length + 1 < m) := Lib.hid (by rw [HM0.out, HF.out, List.length_cons]; omega)
        have hrb : ((-1 : Int) != -1) = false := by decide
        clear hc hs1 hs2 hnx hnb hS hL hW hfull r2 hb hwl
        generalize (ss.getD rows.length []).length = sl at hvi
        subst hvi
        go_wp2_with fail
        refine C.mono ?_
        rintro e w5 ⟨rfl, rfl⟩
        clear C
        go_wp2
        go_step3
        simp only [Exit.then]
        rename_i hkk
        apply hkk
        exact PB.out _ _ _ HM.out ⟨rows, _, met, -1, rfl, hW2, hO, hK, _, _, _, _, _, _, _, _, _, _, _, _, _, _, _, _, _, _, _, _, _, _, _, _, _, _, _, _, _, _, _, _, _, _, _, _, _, _, _, _, _, _, _, rfl⟩
      · obtain ⟨-, hx1, -⟩ := next_step hs1 hnx
        have hx0 : 0 ≤ x := by have := hW.lst; omega
        have HF : Hid (comeT ss rows last = none :: comeT ss (rows ++ [x]) (-1)) := Lib.hid (come_give hlt hs1 hnx)
        have hnb : nextB (ss.getD rows.length []) rows last = x := by unfold nextB; rw [hnx]; rfl
        rw [hnb] at C
        have hW2 := hW.give HF.out hx0 hlt
        have HM : Hid (2 * (comeT ss (rows ++ [x]) (-1)).length < m) := Lib.hid (by rw [HM0.out, HF.out, List.length_cons]; omega)
        have hrb : (x != -1) = true := by simp; omega
        clear hc hs1 hs2 hnx hnb hS hL hW hfull r2 hb PB hx1
        generalize (ss.getD rows.length []).length = sl at hvi
        subst hvi
        go_wp2_with fail
        refine C.mono ?_
        rintro e w5 ⟨rfl, rfl⟩
        clear C
        go_wp2_with (at_builtin; refine wpList_append_own _ rfl _ _ 24 rfl w.heap.size 2 i0 (.int .i64 0) 1 8 Try.underlying24 hi hz0 hz1 hz2 rfl (by decide) _ _ _ rfl (World.ownsRow.alloc hO _) ⟨_, 0, none⟩ 1 1 [.int .i64 x] rfl rfl ?c1 ?c2 ?c3 ?c4 ?c5 ?_)
        case c1 =>
          intro j u hj
          match j, hj with
          | 0, hj => simp at hj; subst hj; simp [Addr.add]
        case c2 => intro u hu; simp at hu; subst hu; rfl
        case c3 => unfold maxLen; omega
        case c4 => omega
        case c5 => simp; omega
        intro v' w2 hown' hgrow _
        have hK2 : Keep w w2 := (hK.alloc _).grown hgrow hO.ge
        have hO2 := own_hit hown'
        clear hgrow hown' hO hK
        go_wp2
        go_step3
        refine below2_to1 ?_
        exact ⟨_, HM.out, rows ++ [x], v', met, -1, rfl, hW2, hO2, hK2, _, _, _, _, _, _, _, _, _, _, _, _, _, _, _, _, _, _, _, _, _, _, _, _, _, _, _, _, _, _, _, _, _, _, _, _, _, _, _, _, _, _, _, rfl⟩
  case first =>
    intro P1
    have PB := Lib.hid P1
    clear P1
    go_wp2
    go_step3
    simp only [Exit.then]
    rename_i hkk
    apply hkk
    refine PB.out _ _ _ ⟨[], _, 0, -1, rfl, W0, hown0, K0, _, _, _, _, _, _, _, _, _, _, _, _, _, _, _, _, _, _, _, _, _, _, _, _, _, _, _, _, _, _, _, _, _, _, _, _, _, _, _, _, _, _, _, rfl⟩
end Go.Proofs.Ytgolhjmbloiakab

/- What the walk over the seats finds is just all rows, in their order; whoever has a seat that he may have, and no other, has right rows. -/
namespace Go.Proofs.Ytgolhjmbloiakab

theorem all_app : ∀ (s1 s2 : List (List Int)) (a : List Int), allS (s1 ++ s2) a = (allS s1 a).flatMap (allS s2)
  | [], s2, a => by simp [allS]
  | s :: r, s2, a => by
    rw [List.cons_append, allS, allS, List.flatMap_assoc]
    congr 1
    funext x
    exact all_app r s2 _
theorem flat_congr {α β : Type} {l : List α} {f g : α → List β} (h : ∀ x ∈ l, f x = g x) : l.flatMap f = l.flatMap g := by
  induction l with
  | nil => rfl
  | cons x r ih => rw [List.flatMap_cons, List.flatMap_cons, h x (by simp), ih (fun y hy => h y (by simp [hy]))]
theorem range_flat {β : Type} (b : Nat) (hb : 0 < b) (g : Nat → Nat → β) : ∀ a : Nat, (List.range a).flatMap (fun i => (List.range b).map (g i)) = (List.range (a * b)).map (fun n => g (n / b) (n % b))
  | 0 => by simp
  | a + 1 => by
    rw [List.range_succ, List.flatMap_append, range_flat b hb g a, Nat.succ_mul, List.range_add, List.map_append, List.map_map]
    congr 1
    simp only [List.flatMap_cons, List.flatMap_nil, List.append_nil]
    refine List.map_congr_left (fun j hj => ?_)
    rw [List.mem_range] at hj
    have h1 : (a * b + j) / b = a := by rw [Nat.mul_comm, Nat.mul_add_div hb, Nat.div_eq_of_lt hj]; omega
    have h2 : (a * b + j) % b = j := by rw [Nat.mul_comm, Nat.mul_add_mod, Nat.mod_eq_of_lt hj]
    simp only [Function.comp, h1, h2]
def facN (m : Nat) : Nat := (fac m).toNat
theorem facN_cast (m : Nat) : ((facN m : Nat) : Int) = fac m := by
  have := fac_pos m
  unfold facN
  omega
theorem facN_pos (m : Nat) : 0 < facN m := by
  have := fac_pos m
  unfold facN
  omega
theorem facN_more (m : Nat) : facN (m + 1) = (m + 1) * facN m := by
  have h := facN_cast (m + 1)
  rw [fac, ← facN_cast m] at h
  have : ((facN m : Nat) : Int) * ((m : Int) + 1) = (((m + 1) * facN m : Nat) : Int) := by
    rw [Int.natCast_mul, Int.mul_comm]; rfl
  rw [this] at h
  exact Int.ofNat.inj h
theorem filter_erase : ∀ (l : List Int) (k : Nat), l.Nodup → k < l.length → l.filter (fun y => !(l.getD k 0 == y)) = l.eraseIdx k
  | [], k, _, h => by simp at h
  | x :: r, 0, hn, _ => by
    rw [List.nodup_cons] at hn
    rw [List.getD_cons_zero, List.eraseIdx_cons_zero, List.filter_cons, if_neg (by simp), List.filter_eq_self]
    intro y hy
    have : x ≠ y := fun e => hn.1 (by rw [e]; exact hy)
    simpa using this
  | x :: r, k + 1, hn, h => by
    rw [List.nodup_cons] at hn
    have hk : k < r.length := by simpa using h
    have hm : r.getD k 0 ∈ r := by
      rw [List.getD_eq_getElem?_getD, List.getElem?_eq_getElem hk]
      exact List.getElem_mem hk
    have hne : r.getD k 0 ≠ x := fun e => hn.1 (by rw [← e]; exact hm)
    rw [List.getD_cons_succ, List.eraseIdx_cons_succ, List.filter_cons, if_pos (by simpa using hne), filter_erase r k hn.2 hk]
theorem isB_snoc (a : List Int) (x y : Int) : isB (a ++ [x]) y = (isB a y || (x == y)) := by
  unfold isB
  rw [List.any_append]
  simp
theorem next_snoc (l a : List Int) (x : Int) : nextL l (a ++ [x]) (-1) = (nextL l a (-1)).filter (fun y => !(x == y)) := by
  unfold nextL
  rw [List.filter_filter]
  refine List.filter_congr (fun y _ => ?_)
  rw [isB_snoc]
  cases isB a y <;> cases (x == y) <;> simp
theorem list_range (l : List Int) : l = (List.range l.length).map (fun k => l.getD k 0) := by
  refine List.ext_getElem (by simp) (fun i h1 h2 => ?_)
  simp [List.getElem?_eq_getElem h1]
/-- All orders of those that are left. -/
theorem ord_all : ∀ (m : Nat) (l a : List Int), (nextL l a (-1)).Nodup → (nextL l a (-1)).length = m → allS (List.replicate m l) a = (List.range (facN m)).map (fun n : Nat => a ++ ordL m (nextL l a (-1)) (n : Int))
  | 0, l, a, _, _ => by
    have : facN 0 = 1 := by decide
    rw [this]
    simp [allS, ordL]
  | m + 1, l, a, hn, hl => by
    rw [List.replicate_succ, allS]
    have e1 : (nextL l a (-1)).flatMap (fun x => allS (List.replicate m l) (a ++ [x])) = (List.range (m + 1)).flatMap (fun k => (List.range (facN m)).map (fun n : Nat => a ++ [(nextL l a (-1)).getD k 0] ++ ordL m ((nextL l a (-1)).eraseIdx k) (n : Int))) := by
      have e0 := list_range (nextL l a (-1))
      rw [hl] at e0
      conv => lhs; rw [e0, List.flatMap_map]
      refine flat_congr (fun k hk => ?_)
      rw [List.mem_range] at hk
      have hx := next_snoc l a ((nextL l a (-1)).getD k 0)
      rw [filter_erase _ k hn (by omega)] at hx
      have ih := ord_all m l (a ++ [(nextL l a (-1)).getD k 0]) (by rw [hx]; exact erase_nodup hn k) (by rw [hx]; exact erase_len hl hk)
      rw [hx] at ih
      exact ih
    rw [e1, range_flat _ (facN_pos m) (fun k n => a ++ [(nextL l a (-1)).getD k 0] ++ ordL m ((nextL l a (-1)).eraseIdx k) (n : Int)), facN_more]
    refine List.map_congr_left (fun n _ => ?_)
    rw [ordL, ← facN_cast m, ← Int.natCast_ediv, ← Int.natCast_emod, Int.toNat_natCast, List.append_assoc]
    rfl
theorem next_all {l a : List Int} (h0 : ∀ x ∈ l, 0 ≤ x) (hd : ∀ x ∈ l, isB a x = false) : nextL l a (-1) = l := by
  unfold nextL
  rw [List.filter_eq_self]
  intro x hx
  have := h0 x hx
  rw [hd x hx]
  simp
  omega
theorem isB_false {l : List Int} {x : Int} : isB l x = false ↔ x ∉ l := by
  constructor
  · intro h hm
    rw [mem_isB hm] at h
    cases h
  · intro h
    cases hb : isB l x
    · rfl
    · exact absurd (isB_mem hb) h
/-- All orders of the writes at one place. -/
theorem place_all {l a : List Int} (hl : 0 < l.length) (hn : l.Nodup) (h0 : ∀ x ∈ l, 0 ≤ x) (hd : ∀ x ∈ l, x ∉ a) : allS (seatP l) a = (List.range (facN (l.length - 1))).map (fun n : Nat => a ++ partL l (n : Int)) := by
  match l, hl with
  | x :: r, _ =>
    rw [List.nodup_cons] at hn
    have e1 : nextL [x] a (-1) = [x] := next_all (fun y hy => h0 y (by simp at hy; simp [hy])) (fun y hy => isB_false.2 (hd y (by simp at hy; simp [hy])))
    have e2 : nextL r (a ++ [x]) (-1) = r := next_all (fun y hy => h0 y (by simp [hy])) (fun y hy => isB_false.2 (by
      rw [List.mem_append]
      rintro (h | h)
      · exact hd y (by simp [hy]) h
      · rw [List.mem_singleton] at h
        exact hn.1 (by rw [← h]; exact hy)))
    have e3 := ord_all r.length r (a ++ [x]) (by rw [e2]; exact hn.2) (by rw [e2])
    rw [e2] at e3
    rw [seatP_cons, allS, e1, List.flatMap_cons, List.flatMap_nil, List.append_nil, e3]
    simp only [List.length_cons, Nat.add_sub_cancel]
    refine List.map_congr_left (fun n _ => ?_)
    rw [partL, List.append_assoc]
    simp
theorem part_mem {l : List Int} {n : Nat} (hl : 0 < l.length) (h : n < facN (l.length - 1)) {x : Int} : x ∈ partL l (n : Int) ↔ x ∈ l := by
  have hc := facN_cast (l.length - 1)
  exact (part_perm hl (Int.natCast_nonneg _) (by omega)).mem_iff
theorem rcnt_nat (es : List Ev) : ((facN ((plcW es 0).length - 1) * facN ((plcW es 1).length - 1) * facN ((plcW es 2).length - 1) : Nat) : Int) = rcntL es := by
  unfold rcntL
  rw [Int.natCast_mul, Int.natCast_mul, facN_cast, facN_cast, facN_cast]
/-- All rows. -/
theorem all_rows {dss : List (List Dd)} (hb : workB dss = true) : allS (seatsL (eventsB dss)) [] = (List.range (rcntL (eventsB dss)).toNat).map (fun n : Nat => ratL (eventsB dss) (n : Int)) := by
  obtain ⟨p0, -⟩ := plcW_first hb 0 (by decide)
  obtain ⟨p1, -⟩ := plcW_first hb 1 (by decide)
  obtain ⟨p2, -⟩ := plcW_first hb 2 (by decide)
  have h12 := eventsB_12 dss
  generalize eventsB dss = es at *
  have dis : ∀ {p q : Nat}, p ≠ q → ∀ a ∈ plcW es p, a ∉ plcW es q := fun {p q} hpq a ha hb => by
    have h1 := (plcW_mem h12 ha).2
    have h2 := (plcW_mem h12 hb).2
    rw [h2] at h1
    omega
  have e0 := place_all (a := []) p0 (plcW_nodup h12 0) (fun x hx => (plcW_mem h12 hx).1.1) (fun x _ => by simp)
  unfold seatsL
  rw [all_app, all_app, e0]
  have e1 : ((List.range (facN ((plcW es 0).length - 1))).map (fun n : Nat => [] ++ partL (plcW es 0) (n : Int))).flatMap (allS (seatP (plcW es 1))) = (List.range (facN ((plcW es 0).length - 1) * facN ((plcW es 1).length - 1))).map (fun n : Nat => partL (plcW es 0) ((n / facN ((plcW es 1).length - 1) : Nat) : Int) ++ partL (plcW es 1) ((n % facN ((plcW es 1).length - 1) : Nat) : Int)) := by
    rw [List.flatMap_map, ← range_flat _ (facN_pos _) (fun i j => partL (plcW es 0) ((i : Nat) : Int) ++ partL (plcW es 1) ((j : Nat) : Int))]
    refine flat_congr (fun n hn => ?_)
    rw [List.mem_range] at hn
    rw [List.nil_append]
    exact place_all p1 (plcW_nodup h12 1) (fun x hx => (plcW_mem h12 hx).1.1) (fun x hx h => dis (by decide) x hx ((part_mem p0 hn).1 h))
  rw [e1, List.flatMap_map]
  have e2 : (List.range (facN ((plcW es 0).length - 1) * facN ((plcW es 1).length - 1))).flatMap (fun n : Nat => allS (seatP (plcW es 2)) (partL (plcW es 0) ((n / facN ((plcW es 1).length - 1) : Nat) : Int) ++ partL (plcW es 1) ((n % facN ((plcW es 1).length - 1) : Nat) : Int))) =
      (List.range (facN ((plcW es 0).length - 1) * facN ((plcW es 1).length - 1))).flatMap (fun n : Nat => (List.range (facN ((plcW es 2).length - 1))).map (fun m : Nat => partL (plcW es 0) ((n / facN ((plcW es 1).length - 1) : Nat) : Int) ++ partL (plcW es 1) ((n % facN ((plcW es 1).length - 1) : Nat) : Int) ++ partL (plcW es 2) (m : Int))) := by
    refine flat_congr (fun n hn => ?_)
    rw [List.mem_range] at hn
    refine place_all p2 (plcW_nodup h12 2) (fun x hx => (plcW_mem h12 hx).1.1) (fun x hx h => ?_)
    rcases List.mem_append.1 h with h | h
    · exact dis (by decide) x hx ((part_mem p0 (Nat.div_lt_of_lt_mul (by rw [Nat.mul_comm]; exact hn))).1 h)
    · exact dis (by decide) x hx ((part_mem p1 (Nat.mod_lt _ (facN_pos _))).1 h)
  rw [e2, range_flat _ (facN_pos _) (fun n m => partL (plcW es 0) ((n / facN ((plcW es 1).length - 1) : Nat) : Int) ++ partL (plcW es 1) ((n % facN ((plcW es 1).length - 1) : Nat) : Int) ++ partL (plcW es 2) ((m : Nat) : Int))]
  rw [← rcnt_nat, Int.toNat_natCast]
  refine List.map_congr_left (fun n hn => ?_)
  rw [List.mem_range] at hn
  have hr := rat_parts (es := es) (n := (n : Int)) (Int.natCast_nonneg _) (by rw [← rcnt_nat]; exact Int.ofNat_lt.2 hn)
  unfold ratL
  rw [Int.emod_eq_of_lt hr.2.2.1 hr.2.2.2, ← facN_cast, ← facN_cast, ← Int.natCast_ediv, ← Int.natCast_ediv, ← Int.natCast_emod, ← Int.natCast_emod]
theorem rcnt_pos (es : List Ev) : 0 < rcntL es := Int.mul_pos (Int.mul_pos (fac_pos _) (fac_pos _)) (fac_pos _)
theorem fac_mono9 {m : Nat} (h : m ≤ 9) : fac m ≤ 362880 := by
  have : ∀ j : Nat, j ≤ 9 → fac j ≤ 362880 := by decide +kernel
  exact this m h
theorem plcW_9 {es : List Ev} (hx : es.length ≤ 9) (p : Nat) : (plcW es p).length ≤ 9 := by
  unfold plcW idxB
  rw [if_pos (by omega)]
  have := idxK_len (toE (p : Int)) es es.length
  omega
/-- What there is: as a list, and how many. -/
theorem all_none {dss : List (List Dd)} (hb : workB dss = false) : allS (seatsL (eventsB dss)) [] = [[]] := by
  have : eventsB dss = [] := by rw [eventsB, hb]; rfl
  rw [this]
  rfl
end Go.Proofs.Ytgolhjmbloiakab

/- Plain mathematics of the web of rows: from each write to all behind it at its place. -/
namespace Go.Proofs.Ytgolhjmbloiakab
open Go.RowKit

/-- Are the i-th and the k-th of the list at one place, the k-th behind? -/
def rwP (es : List Ev) (rows : List Int) (i k : Nat) : Bool := decide (i < k) && (plE es (rows.getD i 0) == plE es (rows.getD k 0))
def rwIn (es : List Ev) (rows : List Int) (i : Nat) (st : List Int) : Nat → List Int
  | 0 => st
  | k + 1 => if rwP es rows i k = true then (rwIn es rows i st k).set (rows.getD i 0).toNat (gAdd ((rwIn es rows i st k).getD (rows.getD i 0).toNat 0) (rows.getD k 0)) else rwIn es rows i st k
def rwAll (es : List Ev) (rows : List Int) : Nat → List Int
  | 0 => List.replicate es.length 0
  | i + 1 => rwIn es rows i (rwAll es rows i) rows.length
def rwL (es : List Ev) (rows : List Int) : List Int := rwAll es rows rows.length
def rwB (dss : List (List Dd)) (rows : List Int) : List Int := if rowsB dss rows = true then rwL (eventsB dss) rows else []
theorem rwIn_hit {es : List Ev} {rows : List Int} {i k : Nat} (st : List Int) (h : rwP es rows i k = true) : rwIn es rows i st (k + 1) = (rwIn es rows i st k).set (rows.getD i 0).toNat (gAdd ((rwIn es rows i st k).getD (rows.getD i 0).toNat 0) (rows.getD k 0)) := if_pos h
theorem rwIn_miss {es : List Ev} {rows : List Int} {i k : Nat} (st : List Int) (h : rwP es rows i k = false) : rwIn es rows i st (k + 1) = rwIn es rows i st k := if_neg (by simp [h])
theorem rwIn_none {es : List Ev} {rows : List Int} {i : Nat} (st : List Int) : ∀ k : Nat, (∀ j, j < k → rwP es rows i j = false) → rwIn es rows i st k = st
  | 0, _ => rfl
  | k + 1, h => by rw [rwIn_miss st (h k (by omega))]; exact rwIn_none st k (fun j hj => h j (by omega))
theorem rwP_up {es : List Ev} {rows : List Int} {i j : Nat} (h : j ≤ i) : rwP es rows i j = false := by unfold rwP; rw [decide_eq_false (show ¬ i < j by omega)]; rfl
theorem web_rwIn {es : List Ev} {rows : List Int} {n i : Nat} {st : List Int} (hr : ∀ j, j < rows.length → 0 ≤ rows.getD j 0 ∧ rows.getD j 0 < (n : Int)) (hi : i < rows.length) (hst : Web n st) : ∀ m : Nat, m ≤ rows.length →
    Web n (rwIn es rows i st m) ∧ ∀ a b : Nat, a < n → (line (rwIn es rows i st m) a b = true ↔ line st a b = true ∨ ∃ q, q < m ∧ rwP es rows i q = true ∧ rows.getD i 0 = (a : Int) ∧ rows.getD q 0 = (b : Int))
  | 0, _ => ⟨hst, fun a b _ => by simp [rwIn]⟩
  | m + 1, hm => by
    obtain ⟨h1, h2⟩ := web_rwIn (es := es) hr hi hst m (by omega)
    cases hp : rwP es rows i m with
    | false =>
      rw [rwIn_miss st hp]
      refine ⟨h1, fun a b ha => ?_⟩
      rw [h2 a b ha]
      constructor
      · rintro (h | ⟨q, hq, r⟩)
        · exact .inl h
        · exact .inr ⟨q, by omega, r⟩
      · rintro (h | ⟨q, hq, r⟩)
        · exact .inl h
        · by_cases e : q = m
          · subst e; rw [hp] at r; cases r.1
          · exact .inr ⟨q, by omega, r⟩
    | true =>
      obtain ⟨a0, ha0⟩ := Int.eq_ofNat_of_zero_le (hr i hi).1
      obtain ⟨b0, hb0⟩ := Int.eq_ofNat_of_zero_le (hr m (by omega)).1
      have ha : a0 < n := by have := (hr i hi).2; omega
      have hb : b0 < n := by have := (hr m (by omega)).2; omega
      have e0 : rwIn es rows i st (m + 1) = (rwIn es rows i st m).set a0 (gAdd ((rwIn es rows i st m).getD a0 0) (b0 : Int)) := by rw [rwIn_hit st hp, ha0, hb0, Int.toNat_natCast]
      rw [e0]
      have hadd := ok_add (h1.2.2 a0 ha) hb
      refine ⟨h1.set hadd.1, fun a b haa => ?_⟩
      have e1 := h2 a b haa
      unfold line at e1 ⊢
      rw [getD_set _ _ _ _ (by rw [h1.2.1]; exact ha)]
      by_cases e : a0 = a
      · subst e
        simp only [if_true]
        rw [hadd.2 b, Bool.or_eq_true, e1, decide_eq_true_eq]
        constructor
        · rintro ((h | ⟨q, hq, r1, r2, r3⟩) | h)
          · exact .inl h
          · exact .inr ⟨q, by omega, r1, r2, r3⟩
          · exact .inr ⟨m, by omega, hp, ha0, by rw [hb0, h]⟩
        · rintro (h | ⟨q, hq, r1, r2, r3⟩)
          · exact .inl (.inl h)
          · by_cases eq : q = m
            · subst eq
              right
              rw [hb0] at r3
              omega
            · exact .inl (.inr ⟨q, by omega, r1, r2, r3⟩)
      · simp only [e, if_false]
        rw [e1]
        constructor
        · rintro (h | ⟨q, hq, r1, r2, r3⟩)
          · exact .inl h
          · exact .inr ⟨q, by omega, r1, r2, r3⟩
        · rintro (h | ⟨q, hq, r1, r2, r3⟩)
          · exact .inl h
          · exfalso; rw [ha0] at r2; omega
theorem web_rwAll {es : List Ev} {rows : List Int} (hx : es.length ≤ 12) (hr : ∀ j, j < rows.length → 0 ≤ rows.getD j 0 ∧ rows.getD j 0 < (es.length : Int)) : ∀ m : Nat, m ≤ rows.length →
    Web es.length (rwAll es rows m) ∧ ∀ a b : Nat, a < es.length → (line (rwAll es rows m) a b = true ↔ ∃ i q, i < m ∧ q < rows.length ∧ rwP es rows i q = true ∧ rows.getD i 0 = (a : Int) ∧ rows.getD q 0 = (b : Int))
  | 0, _ => ⟨Web.zero hx, fun a b _ => by unfold rwAll; rw [line_zero]; simp⟩
  | m + 1, hm => by
    obtain ⟨h1, h2⟩ := web_rwAll hx hr m (by omega)
    obtain ⟨g1, g2⟩ := web_rwIn (es := es) hr (show m < rows.length by omega) h1 rows.length (Nat.le_refl _)
    refine ⟨g1, fun a b ha => ?_⟩
    show line (rwIn es rows m (rwAll es rows m) rows.length) a b = true ↔ _
    rw [g2 a b ha, h2 a b ha]
    constructor
    · rintro (⟨i, q, hi, r⟩ | ⟨q, hq, r⟩)
      · exact ⟨i, q, by omega, r⟩
      · exact ⟨m, q, by omega, hq, r⟩
    · rintro ⟨i, q, hi, hq, r⟩
      by_cases e : i = m
      · subst e; exact .inr ⟨q, hq, r⟩
      · exact .inl ⟨i, q, by omega, hq, r⟩
/-- Of rows that are right: a line goes just from a write to one behind it at its place. -/
theorem row_cell {es : List Ev} {rows : List Int} (hx : es.length ≤ 12) (h : rowsL es rows = true) {i k : Nat} (hi : i < rows.length) (hk : k < rows.length) :
    line (rwL es rows) (rows.getD i 0).toNat (rows.getD k 0).toNat = rwP es rows i k := by
  obtain ⟨hn, _, hr⟩ := rows_use hx h
  obtain ⟨_, h2⟩ := web_rwAll hx hr rows.length (Nat.le_refl _)
  obtain ⟨a, ha⟩ := Int.eq_ofNat_of_zero_le (hr i hi).1
  obtain ⟨b, hb⟩ := Int.eq_ofNat_of_zero_le (hr k hk).1
  have hal : a < es.length := by have := (hr i hi).2; omega
  rw [ha, hb, Int.toNat_natCast, Int.toNat_natCast]
  have e := h2 a b hal
  unfold rwL
  cases hp : rwP es rows i k with
  | true => exact e.2 ⟨i, k, hi, hk, hp, ha, hb⟩
  | false =>
    cases hl : line (rwAll es rows rows.length) a b with
    | false => rfl
    | true =>
      exfalso
      obtain ⟨i', k', hi', hk', hp', ha', hb'⟩ := e.1 hl
      have e1 := nodup_get hn hi' hi (by rw [ha', ha])
      have e2 := nodup_get hn hk' hk (by rw [hb', hb])
      subst e1 e2
      rw [hp] at hp'
      cases hp'
end Go.Proofs.Ytgolhjmbloiakab

/- Rows as the program asks for them (each seat by itself), and the lines of rows in the program's order: the same as the specification's. -/
namespace Go.Proofs.Ytgolhjmbloiakab
open Go.RowKit

/-- Have the first k of the list seats that they may have, none of them twice? -/
def sitK (ss : List (List Int)) (rows : List Int) : Nat → Bool
  | 0 => true
  | k + 1 => sitK ss rows k && (isB (ss.getD k []) (rows.getD k 0) && !isB (rows.take k) (rows.getD k 0))
theorem sitK_false {ss : List (List Int)} {rows : List Int} {k : Nat} (h : sitK ss rows k = false) : ∀ m : Nat, k ≤ m → sitK ss rows m = false
  | 0, hm => by obtain rfl : k = 0 := by omega
                exact h
  | m + 1, hm => by
    by_cases e : k = m + 1
    · subst e; exact h
    · rw [sitK, sitK_false h m (by omega)]; rfl
theorem sitK_iff {ss : List (List Int)} {rows : List Int} : ∀ k : Nat, sitK ss rows k = true ↔ ∀ i, i < k → rows.getD i 0 ∈ ss.getD i [] ∧ rows.getD i 0 ∉ rows.take i
  | 0 => by simp [sitK]
  | k + 1 => by
    rw [sitK, Bool.and_eq_true, sitK_iff k, Bool.and_eq_true, Bool.not_eq_true', isB_false]
    constructor
    · rintro ⟨h1, h2, h3⟩ i hi
      by_cases e : i = k
      · subst e; exact ⟨isB_mem h2, h3⟩
      · exact h1 i (by omega)
    · intro h
      exact ⟨fun i hi => h i (by omega), mem_isB (h k (by omega)).1, (h k (by omega)).2⟩
theorem getD_at {l : List Int} {i : Nat} (h : i < l.length) : l.getD i 0 = l[i] := by
  rw [List.getD_eq_getElem?_getD, List.getElem?_eq_getElem h]; rfl
theorem getD_in {l : List Int} {i : Nat} (h : i < l.length) : l.getD i 0 ∈ l := by
  rw [getD_at h]; exact List.getElem_mem h
theorem nodup_of_take {rows : List Int} (h : ∀ i, i < rows.length → rows.getD i 0 ∉ rows.take i) : rows.Nodup := by
  rw [List.nodup_iff_pairwise_ne, List.pairwise_iff_getElem]
  intro i j hi hj hij e
  refine h j hj ?_
  rw [getD_at hj, ← e]
  exact List.mem_take_iff_getElem.2 ⟨i, by omega, rfl⟩
theorem take_of_nodup {rows : List Int} (h : rows.Nodup) {i : Nat} (hi : i < rows.length) : rows.getD i 0 ∉ rows.take i := by
  intro hm
  obtain ⟨j, hj, e⟩ := List.mem_take_iff_getElem.1 hm
  rw [getD_at hi] at e
  have := (List.getElem_inj h).1 e
  omega
/-- One place. -/
theorem part_sits {rows l : List Int} {at0 p : Nat} (hn : rows.Nodup) (hl : l.Nodup) (h0 : 0 < l.length) (hf : l.getD 0 0 = (p : Int)) (hle : at0 + l.length ≤ rows.length) :
    okP rows at0 l p = true ↔ ∀ j, j < l.length → rows.getD (at0 + j) 0 ∈ seatAt l j := by
  have hpl : ((rows.drop at0).take l.length).length = l.length := by rw [List.length_take, List.length_drop]; omega
  have hpart : ∀ j, j < l.length → rows.getD (at0 + j) 0 ∈ (rows.drop at0).take l.length := fun j hj => by
    refine List.mem_take_iff_getElem.2 ⟨j, by rw [List.length_drop]; omega, ?_⟩
    rw [List.getElem_drop, getD_at (by omega)]
  have hpn : ((rows.drop at0).take l.length).Nodup := (hn.sublist (List.drop_sublist at0 rows)).sublist (List.take_sublist _ _)
  have htk : l.take 1 = [l.getD 0 0] := by
    match l, h0 with
    | x :: r, _ => simp
  have hcons : l = l.getD 0 0 :: l.drop 1 := by
    match l, h0 with
    | x :: r, _ => simp
  constructor
  · intro h j hj
    have hperm := (okP_perm hl h).2
    have hm := hperm.mem_iff.2 (hpart j hj)
    unfold okP at h
    simp only [Bool.and_eq_true, decide_eq_true_eq, beq_iff_eq] at h
    unfold seatAt
    by_cases e : j = 0
    · subst e
      rw [if_pos rfl, htk, hf, Nat.add_zero, h.1.2]
      simp
    · rw [if_neg e]
      rw [hcons] at hm
      rcases List.mem_cons.1 hm with hm | hm
      · exfalso
        rw [hf, ← h.1.2, getD_at (by omega), getD_at (by omega)] at hm
        have := (List.getElem_inj hn).1 hm
        omega
      · exact hm
  · intro h
    have hin : ∀ x ∈ (rows.drop at0).take l.length, x ∈ l := fun x hx => by
      obtain ⟨j, hj, e⟩ := List.mem_take_iff_getElem.1 hx
      have hj2 : j < l.length := by omega
      have hs := h j hj2
      rw [List.getElem_drop] at e
      rw [getD_at (by rw [List.length_drop] at hj; omega), e] at hs
      unfold seatAt at hs
      split at hs
      · exact List.mem_of_mem_take hs
      · exact List.mem_of_mem_drop hs
    have hperm := perm_of hpn hin (by omega)
    have hfirst : rows.getD at0 0 = (p : Int) := by
      have := h 0 h0
      rw [Nat.add_zero] at this
      unfold seatAt at this
      rw [if_pos rfl, htk, List.mem_singleton, hf] at this
      exact this
    unfold okP
    simp only [Bool.and_eq_true, decide_eq_true_eq, beq_iff_eq, List.all_eq_true]
    exact ⟨⟨hle, hfirst⟩, fun x hx => mem_isB (hperm.mem_iff.2 hx)⟩
theorem seatP_get {l : List Int} {j : Nat} (h : j < l.length) : (seatP l).getD j [] = seatAt l j := by
  unfold seatP seatK
  rw [List.getD_eq_getElem?_getD, List.getElem?_map, List.getElem?_range h]
  rfl
theorem seat_left {a b : List (List Int)} {i : Nat} (h : i < a.length) : (a ++ b).getD i [] = a.getD i [] := by
  rw [List.getD_eq_getElem?_getD, List.getElem?_append_left h, ← List.getD_eq_getElem?_getD]
theorem seat_right {a b : List (List Int)} {i n : Nat} (h : n = a.length) : (a ++ b).getD (n + i) [] = b.getD i [] := by
  subst h
  rw [List.getD_eq_getElem?_getD, List.getElem?_append_right (by omega), ← List.getD_eq_getElem?_getD]
  congr 1
  omega
theorem seats_len (es : List Ev) : (seatsL es).length = (plcW es 0).length + (plcW es 1).length + (plcW es 2).length := by
  unfold seatsL
  rw [List.length_append, List.length_append, seatP_len, seatP_len, seatP_len]
theorem seats_0 {es : List Ev} {j : Nat} (h : j < (plcW es 0).length) : (seatsL es).getD (0 + j) [] = seatAt (plcW es 0) j := by
  unfold seatsL
  rw [Nat.zero_add, seat_left (by rw [List.length_append, seatP_len]; omega), seat_left (by rw [seatP_len]; omega), seatP_get h]
theorem seats_1 {es : List Ev} {j : Nat} (h : j < (plcW es 1).length) : (seatsL es).getD ((plcW es 0).length + j) [] = seatAt (plcW es 1) j := by
  unfold seatsL
  rw [seat_left (by rw [List.length_append, seatP_len, seatP_len]; omega), seat_right (by rw [seatP_len]), seatP_get h]
theorem seats_2 {es : List Ev} {j : Nat} (h : j < (plcW es 2).length) : (seatsL es).getD ((plcW es 0).length + (plcW es 1).length + j) [] = seatAt (plcW es 2) j := by
  unfold seatsL
  rw [seat_right (by rw [List.length_append, seatP_len, seatP_len]), seatP_get h]
/-- Each seat by itself: the same. -/
theorem sit_same {dss : List (List Dd)} (hb : workB dss = true) (rows : List Int) : (decide (rows.length = (seatsL (eventsB dss)).length) && sitK (seatsL (eventsB dss)) rows rows.length) = rowsL (eventsB dss) rows := by
  obtain ⟨p0, f0⟩ := plcW_first hb 0 (by decide)
  obtain ⟨p1, f1⟩ := plcW_first hb 1 (by decide)
  obtain ⟨p2, f2⟩ := plcW_first hb 2 (by decide)
  have h12 := eventsB_12 dss
  generalize eventsB dss = es at *
  rw [Bool.eq_iff_iff, Bool.and_eq_true, decide_eq_true_eq, sitK_iff, seats_len]
  constructor
  · rintro ⟨hl, hs⟩
    have hn := nodup_of_take (fun i hi => (hs i hi).2)
    have o0 := (part_sits (at0 := 0) hn (plcW_nodup h12 0) p0 f0 (by omega)).2 (fun j hj => by rw [← seats_0 hj]; exact (hs _ (by omega)).1)
    have o1 := (part_sits (at0 := (plcW es 0).length) hn (plcW_nodup h12 1) p1 f1 (by omega)).2 (fun j hj => by rw [← seats_1 hj]; exact (hs _ (by omega)).1)
    have o2 := (part_sits (at0 := (plcW es 0).length + (plcW es 1).length) hn (plcW_nodup h12 2) p2 f2 (by omega)).2 (fun j hj => by rw [← seats_2 hj]; exact (hs _ (by omega)).1)
    unfold rowsL
    rw [o0, o1, o2]
    simp only [Bool.true_and, decide_eq_true_eq]
    omega
  · intro h
    have hn := (rows_use h12 h).1
    unfold rowsL at h
    simp only [Bool.and_eq_true, decide_eq_true_eq] at h
    obtain ⟨⟨⟨o0, o1⟩, o2⟩, hl⟩ := h
    refine ⟨by omega, fun i hi => ⟨?_, take_of_nodup hn hi⟩⟩
    have q0 := (part_sits (at0 := 0) hn (plcW_nodup h12 0) p0 f0 (by omega)).1 o0
    have q1 := (part_sits (at0 := (plcW es 0).length) hn (plcW_nodup h12 1) p1 f1 (by omega)).1 o1
    have q2 := (part_sits (at0 := (plcW es 0).length + (plcW es 1).length) hn (plcW_nodup h12 2) p2 f2 (by omega)).1 o2
    by_cases c0 : i < (plcW es 0).length
    · have := q0 i c0
      rw [← seats_0 c0, Nat.zero_add] at this
      exact this
    · by_cases c1 : i < (plcW es 0).length + (plcW es 1).length
      · obtain ⟨j, rfl⟩ : ∃ j, i = (plcW es 0).length + j := ⟨i - (plcW es 0).length, by omega⟩
        have hj : j < (plcW es 1).length := by omega
        have := q1 j hj
        rw [← seats_1 hj] at this
        exact this
      · obtain ⟨j, rfl⟩ : ∃ j, i = (plcW es 0).length + (plcW es 1).length + j := ⟨i - ((plcW es 0).length + (plcW es 1).length), by omega⟩
        have hj : j < (plcW es 2).length := by omega
        have := q2 j hj
        rw [← seats_2 hj] at this
        exact this
/-- The lines of rows as the program draws them: to each from all ahead of it. -/
def pwIn (es : List Ev) (rows : List Int) (i : Nat) (st : List Int) : Nat → List Int
  | 0 => st
  | k + 1 => if (plE es (rows.getD k 0) == plE es (rows.getD i 0)) = true then (pwIn es rows i st k).set (rows.getD k 0).toNat (gAdd ((pwIn es rows i st k).getD (rows.getD k 0).toNat 0) (rows.getD i 0)) else pwIn es rows i st k
def pwAll (es : List Ev) (rows : List Int) : Nat → List Int
  | 0 => List.replicate es.length 0
  | i + 1 => pwIn es rows i (pwAll es rows i) i
theorem web_pwIn {es : List Ev} {rows : List Int} {n i : Nat} {st : List Int} (hr : ∀ j, j < rows.length → 0 ≤ rows.getD j 0 ∧ rows.getD j 0 < (n : Int)) (hi : i < rows.length) (hst : Web n st) : ∀ m : Nat, m ≤ i →
    Web n (pwIn es rows i st m) ∧ ∀ a b : Nat, a < n → (line (pwIn es rows i st m) a b = true ↔ line st a b = true ∨ ∃ q, q < m ∧ plE es (rows.getD q 0) = plE es (rows.getD i 0) ∧ rows.getD q 0 = (a : Int) ∧ rows.getD i 0 = (b : Int))
  | 0, _ => ⟨hst, fun a b _ => by simp [pwIn]⟩
  | m + 1, hm => by
    obtain ⟨h1, h2⟩ := web_pwIn (es := es) hr hi hst m (by omega)
    by_cases hp : plE es (rows.getD m 0) = plE es (rows.getD i 0)
    · obtain ⟨a0, ha0⟩ := Int.eq_ofNat_of_zero_le (hr m (by omega)).1
      obtain ⟨b0, hb0⟩ := Int.eq_ofNat_of_zero_le (hr i hi).1
      have ha : a0 < n := by have := (hr m (by omega)).2; omega
      have hb : b0 < n := by have := (hr i hi).2; omega
      have e0 : pwIn es rows i st (m + 1) = (pwIn es rows i st m).set a0 (gAdd ((pwIn es rows i st m).getD a0 0) (b0 : Int)) := by rw [pwIn, if_pos (by simpa using hp), ha0, hb0, Int.toNat_natCast]
      rw [e0]
      have hadd := ok_add (h1.2.2 a0 ha) hb
      refine ⟨h1.set hadd.1, fun a b haa => ?_⟩
      have e1 := h2 a b haa
      unfold line at e1 ⊢
      rw [getD_set _ _ _ _ (by rw [h1.2.1]; exact ha)]
      by_cases e : a0 = a
      · subst e
        simp only [if_true]
        rw [hadd.2 b, Bool.or_eq_true, e1, decide_eq_true_eq]
        constructor
        · rintro ((h | ⟨q, hq, r1, r2, r3⟩) | h)
          · exact .inl h
          · exact .inr ⟨q, by omega, r1, r2, r3⟩
          · exact .inr ⟨m, by omega, hp, ha0, by rw [hb0, h]⟩
        · rintro (h | ⟨q, hq, r1, r2, r3⟩)
          · exact .inl (.inl h)
          · right
            rw [hb0] at r3
            omega
      · simp only [e, if_false]
        rw [e1]
        constructor
        · rintro (h | ⟨q, hq, r1, r2, r3⟩)
          · exact .inl h
          · exact .inr ⟨q, by omega, r1, r2, r3⟩
        · rintro (h | ⟨q, hq, r1, r2, r3⟩)
          · exact .inl h
          · by_cases eq : q = m
            · exfalso; subst eq; rw [ha0] at r2; omega
            · exact .inr ⟨q, by omega, r1, r2, r3⟩
    · have e0 : pwIn es rows i st (m + 1) = pwIn es rows i st m := by rw [pwIn, if_neg (by simpa using hp)]
      rw [e0]
      refine ⟨h1, fun a b ha => ?_⟩
      rw [h2 a b ha]
      constructor
      · rintro (h | ⟨q, hq, r⟩)
        · exact .inl h
        · exact .inr ⟨q, by omega, r⟩
      · rintro (h | ⟨q, hq, r⟩)
        · exact .inl h
        · by_cases e : q = m
          · subst e; exact absurd r.1 hp
          · exact .inr ⟨q, by omega, r⟩
theorem web_pwAll {es : List Ev} {rows : List Int} (hx : es.length ≤ 12) (hr : ∀ j, j < rows.length → 0 ≤ rows.getD j 0 ∧ rows.getD j 0 < (es.length : Int)) : ∀ m : Nat, m ≤ rows.length →
    Web es.length (pwAll es rows m) ∧ ∀ a b : Nat, a < es.length → (line (pwAll es rows m) a b = true ↔ ∃ i q, i < m ∧ q < i ∧ plE es (rows.getD q 0) = plE es (rows.getD i 0) ∧ rows.getD q 0 = (a : Int) ∧ rows.getD i 0 = (b : Int))
  | 0, _ => ⟨Web.zero hx, fun a b _ => by unfold pwAll; rw [line_zero]; simp⟩
  | m + 1, hm => by
    obtain ⟨h1, h2⟩ := web_pwAll hx hr m (by omega)
    obtain ⟨g1, g2⟩ := web_pwIn (es := es) hr (show m < rows.length by omega) h1 m (Nat.le_refl _)
    refine ⟨g1, fun a b ha => ?_⟩
    show line (pwIn es rows m (pwAll es rows m) m) a b = true ↔ _
    rw [g2 a b ha, h2 a b ha]
    constructor
    · rintro (⟨i, q, hi, r⟩ | ⟨q, hq, r⟩)
      · exact ⟨i, q, by omega, r⟩
      · exact ⟨m, q, by omega, hq, r⟩
    · rintro ⟨i, q, hi, hq, r⟩
      by_cases e : i = m
      · subst e; exact .inr ⟨q, hq, r⟩
      · exact .inl ⟨i, q, by omega, hq, r⟩
theorem pw_same {es : List Ev} {rows : List Int} (hx : es.length ≤ 12) (hr : ∀ j, j < rows.length → 0 ≤ rows.getD j 0 ∧ rows.getD j 0 < (es.length : Int)) : pwAll es rows rows.length = rwL es rows := by
  obtain ⟨a1, a2⟩ := web_pwAll hx hr rows.length (Nat.le_refl _)
  obtain ⟨b1, b2⟩ := web_rwAll hx hr rows.length (Nat.le_refl _)
  unfold rwL
  refine Web.ext a1 b1 (fun a b ha _ => ?_)
  rw [Bool.eq_iff_iff, a2 a b ha, b2 a b ha]
  unfold rwP
  constructor
  · rintro ⟨i, q, hi, hq, h1, h2, h3⟩
    exact ⟨q, i, by omega, hi, by rw [decide_eq_true hq, h1]; simp, h2, h3⟩
  · rintro ⟨i, q, hi, hq, h1, h2, h3⟩
    rw [Bool.and_eq_true, decide_eq_true_eq, beq_iff_eq] at h1
    exact ⟨q, i, hq, h1.1, h1.2, h2, h3⟩
/-- Seats are few, and rise. -/
theorem seat_rises {es : List Ev} (hx : es.length ≤ 12) {i : Nat} (hi : i < (seatsL es).length) : ((seatsL es).getD i []).Pairwise (· < ·) ∧ ((seatsL es).getD i []).length ≤ 12 := by
  have at1 : ∀ (p j : Nat), (seatAt (plcW es p) j).Pairwise (· < ·) ∧ (seatAt (plcW es p) j).length ≤ 12 := fun p j => by
    have h1 : (plcW es p).Pairwise (· < ·) := by
      unfold plcW idxB
      rw [if_pos hx]
      exact idxK_rises _ _ _
    have h2 := plcW_len hx p
    unfold seatAt
    split
    · exact ⟨h1.sublist (List.take_sublist _ _), by rw [List.length_take]; omega⟩
    · exact ⟨h1.sublist (List.drop_sublist _ _), by rw [List.length_drop]; omega⟩
  rw [seats_len] at hi
  by_cases c0 : i < (plcW es 0).length
  · have := seats_0 c0
    rw [Nat.zero_add] at this
    rw [this]
    exact at1 0 i
  · by_cases c1 : i < (plcW es 0).length + (plcW es 1).length
    · obtain ⟨j, rfl⟩ : ∃ j, i = (plcW es 0).length + j := ⟨i - (plcW es 0).length, by omega⟩
      rw [seats_1 (by omega)]
      exact at1 1 j
    · obtain ⟨j, rfl⟩ : ∃ j, i = (plcW es 0).length + (plcW es 1).length + j := ⟨i - ((plcW es 0).length + (plcW es 1).length), by omega⟩
      rw [seats_2 (by omega)]
      exact at1 2 j
theorem seats_36 {es : List Ev} (hx : es.length ≤ 12) : (seatsL es).length ≤ 36 := by
  rw [seats_len]
  have := plcW_len hx 0
  have := plcW_len hx 1
  have := plcW_len hx 2
  omega
end Go.Proofs.Ytgolhjmbloiakab

/- Contracts of the program's RowsCount and RowsAt. -/
namespace Go.Proofs.Ytgolhjmbloiakab
open Go.ChangeShapes Go.WideShapes Go.ChangeAt Go.RowKit

theorem rcnt_top {es : List Ev} (hx : es.length ≤ 9) : rcntL es ≤ 47784725839872000 := by
  have a0 := fac_mono9 (m := (plcW es 0).length - 1) (by have := plcW_9 hx 0; omega)
  have a1 := fac_mono9 (m := (plcW es 1).length - 1) (by have := plcW_9 hx 1; omega)
  have a2 := fac_mono9 (m := (plcW es 2).length - 1) (by have := plcW_9 hx 2; omega)
  have b0 := fac_pos ((plcW es 0).length - 1)
  have b1 := fac_pos ((plcW es 1).length - 1)
  have b2 := fac_pos ((plcW es 2).length - 1)
  unfold rcntL
  have h1 := Int.mul_le_mul a0 a1 (by omega) (by omega)
  have h2 := Int.mul_le_mul h1 a2 (by omega) (by omega)
  omega
theorem all_len {dss : List (List Dd)} (hb : workB dss = true) : ((allS (seatsL (eventsB dss)) []).length : Int) = rcntL (eventsB dss) := by
  rw [all_rows hb, List.length_map, List.length_range]
  have := rcnt_pos (eventsB dss)
  omega
theorem all_top (dss : List (List Dd)) : (allS (seatsL (eventsB dss)) []).length ≤ 1000000000000000000 := by
  cases hb : workB dss
  · rw [all_none hb]; simp
  · have h1 := all_len hb
    have h2 := rcnt_top (eventsB_len9 dss)
    omega
theorem wr_same (dss : List (List Dd)) (n : Int) : wrB (allS (seatsL (eventsB dss)) []) n = ratB dss n := by
  cases hb : workB dss
  · have hc : rcntB dss = -1 := by unfold rcntB; rw [hb]; rfl
    rw [all_none hb]
    unfold wrB ratB
    rw [hc, if_neg (show ¬ (0 ≤ n ∧ n < (-1 : Int)) by omega)]
    split
    · rename_i h
      have : n = 0 := by simp at h; omega
      subst this
      rfl
    · rfl
  · have hc : rcntB dss = rcntL (eventsB dss) := by unfold rcntB; rw [hb]; rfl
    have hl := all_len hb
    unfold wrB ratB
    rw [hl, hc]
    split
    · rename_i h
      rw [all_rows hb, List.getD_eq_getElem?_getD, List.getElem?_map, List.getElem?_range (by omega)]
      show ratL (eventsB dss) ((n.toNat : Nat) : Int) = ratL (eventsB dss) n
      rw [Int.toNat_of_nonneg h.1]
    · rfl
theorem wc_same {dss : List (List Dd)} (hb : workB dss = true) : wcB (allS (seatsL (eventsB dss)) []) (-1) = rcntB dss := by
  unfold wcB rcntB
  rw [if_neg (by omega), all_len hb, if_pos hb]
set_option maxHeartbeats 1000000 in
theorem implRowsCount_any (w : World) (v : Value) (dss : List (List Dd)) (h : RdW w v dss) (hx : dss.length ≤ 1048576) (hm : ∀ i, i < dss.length → (dss.getD i []).length ≤ 1048576) :
    Calls Try.prog 21 #[v] w fun e w' => e = .returned (.int .i64 (rcntB dss)) ∧ Keep w w' := by
  have h12 : (eventsB dss).length ≤ 12 := by have := eventsB_len9 dss; omega
  have CW := implWorkOk_any w v dss h hx hm
  cases hb : workB dss
  · have HN : Hid (rcntB dss = -1) := Lib.hid (by unfold rcntB; rw [hb]; rfl)
    rw [hb] at CW
    go_enter Try.func21, Try.ntmps21
    go_wp2_with fail
    refine CW.mono ?_
    rintro e w1 ⟨rfl, k1⟩
    go_wp2
    go_ret
    exact ⟨by rw [HN.out]; rfl, k1⟩
  · have HN : Hid (rcntB dss = wcB (allS (seatsL (eventsB dss)) []) (-1)) := Lib.hid (wc_same hb).symm
    rw [hb] at CW
    go_enter Try.func21, Try.ntmps21
    go_wp2_with fail
    refine CW.mono ?_
    rintro e w1 ⟨rfl, k1⟩
    go_wp2_with fail
    refine (implEventsOf_any _ _ _ (h.keep k1) hx hm).mono ?_
    rintro e w2 ⟨v2, rfl, a2, k2⟩
    go_wp2_with fail
    refine (seatsOf_any _ _ _ a2.rd h12).mono ?_
    rintro e w3 ⟨v3, rfl, rc, k3⟩
    go_wp2_with fail
    refine (walkedRows_any _ _ _ (-1) rc (by have := seats_36 h12; omega) (fun i hi => ⟨(seat_rises h12 hi).1, by have := (seat_rises h12 hi).2; omega⟩) (all_top dss)).mono ?_
    rintro e w4 ⟨v4, rfl, o4, k4⟩
    go_wp2
    go_ret
    exact ⟨by rw [HN.out]; rfl, ((k1.trans k2).trans k3).trans k4⟩
set_option maxHeartbeats 1000000 in
theorem implRowsAt_own (w : World) (v : Value) (dss : List (List Dd)) (n : Int) (h : RdW w v dss) (hx : dss.length ≤ 1048576) (hm : ∀ i, i < dss.length → (dss.getD i []).length ≤ 1048576) :
    Calls Try.prog 23 #[v, .int .i64 n] w fun e w' => ∃ v', e = .returned v' ∧ Own w' w.heap.size v' (ratB dss n) ∧ Keep w w' := by
  have h12 : (eventsB dss).length ≤ 12 := by have := eventsB_len9 dss; omega
  have HN : Hid (ratB dss n = wrB (allS (seatsL (eventsB dss)) []) n) := Lib.hid (wr_same dss n).symm
  go_enter Try.func23, Try.ntmps23
  go_wp2_with fail
  refine (implEventsOf_any _ _ _ h hx hm).mono ?_
  rintro e w2 ⟨v2, rfl, a2, k2⟩
  go_wp2_with fail
  refine (seatsOf_any _ _ _ a2.rd h12).mono ?_
  rintro e w3 ⟨v3, rfl, rc, k3⟩
  go_wp2_with fail
  refine (walkedRows_any _ _ _ n rc (by have := seats_36 h12; omega) (fun i hi => ⟨(seat_rises h12 hi).1, by have := (seat_rises h12 hi).2; omega⟩) (all_top dss)).mono ?_
  rintro e w4 ⟨v4, rfl, o4, k4⟩
  have hs := (k2.trans k3).size
  go_wp2
  go_ret
  exact ⟨_, rfl, by rw [HN.out]; exact o4.base_le hs, (k2.trans k3).trans k4⟩
theorem implRowsAt_cap (w : World) (v : Value) (dss : List (List Dd)) (n : Int) (h : RdW w v dss) (hx : dss.length ≤ 1048576) (hm : ∀ i, i < dss.length → (dss.getD i []).length ≤ 1048576) :
    Calls Try.prog 23 #[v, .int .i64 n] w fun e w' => ∃ v', e = .returned v' ∧ Row w' w.heap.size v' (ratB dss n) ∧ (ratB dss n).length ≤ capZ v' ∧ Keep w w' :=
  (implRowsAt_own w v dss n h hx hm).mono (fun _ _ ⟨v', he, ho, k⟩ => ⟨v', he, ho.row, ho.capz, k⟩)
theorem implRowsAt_any (w : World) (v : Value) (dss : List (List Dd)) (n : Int) (h : RdW w v dss) (hx : dss.length ≤ 1048576) (hm : ∀ i, i < dss.length → (dss.getD i []).length ≤ 1048576) :
    Calls Try.prog 23 #[v, .int .i64 n] w fun e w' => ∃ v', e = .returned v' ∧ Row w' w.heap.size v' (ratB dss n) ∧ Keep w w' :=
  (implRowsAt_own w v dss n h hx hm).mono (fun _ _ ⟨v', he, ho, k⟩ => ⟨v', he, ho.row, k⟩)
end Go.Proofs.Ytgolhjmbloiakab

/- Plain facts on webs that the laws of chapter 2 ask for: joined, common and less; then and back; ways are the least that go on by themselves, and are what comes of as many rounds as there are. Nothing of the program. -/
namespace Go.Proofs.Ytgolhjmbloiakab
open Go.RowKit

theorem getD_zip (f : Int → Int → Int) {n : Nat} {a b : List Int} (ha : a.length = n) (hb : b.length = n) {i : Nat} (hi : i < n) : (List.zipWith f a b).getD i 0 = f (a.getD i 0) (b.getD i 0) := by
  rw [List.getD_eq_getElem?_getD, List.getElem?_zipWith, List.getD_eq_getElem?_getD, List.getD_eq_getElem?_getD, List.getElem?_eq_getElem (show i < a.length by omega), List.getElem?_eq_getElem (show i < b.length by omega)]
  rfl
theorem web_mix (f : Int → Int → Int) (hf : ∀ {n : Nat} {s t : Int}, okB n s = true → okB n t = true → okB n (f s t) = true) {n : Nat} {a b : List Int} (ha : Web n a) (hb : Web n b) : Web n (List.zipWith f a b) := by
  refine ⟨ha.1, by rw [List.length_zipWith, ha.2.1, hb.2.1]; omega, fun i hi => ?_⟩
  rw [getD_zip f ha.2.1 hb.2.1 hi]
  exact hf (ha.2.2 i hi) (hb.2.2 i hi)
theorem mixL_web (f : Int → Int → Int) {n : Nat} {a b : List Int} (ha : Web n a) (hb : Web n b) : mixL f a b = List.zipWith f a b := by
  unfold mixL
  rw [if_pos (twoB_iff.2 ⟨by rw [ha.2.1, hb.2.1], ha.b, hb.b⟩)]
theorem web_join {n : Nat} {a b : List Int} (ha : Web n a) (hb : Web n b) : Web n (mixL orI a b) ∧ ∀ i j, i < n → line (mixL orI a b) i j = (line a i j || line b i j) := by
  rw [mixL_web _ ha hb]
  refine ⟨web_mix orI (fun h k => (ok_or h k).1) ha hb, fun i j hi => ?_⟩
  unfold line
  rw [getD_zip orI ha.2.1 hb.2.1 hi]
  exact (ok_or (ha.2.2 i hi) (hb.2.2 i hi)).2 j
theorem web_common {n : Nat} {a b : List Int} (ha : Web n a) (hb : Web n b) : Web n (mixL andI a b) ∧ ∀ i j, i < n → line (mixL andI a b) i j = (line a i j && line b i j) := by
  rw [mixL_web _ ha hb]
  refine ⟨web_mix andI (fun h k => (ok_and h k).1) ha hb, fun i j hi => ?_⟩
  unfold line
  rw [getD_zip andI ha.2.1 hb.2.1 hi]
  exact (ok_and (ha.2.2 i hi) (hb.2.2 i hi)).2 j
theorem web_less {n : Nat} {a b : List Int} (ha : Web n a) (hb : Web n b) : Web n (mixL notI a b) ∧ ∀ i j, i < n → line (mixL notI a b) i j = (line a i j && !line b i j) := by
  rw [mixL_web _ ha hb]
  refine ⟨web_mix notI (fun h k => (ok_not h k).1) ha hb, fun i j hi => ?_⟩
  unfold line
  rw [getD_zip notI ha.2.1 hb.2.1 hi]
  exact (ok_not (ha.2.2 i hi) (hb.2.2 i hi)).2 j
theorem web_then {n : Nat} {a b : List Int} (ha : Web n a) (hb : Web n b) : Web n (thenL a b) ∧ ∀ i j, i < n → (line (thenL a b) i j = true ↔ ∃ k, k < n ∧ line a i k = true ∧ line b k j = true) := by
  have e : thenL a b = a.map (fun x => thenS x b 12) := by
    unfold thenL
    rw [if_pos (twoB_iff.2 ⟨by rw [ha.2.1, hb.2.1], ha.b, hb.b⟩)]
  have hg : ∀ i, i < n → (a.map (fun x => thenS x b 12)).getD i 0 = thenS (a.getD i 0) b 12 := by
    intro i hi
    rw [List.getD_eq_getElem?_getD, List.getElem?_map, List.getD_eq_getElem?_getD, List.getElem?_eq_getElem (show i < a.length by rw [ha.2.1]; exact hi)]
    rfl
  rw [e]
  refine ⟨⟨ha.1, by simp [ha.2.1], fun i hi => ?_⟩, fun i j hi => ?_⟩
  · rw [hg i hi]; exact (ok_then (ha.2.2 i hi) hb 12).1
  · have h := (ok_then (ha.2.2 i hi) hb 12).2 j
    unfold line at h ⊢
    rw [hg i hi, h]
    constructor
    · rintro ⟨k, _, h1, h2⟩; exact ⟨k, inSetB_iff (ha.2.2 i hi) h1, h1, h2⟩
    · rintro ⟨k, hk, h1, h2⟩; exact ⟨k, by have := ha.1; omega, h1, h2⟩
theorem web_back {n : Nat} {a : List Int} (ha : Web n a) : Web n (backL a) ∧ ∀ i j, i < n → j < n → line (backL a) i j = line a j i := by
  have e : backL a = backAll a n := by
    unfold backL
    rw [if_pos ha.b, ha.2.1]
  rw [e]
  have h := web_backAll ha n (Nat.le_refl _)
  exact ⟨h.1, fun i j hi hj => by rw [h.2 i j hi]; simp [hj]⟩
theorem back_back {n : Nat} {a : List Int} (ha : Web n a) : backL (backL a) = a := by
  have h1 := web_back ha
  have h2 := web_back h1.1
  exact Web.ext h2.1 ha fun i j hi hj => by rw [h2.2 i j hi hj, h1.2 j i hj hi]
theorem back_then {n : Nat} {a b : List Int} (ha : Web n a) (hb : Web n b) : backL (thenL a b) = thenL (backL b) (backL a) := by
  have ht := web_then ha hb
  have h1 := web_back ht.1
  have a1 := web_back ha
  have b1 := web_back hb
  have h2 := web_then b1.1 a1.1
  refine Web.ext h1.1 h2.1 fun i j hi hj => ?_
  rw [h1.2 i j hi hj, Bool.eq_iff_iff, ht.2 j i hj, h2.2 i j hi]
  constructor
  · rintro ⟨k, hk, x, y⟩; exact ⟨k, hk, by rw [b1.2 i k hi hk]; exact y, by rw [a1.2 k j hk hj]; exact x⟩
  · rintro ⟨k, hk, x, y⟩; exact ⟨k, hk, by rw [← a1.2 k j hk hj]; exact y, by rw [← b1.2 i k hi hk]; exact x⟩
theorem join_parts {n : Nat} {a b : List Int} (ha : Web n a) (hb : Web n b) : mixL orI (mixL notI a b) (mixL andI a b) = a := by
  have l := web_less ha hb
  have c := web_common ha hb
  have j := web_join l.1 c.1
  refine Web.ext j.1 ha fun i k hi hk => ?_
  rw [j.2 i k hi, l.2 i k hi, c.2 i k hi]
  cases line a i k <;> cases line b i k <;> rfl
theorem join_comm {n : Nat} {a b : List Int} (ha : Web n a) (hb : Web n b) : mixL orI b a = mixL orI a b := by
  have j := web_join ha hb
  have k := web_join hb ha
  exact Web.ext k.1 j.1 fun i m hi hm => by rw [k.2 i m hi, j.2 i m hi, Bool.or_comm]

/-! All lines of a are lines of b. -/
def inL (a b : List Int) : Bool := decide (a.length = b.length) && (List.range a.length).all fun i => notI (a.getD i 0) (b.getD i 0) == 0
theorem inL_web {n : Nat} {a b : List Int} (ha : Web n a) (hb : Web n b) (h : ∀ i j, i < n → j < n → line a i j = true → line b i j = true) : inL a b = true := by
  unfold inL
  rw [Bool.and_eq_true, decide_eq_true_eq, List.all_eq_true]
  refine ⟨by rw [ha.2.1, hb.2.1], fun i hi => ?_⟩
  have hi : i < n := by rw [List.mem_range, ha.2.1] at hi; exact hi
  have ho := ok_not (ha.2.2 i hi) (hb.2.2 i hi)
  rw [beq_iff_eq]
  refine ok_ext ho.1 (ok_zero ha.1) fun j hj => ?_
  rw [ho.2 j, zero_bit]
  have := h i j hi hj
  unfold line at this
  cases h1 : inSetB (a.getD i 0) j with
  | false => rfl
  | true => rw [this h1]; rfl

/-! Ways. -/
inductive Way (zs : List Int) : Nat → Nat → Prop
  | one {i j : Nat} (h : line zs i j = true) : Way zs i j
  | more {i k j : Nat} (h : Way zs i k) (g : line zs k j = true) : Way zs i j
theorem Way.trans {zs : List Int} {i k j : Nat} (h : Way zs i k) (g : Way zs k j) : Way zs i j := by
  induction g with
  | one g => exact .more h g
  | more _ g ih => exact .more ih g
theorem Way.lt {n : Nat} {zs : List Int} (hz : Web n zs) {i j : Nat} (hi : i < n) (h : Way zs i j) : j < n := by
  induction h with
  | one g => exact hz.lt hi g
  | more _ g ih => exact hz.lt ih g
/-- What is found after m are let by: ways, and all that pass the first m alone. -/
theorem wayAll_sound {n : Nat} {zs : List Int} (hz : Web n zs) (m : Nat) (hm : m ≤ n) {i : Nat} (hi : i < n) {j : Nat} (h : line (wayAll zs m) i j = true) : Way zs i j := by
  induction m generalizing i j with
  | zero => exact .one h
  | succ m ih =>
    rw [line_wayAll hz m (by omega) hi, Bool.or_eq_true, Bool.and_eq_true] at h
    rcases h with h | ⟨h1, h2⟩
    · exact ih (by omega) hi h
    · exact (ih (by omega) hi h1).trans (ih (by omega) (by omega) h2)
theorem wayAll_mono {n : Nat} {zs : List Int} (hz : Web n zs) (m : Nat) (hm : m < n) {i : Nat} (hi : i < n) {j : Nat} (h : line (wayAll zs m) i j = true) : line (wayAll zs (m + 1)) i j = true := by
  rw [line_wayAll hz m hm hi, h]; rfl
/-- Behind m rounds two ways that meet at one of the first m are one. -/
theorem wayAll_meet {n : Nat} {zs : List Int} (hz : Web n zs) (m : Nat) (hm : m ≤ n) {i k j : Nat} (hi : i < n) (hk : k < m) (h1 : line (wayAll zs m) i k = true) (h2 : line (wayAll zs m) k j = true) : line (wayAll zs m) i j = true := by
  induction m generalizing i k j with
  | zero => omega
  | succ m ih =>
    have hmn : m < n := by omega
    have ihm := @ih (by omega)
    rw [line_wayAll hz m hmn hi, Bool.or_eq_true, Bool.and_eq_true] at h1
    rw [line_wayAll hz m hmn (show k < n by omega), Bool.or_eq_true, Bool.and_eq_true] at h2
    rw [line_wayAll hz m hmn hi, Bool.or_eq_true, Bool.and_eq_true]
    by_cases e : k = m
    · subst e
      have h1' : line (wayAll zs k) i k = true := by
        rcases h1 with h | h
        · exact h
        · exact h.1
      have h2' : line (wayAll zs k) k j = true := by
        rcases h2 with h | h
        · exact h
        · exact h.2
      exact .inr ⟨h1', h2'⟩
    · have hkm : k < m := by omega
      rcases h1 with h1 | ⟨h1, h1'⟩ <;> rcases h2 with h2 | ⟨h2, h2'⟩
      · exact .inl (ihm hi hkm h1 h2)
      · exact .inr ⟨ihm hi hkm h1 h2, h2'⟩
      · exact .inr ⟨h1, ihm hmn hkm h1' h2⟩
      · exact .inr ⟨h1, h2'⟩
theorem ways_eq {n : Nat} {zs : List Int} (hz : Web n zs) : waysL zs = wayAll zs n := by
  unfold waysL
  rw [if_pos hz.b, hz.2.1]
theorem web_ways {n : Nat} {zs : List Int} (hz : Web n zs) : Web n (waysL zs) := by rw [ways_eq hz]; exact web_wayAll hz n (Nat.le_refl _)
theorem wayAll_old {n : Nat} {zs : List Int} (hz : Web n zs) (m : Nat) (hm : m ≤ n) {i : Nat} (hi : i < n) {j : Nat} (h : line zs i j = true) : line (wayAll zs m) i j = true := by
  induction m with
  | zero => exact h
  | succ m ih => exact wayAll_mono hz m (by omega) hi (ih (by omega))
theorem ways_line {n : Nat} {zs : List Int} (hz : Web n zs) {i : Nat} (hi : i < n) {j : Nat} : line (waysL zs) i j = true ↔ Way zs i j := by
  rw [ways_eq hz]
  constructor
  · exact wayAll_sound hz n (Nat.le_refl _) hi
  · intro h
    induction h with
    | one g => exact wayAll_old hz n (Nat.le_refl _) hi g
    | more h g ih =>
      have hk := h.lt hz hi
      exact wayAll_meet hz n (Nat.le_refl _) hi hk ih (wayAll_old hz n (Nat.le_refl _) hk g)
theorem ways_in {n : Nat} {zs : List Int} (hz : Web n zs) : inL zs (waysL zs) = true :=
  inL_web hz (web_ways hz) fun _ _ hi _ h => (ways_line hz hi).2 (.one h)
theorem ways_on {n : Nat} {zs : List Int} (hz : Web n zs) : inL (thenL (waysL zs) (waysL zs)) (waysL zs) = true := by
  have hw := web_ways hz
  have ht := web_then hw hw
  refine inL_web ht.1 hw fun i j hi _ h => ?_
  obtain ⟨k, hk, h1, h2⟩ := (ht.2 i j hi).1 h
  exact (ways_line hz hi).2 (((ways_line hz hi).1 h1).trans ((ways_line hz hk).1 h2))
theorem ways_ways {n : Nat} {zs : List Int} (hz : Web n zs) : waysL (waysL zs) = waysL zs := by
  have hw := web_ways hz
  refine Web.ext (web_ways hw) hw fun i j hi _ => ?_
  rw [Bool.eq_iff_iff, ways_line hw hi]
  constructor
  · intro h
    induction h with
    | one g => exact g
    | more h g ih =>
      have hk := h.lt hw hi
      exact (ways_line hz hi).2 (((ways_line hz hi).1 (ih hk)).trans ((ways_line hz hk).1 g))
  · exact .one

/-! As many rounds as there are. -/
def goOn (zs : List Int) : Nat → List Int
  | 0 => zs
  | m + 1 => mixL orI zs (thenL (goOn zs m) zs)
theorem web_goOn {n : Nat} {zs : List Int} (hz : Web n zs) (m : Nat) : Web n (goOn zs m) := by
  induction m with
  | zero => exact hz
  | succ m ih => exact (web_join hz (web_then ih hz).1).1
theorem goOn_step {n : Nat} {zs : List Int} (hz : Web n zs) (m : Nat) {i : Nat} (hi : i < n) (j : Nat) : line (goOn zs (m + 1)) i j = true ↔ line zs i j = true ∨ ∃ k, k < n ∧ line (goOn zs m) i k = true ∧ line zs k j = true := by
  show line (mixL orI zs (thenL (goOn zs m) zs)) i j = true ↔ _
  have ht := web_then (web_goOn hz m) hz
  rw [(web_join hz ht.1).2 i j hi, Bool.or_eq_true, ht.2 i j hi]
theorem goOn_sound {n : Nat} {zs : List Int} (hz : Web n zs) (m : Nat) {i : Nat} (hi : i < n) {j : Nat} (h : line (goOn zs m) i j = true) : Way zs i j := by
  induction m generalizing j with
  | zero => exact .one h
  | succ m ih =>
    rcases (goOn_step hz m hi j).1 h with h | ⟨k, hk, h1, h2⟩
    · exact .one h
    · exact .more (ih h1) h2
theorem goOn_mono {n : Nat} {zs : List Int} (hz : Web n zs) (m : Nat) {i : Nat} (hi : i < n) {j : Nat} (h : line (goOn zs m) i j = true) : line (goOn zs (m + 1)) i j = true := by
  induction m generalizing j with
  | zero => exact (goOn_step hz 0 hi j).2 (.inl h)
  | succ m ih =>
    rcases (goOn_step hz m hi j).1 h with h | ⟨k, hk, h1, h2⟩
    · exact (goOn_step hz (m + 1) hi j).2 (.inl h)
    · exact (goOn_step hz (m + 1) hi j).2 (.inr ⟨k, hk, ih h1, h2⟩)
/-- How many lines go from i. -/
def many (zs : List Int) (i n : Nat) : Nat := (List.range n).countP (fun j => line zs i j)
theorem many_le (zs : List Int) (i n : Nat) : many zs i n ≤ n := by
  have := List.countP_le_length (p := fun j => line zs i j) (l := List.range n)
  simpa [many] using this
theorem countP_lt {p q : Nat → Bool} {l : List Nat} (h : ∀ x ∈ l, p x = true → q x = true) {y : Nat} (hy : y ∈ l) (h1 : p y = false) (h2 : q y = true) : l.countP p < l.countP q := by
  induction l with
  | nil => simp at hy
  | cons a l ih =>
    have hle : l.countP p ≤ l.countP q := List.countP_mono_left fun x hx hp => h x (by simp [hx]) hp
    rw [List.countP_cons, List.countP_cons]
    rcases List.mem_cons.1 hy with rfl | hy
    · simp [h1, h2]; omega
    · have := ih (fun x hx => h x (by simp [hx])) hy
      have ha := h a (by simp)
      cases hp : p a with
      | false => simp; split <;> omega
      | true => rw [ha hp]; simp; omega
/-- Row i does not change from m on. -/
def Still (zs : List Int) (i n m : Nat) : Prop := ∀ j, j < n → line (goOn zs (m + 1)) i j = true → line (goOn zs m) i j = true
theorem still_next {n : Nat} {zs : List Int} (hz : Web n zs) {i : Nat} (hi : i < n) {m : Nat} (h : Still zs i n m) : Still zs i n (m + 1) := by
  intro j hj hl
  rcases (goOn_step hz (m + 1) hi j).1 hl with hl | ⟨k, hk, h1, h2⟩
  · exact (goOn_step hz m hi j).2 (.inl hl)
  · exact (goOn_step hz m hi j).2 (.inr ⟨k, hk, h k hk h1, h2⟩)
theorem still_or {n : Nat} {zs : List Int} (hz : Web n zs) {i : Nat} (hi : i < n) (m : Nat) : Still zs i n m ∨ m + 1 ≤ many (goOn zs (m + 1)) i n := by
  induction m with
  | zero =>
    by_cases h : Still zs i n 0
    · exact .inl h
    · right
      obtain ⟨j, hj, h1, h2⟩ : ∃ j, j < n ∧ line (goOn zs (0 + 1)) i j = true ∧ line (goOn zs 0) i j = false := by
        apply Classical.byContradiction
        intro hno
        apply h
        intro j hj h1
        cases h2 : line (goOn zs 0) i j with
        | true => rfl
        | false => exact absurd ⟨j, hj, h1, h2⟩ hno
      have := countP_lt (p := fun j => line (goOn zs 0) i j) (q := fun j => line (goOn zs (0 + 1)) i j) (l := List.range n) (fun x hx hp => goOn_mono hz 0 hi hp) (List.mem_range.2 hj) h2 h1
      unfold many; omega
  | succ m ih =>
    rcases ih with ih | ih
    · exact .inl (still_next hz hi ih)
    · by_cases h : Still zs i n (m + 1)
      · exact .inl h
      · right
        obtain ⟨j, hj, h1, h2⟩ : ∃ j, j < n ∧ line (goOn zs (m + 1 + 1)) i j = true ∧ line (goOn zs (m + 1)) i j = false := by
          apply Classical.byContradiction
          intro hno
          apply h
          intro j hj h1
          cases h2 : line (goOn zs (m + 1)) i j with
          | true => rfl
          | false => exact absurd ⟨j, hj, h1, h2⟩ hno
        have := countP_lt (p := fun j => line (goOn zs (m + 1)) i j) (q := fun j => line (goOn zs (m + 1 + 1)) i j) (l := List.range n) (fun x hx hp => goOn_mono hz (m + 1) hi hp) (List.mem_range.2 hj) h2 h1
        unfold many at ih ⊢
        omega
theorem goOn_still {n : Nat} {zs : List Int} (hz : Web n zs) {i : Nat} (hi : i < n) : Still zs i n n := by
  rcases still_or hz hi n with h | h
  · exact h
  · have := many_le (goOn zs (n + 1)) i n; omega
theorem goOn_ways {n : Nat} {zs : List Int} (hz : Web n zs) : goOn zs n = waysL zs := by
  refine Web.ext (web_goOn hz n) (web_ways hz) fun i j hi hj => ?_
  rw [Bool.eq_iff_iff, ways_line hz hi]
  constructor
  · exact goOn_sound hz n hi
  · intro h
    induction h with
    | one g =>
      have : ∀ m, line (goOn zs m) i _ = true := fun m => by
        induction m with
        | zero => exact g
        | succ m ih => exact goOn_mono hz m hi ih
      exact this n
    | more h g ih =>
      have hk := h.lt hz hi
      exact goOn_still hz hi _ hj ((goOn_step hz n hi _).2 (.inr ⟨_, hk, ih hk, g⟩))
end Go.Proofs.Ytgolhjmbloiakab

/- Plain facts on order: which webs go round, what a web is sorted to (always the least that may stand there), which lists follow it; sorted follows, just where it does not go round. Nothing of the program. -/
namespace Go.Proofs.Ytgolhjmbloiakab
open Go.RowKit

/-- Does it go round? -/
def roundB (zs : List Int) : Bool := webB zs && (List.range zs.length).any fun i => line (waysL zs) i i
/-- May i stand next, those in 'done' standing already? -/
def mayB (zs : List Int) (done : Int) (i : Nat) : Bool := !inSetB done i && (notI ((backL zs).getD i 0) done == 0)
/-- The least of the first m that may stand next; -1 where none may. -/
def pick (zs : List Int) (done : Int) : Nat → Int
  | 0 => -1
  | m + 1 => if 0 ≤ pick zs done m then pick zs done m else if mayB zs done m = true then (m : Int) else -1
/-- What stands after k steps, and the set of it; none where nothing may stand next. -/
def sortK (zs : List Int) : Nat → Option (List Int × Int)
  | 0 => some ([], 0)
  | k + 1 => match sortK zs k with
    | none => none
    | some (l, d) => if pick zs d zs.length < 0 then none else some (l ++ [pick zs d zs.length], gAdd d (pick zs d zs.length))
def sortedO (zs : List Int) : Option (List Int × Int) := if webB zs = true then sortK zs zs.length else none
def sortedL (zs : List Int) : List Int := match sortedO zs with
  | none => []
  | some (l, _) => l
def sortedB (zs : List Int) : Bool := (sortedO zs).isSome

theorem round_iff {n : Nat} {zs : List Int} (hz : Web n zs) : roundB zs = true ↔ ∃ i, i < n ∧ Way zs i i := by
  unfold roundB
  rw [hz.b, Bool.true_and, List.any_eq_true, hz.2.1]
  constructor
  · rintro ⟨i, hi, h⟩; exact ⟨i, List.mem_range.1 hi, (ways_line hz (List.mem_range.1 hi)).1 h⟩
  · rintro ⟨i, hi, h⟩; exact ⟨i, List.mem_range.2 hi, (ways_line hz hi).2 h⟩
theorem pick_spec (zs : List Int) (d : Int) (m : Nat) : (pick zs d m = -1 ∧ ∀ i, i < m → mayB zs d i = false) ∨ ∃ i, i < m ∧ pick zs d m = (i : Int) ∧ mayB zs d i = true ∧ ∀ j, j < i → mayB zs d j = false := by
  induction m with
  | zero => exact .inl ⟨rfl, fun i hi => by omega⟩
  | succ m ih =>
    unfold pick
    rcases ih with ⟨h, hall⟩ | ⟨i, hi, h, hm, hl⟩
    · rw [h, if_neg (by omega)]
      cases hb : mayB zs d m with
      | false =>
        refine .inl ⟨by simp, fun i hi => ?_⟩
        by_cases e : i = m
        · rw [e]; exact hb
        · exact hall i (by omega)
      | true => exact .inr ⟨m, by omega, by simp, hb, hall⟩
    · rw [h, if_pos (by omega)]
      exact .inr ⟨i, by omega, rfl, hm, hl⟩
/-- i may stand next just where it does not yet, and all from which a line goes to it do. -/
theorem may_iff {n : Nat} {zs : List Int} (hz : Web n zs) {d : Int} (hd : okB n d = true) {i : Nat} (hi : i < n) : mayB zs d i = true ↔ inSetB d i = false ∧ ∀ j, j < n → line zs j i = true → inSetB d j = true := by
  have hb := web_back hz
  have ho := ok_not (hb.1.2.2 i hi) hd
  unfold mayB
  rw [Bool.and_eq_true, Bool.not_eq_true', beq_iff_eq]
  refine and_congr_right fun _ => ?_
  constructor
  · intro h j hj hl
    have h1 := ho.2 j
    rw [h, zero_bit] at h1
    have h2 : inSetB ((backL zs).getD i 0) j = true := by have := hb.2 i j hi hj; unfold line at this hl; rw [this]; exact hl
    rw [h2] at h1
    cases h3 : inSetB d j with
    | true => rfl
    | false => rw [h3] at h1; cases h1
  · intro h
    refine ok_ext ho.1 (ok_zero hz.1) fun j hj => ?_
    rw [ho.2 j, zero_bit]
    cases h2 : inSetB ((backL zs).getD i 0) j with
    | false => rfl
    | true =>
      have : line zs j i = true := by have e := hb.2 i j hi hj; unfold line at e ⊢; rw [← e]; exact h2
      rw [h j hj this]; rfl
/-- What stands is in the set and only that, each once, below n, each behind all that lead to it; and where the next is less than the one ahead of it a line goes between them. -/
structure Stands (zs : List Int) (n k : Nat) (l : List Int) (d : Int) : Prop where
  ok : okB n d = true
  len : l.length = k
  mem : ∀ j : Nat, j < n → (inSetB d j = true ↔ (j : Int) ∈ l)
  low : ∀ x ∈ l, ∃ j : Nat, x = j ∧ j < n
  once : l.Nodup
  ahead : ∀ p, p < l.length → ∀ i j : Nat, l.getD p 0 = (i : Int) → j < n → line zs j i = true → (j : Int) ∈ l.take p
theorem sort_stands {n : Nat} {zs : List Int} (hz : Web n zs) (k : Nat) {l : List Int} {d : Int} (h : sortK zs k = some (l, d)) : Stands zs n k l d := by
  induction k generalizing l d with
  | zero =>
    simp only [sortK, Option.some.injEq, Prod.mk.injEq] at h
    obtain ⟨rfl, rfl⟩ := h
    exact ⟨ok_zero hz.1, rfl, fun j _ => by rw [zero_bit]; simp, by simp, List.nodup_nil, fun p hp => by simp at hp⟩
  | succ k ih =>
    unfold sortK at h
    cases hs : sortK zs k with
    | none => rw [hs] at h; cases h
    | some q =>
      obtain ⟨l0, d0⟩ := q
      rw [hs] at h
      have S := ih hs
      simp only at h
      split at h
      · cases h
      · rename_i hneg
        simp only [Option.some.injEq, Prod.mk.injEq] at h
        obtain ⟨rfl, rfl⟩ := h
        rcases pick_spec zs d0 zs.length with ⟨e, _⟩ | ⟨i, hi, e, hm, _⟩
        · rw [e] at hneg; omega
        · rw [hz.2.1] at hi
          rw [e]
          have hmi := (may_iff hz S.ok hi).1 hm
          have ha := ok_add S.ok hi
          have hnot : ¬ (i : Int) ∈ l0 := fun hin => by
            have := (S.mem i hi).2 hin
            rw [hmi.1] at this; cases this
          refine ⟨ha.1, by simp [S.len], fun j hj => ?_, fun x hx => ?_, ?_, fun p hp a b hab hb hl => ?_⟩
          · rw [ha.2 j, Bool.or_eq_true, S.mem j hj, List.mem_append, List.mem_singleton, decide_eq_true_eq]
            constructor
            · rintro (h | h)
              · exact .inl h
              · exact .inr (by rw [h])
            · rintro (h | h)
              · exact .inl h
              · exact .inr (by omega)
          · rcases List.mem_append.1 hx with hx | hx
            · exact S.low x hx
            · rw [List.mem_singleton] at hx; exact ⟨i, hx, hi⟩
          · rw [List.nodup_append]
            refine ⟨S.once, by simp, fun a ha b hb => ?_⟩
            rw [List.mem_singleton] at hb
            subst hb
            intro e2; subst e2; exact hnot ha
          · by_cases hpl : p < l0.length
            · rw [List.getD_eq_getElem?_getD, List.getElem?_append_left hpl, ← List.getD_eq_getElem?_getD] at hab
              rw [List.take_append_of_le_length (by omega)]
              exact S.ahead p hpl a b hab hb hl
            · have hpe : p = l0.length := by simp at hp; omega
              subst hpe
              rw [List.getD_eq_getElem?_getD, List.getElem?_append_right (Nat.le_refl _), Nat.sub_self] at hab
              have hai : i = a := by simp at hab; omega
              subst hai
              rw [List.take_append_of_le_length (Nat.le_refl _), List.take_length]
              exact (S.mem b hb).1 (hmi.2 b hb hl)
/-- Where j stands in the list. -/
theorem at_of_mem {l : List Int} {x : Int} (h : x ∈ l) : ∃ p, p < l.length ∧ l.getD p 0 = x := by
  obtain ⟨p, hp, e⟩ := List.getElem_of_mem h
  exact ⟨p, hp, by rw [List.getD_eq_getElem?_getD, List.getElem?_eq_getElem hp]; exact e⟩
theorem at_one {l : List Int} (h : l.Nodup) {p q : Nat} (hp : p < l.length) (hq : q < l.length) (e : l.getD p 0 = l.getD q 0) : p = q := by
  rw [List.getD_eq_getElem?_getD, List.getD_eq_getElem?_getD, List.getElem?_eq_getElem hp, List.getElem?_eq_getElem hq] at e
  simp only [Option.getD_some] at e
  have hp2 := List.pairwise_iff_getElem.1 (List.nodup_iff_pairwise_ne.1 h)
  apply Classical.byContradiction
  intro hne
  by_cases hlt : p < q
  · exact hp2 p q hp hq hlt e
  · exact hp2 q p hq hp (by omega) e.symm
theorem at_take {l : List Int} {x : Int} {p : Nat} (h : x ∈ l.take p) : ∃ q, q < p ∧ q < l.length ∧ l.getD q 0 = x := by
  obtain ⟨q, hq, e⟩ := List.getElem_of_mem h
  rw [List.length_take] at hq
  refine ⟨q, by omega, by omega, ?_⟩
  rw [List.getElem_take] at e
  rw [List.getD_eq_getElem?_getD, List.getElem?_eq_getElem (show q < l.length by omega)]; exact e
theorem nodup_sub_len {a b : List Int} (h : a.Nodup) (hs : ∀ x ∈ a, x ∈ b) : a.length ≤ b.length := by
  induction a generalizing b with
  | nil => simp
  | cons x a ih =>
    rw [List.nodup_cons] at h
    have hx := hs x (by simp)
    have := ih (b := b.erase x) h.2 (fun y hy => (List.mem_erase_of_ne (fun e => h.1 (by rw [← e]; exact hy))).2 (hs y (by simp [hy])))
    rw [List.length_erase_of_mem hx] at this
    have := List.length_pos_of_mem hx
    simp; omega
/-- A list of n numbers below n, each once, has all. -/
theorem all_in {n : Nat} {l : List Int} (hl : l.length = n) (hlow : ∀ x ∈ l, ∃ j : Nat, x = j ∧ j < n) (h1 : l.Nodup) {j : Nat} (hj : j < n) : (j : Int) ∈ l := by
  apply Classical.byContradiction
  intro hno
  have hsub : ∀ x ∈ l, x ∈ ((List.range n).erase j).map (fun k : Nat => (k : Int)) := by
    intro x hx
    obtain ⟨k, rfl, hk⟩ := hlow x hx
    rw [List.mem_map]
    refine ⟨k, ?_, rfl⟩
    rw [List.Nodup.mem_erase_iff List.nodup_range]
    exact ⟨fun e => hno (by rw [← e]; exact hx), List.mem_range.2 hk⟩
  have hle := nodup_sub_len h1 hsub
  rw [List.length_map, List.length_erase_of_mem (List.mem_range.2 hj), List.length_range, hl] at hle
  omega
/-- What is sorted whole does not go round. -/
theorem sorted_no_round {n : Nat} {zs : List Int} (hz : Web n zs) {l : List Int} {d : Int} (h : sortK zs n = some (l, d)) : roundB zs = false := by
  have S := sort_stands hz n h
  have hw : ∀ i j, i < n → Way zs i j → ∀ p q, p < l.length → q < l.length → l.getD p 0 = (i : Int) → l.getD q 0 = (j : Int) → p < q := by
    intro i j hi w
    induction w with
    | one g =>
      intro p q hp hq ep eq
      obtain ⟨p', h1, h2, h3⟩ := at_take (S.ahead q hq _ _ eq hi g)
      have := at_one S.once hp h2 (by rw [ep, h3])
      omega
    | more w g ih =>
      intro p q hp hq ep eq
      have hk := w.lt hz hi
      obtain ⟨r, h1, h2, h3⟩ := at_take (S.ahead q hq _ _ eq hk g)
      have := ih p r hp h2 ep h3
      omega
  cases hr : roundB zs with
  | false => rfl
  | true =>
    obtain ⟨i, hi, w⟩ := (round_iff hz).1 hr
    obtain ⟨p, hp, e⟩ := at_of_mem (all_in S.len S.low S.once hi)
    have := hw i i hi w p p hp hp e e
    omega
/-- How many lead to i by ways. -/
def leads (zs : List Int) (n i : Nat) : Nat := (List.range n).countP fun j => line (waysL zs) j i
/-- Where it does not go round one of those that do not stand yet may stand next. -/
theorem may_some {n : Nat} {zs : List Int} (hz : Web n zs) (hr : roundB zs = false) {d : Int} (hd : okB n d = true) (m : Nat) : ∀ i, i < n → leads zs n i ≤ m → inSetB d i = false → ∃ j, j < n ∧ mayB zs d j = true := by
  have nr : ∀ i, i < n → ¬ Way zs i i := fun i hi w => by
    have := (round_iff hz).2 ⟨i, hi, w⟩
    rw [hr] at this; cases this
  induction m with
  | zero =>
    intro i hi hm hn
    refine ⟨i, hi, (may_iff hz hd hi).2 ⟨hn, fun j hj hl => ?_⟩⟩
    exfalso
    have h0 : (List.range n).countP (fun j => line (waysL zs) j i) = 0 := by unfold leads at hm; omega
    rw [List.countP_eq_zero] at h0
    exact h0 j (List.mem_range.2 hj) ((ways_line hz hj).2 (.one hl))
  | succ m ih =>
    intro i hi hm hn
    by_cases hall : ∀ j, j < n → line zs j i = true → inSetB d j = true
    · exact ⟨i, hi, (may_iff hz hd hi).2 ⟨hn, hall⟩⟩
    · obtain ⟨j, hj, hl, hdj⟩ : ∃ j, j < n ∧ line zs j i = true ∧ inSetB d j = false := by
        apply Classical.byContradiction
        intro hno
        apply hall
        intro j hj hl
        cases hdj : inSetB d j with
        | true => rfl
        | false => exact absurd ⟨j, hj, hl, hdj⟩ hno
      refine ih j hj ?_ hdj
      have hlt : leads zs n j < leads zs n i := by
        refine countP_lt (fun k hk hp => ?_) (List.mem_range.2 hj) ?_ ?_
        · have hk := List.mem_range.1 hk
          exact (ways_line hz hk).2 (((ways_line hz hk).1 hp).trans (.one hl))
        · cases h : line (waysL zs) j j with
          | false => rfl
          | true => exact absurd ((ways_line hz hj).1 h) (nr j hj)
        · exact (ways_line hz hj).2 (.one hl)
      omega
theorem sort_goes {n : Nat} {zs : List Int} (hz : Web n zs) (hr : roundB zs = false) (k : Nat) (hk : k ≤ n) : ∃ l d, sortK zs k = some (l, d) := by
  induction k with
  | zero => exact ⟨[], 0, rfl⟩
  | succ k ih =>
    obtain ⟨l, d, hs⟩ := ih (by omega)
    have S := sort_stands hz k hs
    obtain ⟨i, hi, hn⟩ : ∃ i, i < n ∧ inSetB d i = false := by
      apply Classical.byContradiction
      intro hno
      have hsub : ∀ x ∈ (List.range n).map (fun k : Nat => (k : Int)), x ∈ l := by
        intro x hx
        rw [List.mem_map] at hx
        obtain ⟨j, hj, rfl⟩ := hx
        have hj := List.mem_range.1 hj
        refine (S.mem j hj).1 ?_
        cases h : inSetB d j with
        | true => rfl
        | false => exact absurd ⟨j, hj, h⟩ hno
      have hnd : ((List.range n).map (fun k : Nat => (k : Int))).Nodup := by
        rw [List.nodup_iff_pairwise_ne, List.pairwise_map]
        exact List.Pairwise.imp (fun h e => h (by omega)) List.nodup_range
      have hle := nodup_sub_len hnd hsub
      rw [List.length_map, List.length_range, S.len] at hle
      omega
    obtain ⟨j, hj, hm⟩ := may_some hz hr S.ok _ i hi (Nat.le_refl _) hn
    unfold sortK
    rw [hs]
    simp only
    rcases pick_spec zs d zs.length with ⟨_, hall⟩ | ⟨a, _, e, _, _⟩
    · have := hall j (by rw [hz.2.1]; exact hj)
      rw [this] at hm; cases hm
    · rw [if_neg (by omega)]
      exact ⟨_, _, rfl⟩
theorem sorted_iff {n : Nat} {zs : List Int} (hz : Web n zs) : sortedB zs = !roundB zs := by
  have e : sortedO zs = sortK zs n := by unfold sortedO; rw [if_pos hz.b, hz.2.1]
  unfold sortedB
  rw [e]
  cases hr : roundB zs with
  | false => obtain ⟨l, d, h⟩ := sort_goes hz hr n (Nat.le_refl _); rw [h]; rfl
  | true =>
    cases h : sortK zs n with
    | none => rfl
    | some q => obtain ⟨l, d⟩ := q; have := sorted_no_round hz h; rw [hr] at this; cases this
/-- Where the next is less than the one ahead of it a line goes between them. -/
theorem sort_least {n : Nat} {zs : List Int} (hz : Web n zs) (k : Nat) {l : List Int} {d : Int} (h : sortK zs k = some (l, d)) : ∀ p, p + 1 < l.length → l.getD (p + 1) 0 < l.getD p 0 → inSetB (zs.getD (l.getD p 0).toNat 0) (l.getD (p + 1) 0) = true := by
  induction k generalizing l d with
  | zero =>
    simp only [sortK, Option.some.injEq, Prod.mk.injEq] at h
    obtain ⟨rfl, rfl⟩ := h
    intro p hp; simp at hp
  | succ k ih =>
    have S2 := sort_stands hz (k + 1) h
    unfold sortK at h
    cases hs : sortK zs k with
    | none => rw [hs] at h; cases h
    | some q =>
      obtain ⟨l0, d0⟩ := q
      rw [hs] at h
      have S := sort_stands hz k hs
      simp only at h
      split at h
      · cases h
      · rename_i hneg
        simp only [Option.some.injEq, Prod.mk.injEq] at h
        obtain ⟨rfl, rfl⟩ := h
        intro p hp hlt
        rw [List.length_append, List.length_singleton] at hp
        have g1 : (l0 ++ [pick zs d0 zs.length]).getD p 0 = l0.getD p 0 := by
          rw [List.getD_eq_getElem?_getD, List.getElem?_append_left (by omega), ← List.getD_eq_getElem?_getD]
        rw [g1] at hlt ⊢
        by_cases hpl : p + 1 < l0.length
        · have g2 : (l0 ++ [pick zs d0 zs.length]).getD (p + 1) 0 = l0.getD (p + 1) 0 := by
            rw [List.getD_eq_getElem?_getD, List.getElem?_append_left hpl, ← List.getD_eq_getElem?_getD]
          rw [g2] at hlt ⊢
          exact ih hs p hpl hlt
        · have hpe : l0.length = p + 1 := by omega
          have g2 : (l0 ++ [pick zs d0 zs.length]).getD (p + 1) 0 = pick zs d0 zs.length := by
            rw [List.getD_eq_getElem?_getD, List.getElem?_append_right (by omega), hpe, Nat.sub_self]; rfl
          rw [g2] at hlt ⊢
          -- the step ahead of this one
          obtain ⟨k', rfl⟩ : ∃ k', k = k' + 1 := ⟨k - 1, by have := S.len; omega⟩
          unfold sortK at hs
          cases hs1 : sortK zs k' with
          | none => rw [hs1] at hs; cases hs
          | some q =>
            obtain ⟨l1, d1⟩ := q
            rw [hs1] at hs
            have S1 := sort_stands hz k' hs1
            simp only at hs
            split at hs
            · cases hs
            · rename_i hneg1
              simp only [Option.some.injEq, Prod.mk.injEq] at hs
              obtain ⟨rfl, rfl⟩ := hs
              have hp1 : l1.length = p := by rw [List.length_append, List.length_singleton] at hpe; omega
              have g3 : (l1 ++ [pick zs d1 zs.length]).getD p 0 = pick zs d1 zs.length := by
                rw [List.getD_eq_getElem?_getD, List.getElem?_append_right (by omega), hp1, Nat.sub_self]; rfl
              rw [g3] at hlt ⊢
              rcases pick_spec zs d1 zs.length with ⟨e, _⟩ | ⟨a, ha, ea, hma, hla⟩
              · rw [e] at hneg1; omega
              · rcases pick_spec zs (gAdd d1 (pick zs d1 zs.length)) zs.length with ⟨e, _⟩ | ⟨b, hb, eb, hmb, _⟩
                · rw [e] at hneg; omega
                · rw [eb, ea] at hlt ⊢
                  rw [ea] at hmb
                  rw [hz.2.1] at ha hb
                  have hba : b < a := by omega
                  have had := ok_add S1.ok ha
                  have h2 := (may_iff hz had.1 hb).1 hmb
                  have h1 : ¬ mayB zs d1 b = true := by rw [hla b hba]; simp
                  rw [may_iff hz S1.ok hb] at h1
                  have hnb : inSetB d1 b = false := by
                    have := h2.1
                    rw [had.2 b] at this
                    cases h : inSetB d1 b with
                    | false => rfl
                    | true => rw [h] at this; cases this
                  rw [show ((a : Int)).toNat = a from by omega]
                  apply Classical.byContradiction
                  intro hno
                  apply h1
                  refine ⟨hnb, fun j hj hl => ?_⟩
                  have h3 := h2.2 j hj hl
                  rw [had.2 j, Bool.or_eq_true, decide_eq_true_eq] at h3
                  rcases h3 with h3 | h3
                  · exact h3
                  · subst h3; exact absurd hl hno

/-! Follows. -/
/-- May k stand behind those that are seen? -/
def folB (zs : List Int) (s k : Int) : Bool := inB k 0 ((zs.length : Int) - 1) && !inSetB s k && (andI (zs.getD k.toNat 0) (gAdd s k) == 0)
/-- What is seen of the first m; none where one stands wrong. -/
def folK (zs list : List Int) : Nat → Option Int
  | 0 => some 0
  | m + 1 => match folK zs list m with
    | none => none
    | some s => if folB zs s (list.getD m 0) = true then some (gAdd s (list.getD m 0)) else none
def followsB (zs list : List Int) : Bool := webB zs && decide (list.length = zs.length) && (folK zs list list.length).isSome
theorem mem_take_step {l : List Int} {m : Nat} (hm : m < l.length) (x : Int) : x ∈ l.take (m + 1) ↔ x ∈ l.take m ∨ x = l.getD m 0 := by
  rw [take_snoc l m hm, List.mem_append, List.mem_singleton]
theorem stands_follows {n : Nat} {zs : List Int} (hz : Web n zs) {l : List Int} {d : Int} (S : Stands zs n n l d) (m : Nat) (hm : m ≤ n) :
    ∃ s, folK zs l m = some s ∧ okB n s = true ∧ ∀ j : Nat, j < n → (inSetB s j = true ↔ (j : Int) ∈ l.take m) := by
  induction m with
  | zero => exact ⟨0, rfl, ok_zero hz.1, fun j _ => by rw [zero_bit]; simp⟩
  | succ m ih =>
    obtain ⟨s, hs, ok, hbit⟩ := ih (by omega)
    have hml : m < l.length := by rw [S.len]; omega
    obtain ⟨i, ei, hi⟩ := S.low _ (getD_mem hml)
    have hnot : ¬ (i : Int) ∈ l.take m := fun h => by
      obtain ⟨q, h1, h2, h3⟩ := at_take h
      have := at_one S.once h2 hml (by rw [h3, ei])
      omega
    have hns : inSetB s i = false := by
      cases h : inSetB s i with
      | false => rfl
      | true => exact absurd ((hbit i hi).1 h) hnot
    have ha := ok_add ok hi
    have hand := ok_and (hz.2.2 i hi) ha.1
    have hz0 : andI (zs.getD i 0) (gAdd s i) = 0 := by
      refine ok_ext hand.1 (ok_zero hz.1) fun j hj => ?_
      rw [hand.2 j, zero_bit, ha.2 j]
      cases hl : inSetB (zs.getD i 0) j with
      | false => rfl
      | true =>
        have hline : line zs i j = true := hl
        rw [Bool.true_and]
        cases hsj : inSetB s j with
        | true =>
          exfalso
          obtain ⟨q, h1, h2, h3⟩ := at_take ((hbit j hj).1 hsj)
          obtain ⟨q', h4, h5, h6⟩ := at_take (S.ahead q h2 j i h3 hi hline)
          have := at_one S.once h5 hml (by rw [h6, ei])
          omega
        | false =>
          rw [Bool.false_or, decide_eq_false_iff_not]
          intro e
          subst e
          exact hnot (S.ahead m hml i i ei hi hline)
    have hin : inB (i : Int) 0 ((zs.length : Int) - 1) = true := by unfold inB; rw [hz.2.1, decide_eq_true_eq]; omega
    have hf : folB zs s (l.getD m 0) = true := by
      unfold folB
      rw [ei, hin, hns, show ((i : Int)).toNat = i from by omega, hz0]
      rfl
    refine ⟨gAdd s i, ?_, ha.1, fun j hj => ?_⟩
    · unfold folK
      rw [hs]
      simp only
      rw [if_pos hf, ei]
    · rw [ha.2 j, Bool.or_eq_true, hbit j hj, mem_take_step hml, ei, decide_eq_true_eq]
      constructor
      · rintro (h | h)
        · exact .inl h
        · exact .inr (by omega)
      · rintro (h | h)
        · exact .inl h
        · exact .inr (by omega)
theorem sorted_follows {n : Nat} {zs : List Int} (hz : Web n zs) (h : sortedB zs = true) : followsB zs (sortedL zs) = true := by
  have e : sortedO zs = sortK zs n := by unfold sortedO; rw [if_pos hz.b, hz.2.1]
  unfold sortedB at h
  unfold sortedL
  rw [e] at h ⊢
  cases hs : sortK zs n with
  | none => rw [hs] at h; cases h
  | some q =>
    obtain ⟨l, d⟩ := q
    have S := sort_stands hz n hs
    obtain ⟨s, h1, _⟩ := stands_follows hz S n (Nat.le_refl _)
    show followsB zs l = true
    unfold followsB
    rw [hz.b, S.len, hz.2.1, h1]
    simp
theorem sortedL_len (zs : List Int) : (sortedL zs).length ≤ 12 := by
  unfold sortedL sortedO
  cases hw : webB zs with
  | false => simp
  | true =>
    rw [if_pos rfl]
    cases hs : sortK zs zs.length with
    | none => simp
    | some q =>
      obtain ⟨l, d⟩ := q
      have := (sort_stands (web_iff.1 hw) _ hs).len
      have := webB_len hw
      show l.length ≤ 12
      omega

/-! Lifted. -/
/-- All that those of class c reach, of the first m. -/
def liftA (zs cl : List Int) (c : Int) : Nat → Int
  | 0 => 0
  | m + 1 => if cl.getD m 0 = c then orI (liftA zs cl c m) (zs.getD m 0) else liftA zs cl c m
/-- Is one of the first m of class c in the set? -/
def hitB (cl : List Int) (c all : Int) : Nat → Bool
  | 0 => false
  | m + 1 => hitB cl c all m || (decide (cl.getD m 0 = c) && inSetB all m)
/-- The lifted lines from one of class c to the first m. -/
def liftR (zs cl : List Int) (c : Int) : Nat → Int
  | 0 => 0
  | m + 1 => if cl.getD m 0 = c then liftR zs cl c m else if hitB cl (cl.getD m 0) (liftA zs cl c zs.length) zs.length = true then gAdd (liftR zs cl c m) m else liftR zs cl c m
def liftL (zs cl : List Int) : List Int := if webB zs = true ∧ cl.length = zs.length then cl.map (fun c => liftR zs cl c zs.length) else []
theorem ok_liftA {n : Nat} {zs : List Int} (hz : Web n zs) (cl : List Int) (c : Int) (m : Nat) (hm : m ≤ n) : okB n (liftA zs cl c m) = true ∧ ∀ j : Nat, inSetB (liftA zs cl c m) j = true ↔ ∃ a, a < m ∧ cl.getD a 0 = c ∧ line zs a j = true := by
  induction m with
  | zero => exact ⟨ok_zero hz.1, fun j => by rw [show liftA zs cl c 0 = 0 from rfl, zero_bit]; simp⟩
  | succ m ih =>
    have ih := ih (by omega)
    unfold liftA
    by_cases hc : cl.getD m 0 = c
    · have ho := ok_or ih.1 (hz.2.2 m (by omega))
      rw [if_pos hc]
      refine ⟨ho.1, fun j => ?_⟩
      rw [ho.2 j, Bool.or_eq_true, ih.2 j]
      constructor
      · rintro (⟨a, h1, h2, h3⟩ | h)
        · exact ⟨a, by omega, h2, h3⟩
        · exact ⟨m, by omega, hc, h⟩
      · rintro ⟨a, h1, h2, h3⟩
        by_cases e : a = m
        · subst e; exact .inr h3
        · exact .inl ⟨a, by omega, h2, h3⟩
    · rw [if_neg hc]
      refine ⟨ih.1, fun j => ?_⟩
      rw [ih.2 j]
      constructor
      · rintro ⟨a, h1, h2, h3⟩; exact ⟨a, by omega, h2, h3⟩
      · rintro ⟨a, h1, h2, h3⟩
        have : a ≠ m := fun e => hc (by rw [← e]; exact h2)
        exact ⟨a, by omega, h2, h3⟩
theorem hit_iff (cl : List Int) (c all : Int) (m : Nat) : hitB cl c all m = true ↔ ∃ b, b < m ∧ cl.getD b 0 = c ∧ inSetB all b = true := by
  induction m with
  | zero => simp [hitB]
  | succ m ih =>
    unfold hitB
    rw [Bool.or_eq_true, Bool.and_eq_true, decide_eq_true_eq, ih]
    constructor
    · rintro (⟨b, h1, h2, h3⟩ | ⟨h2, h3⟩)
      · exact ⟨b, by omega, h2, h3⟩
      · exact ⟨m, by omega, h2, h3⟩
    · rintro ⟨b, h1, h2, h3⟩
      by_cases e : b = m
      · subst e; exact .inr ⟨h2, h3⟩
      · exact .inl ⟨b, by omega, h2, h3⟩
theorem ok_liftR {n : Nat} {zs : List Int} (hz : Web n zs) (cl : List Int) (c : Int) (m : Nat) (hm : m ≤ n) :
    okB n (liftR zs cl c m) = true ∧ ∀ j : Nat, inSetB (liftR zs cl c m) j = true ↔ j < m ∧ cl.getD j 0 ≠ c ∧ ∃ a b, a < n ∧ b < n ∧ cl.getD a 0 = c ∧ cl.getD b 0 = cl.getD j 0 ∧ line zs a b = true := by
  induction m with
  | zero => exact ⟨ok_zero hz.1, fun j => by rw [show liftR zs cl c 0 = 0 from rfl, zero_bit]; simp⟩
  | succ m ih =>
    have ih := ih (by omega)
    have hA := ok_liftA hz cl c n (Nat.le_refl _)
    have hH : hitB cl (cl.getD m 0) (liftA zs cl c zs.length) zs.length = true ↔ ∃ a b, a < n ∧ b < n ∧ cl.getD a 0 = c ∧ cl.getD b 0 = cl.getD m 0 ∧ line zs a b = true := by
      rw [hit_iff, hz.2.1]
      constructor
      · rintro ⟨b, h1, h2, h3⟩
        obtain ⟨a, h4, h5, h6⟩ := (hA.2 b).1 h3
        exact ⟨a, b, h4, h1, h5, h2, h6⟩
      · rintro ⟨a, b, h1, h2, h3, h4, h5⟩
        exact ⟨b, h2, h4, (hA.2 b).2 ⟨a, h1, h3, h5⟩⟩
    unfold liftR
    by_cases hc : cl.getD m 0 = c
    · rw [if_pos hc]
      refine ⟨ih.1, fun j => ?_⟩
      rw [ih.2 j]
      constructor
      · rintro ⟨h1, h2⟩; exact ⟨by omega, h2⟩
      · rintro ⟨h1, h2, h3⟩
        have : j ≠ m := fun e => h2 (by rw [e]; exact hc)
        exact ⟨by omega, h2, h3⟩
    · rw [if_neg hc]
      by_cases hh : hitB cl (cl.getD m 0) (liftA zs cl c zs.length) zs.length = true
      · rw [if_pos hh]
        have ha := ok_add ih.1 (show m < n by omega)
        refine ⟨ha.1, fun j => ?_⟩
        rw [ha.2 j, Bool.or_eq_true, ih.2 j, decide_eq_true_eq]
        constructor
        · rintro (⟨h1, h2⟩ | h)
          · exact ⟨by omega, h2⟩
          · subst h; exact ⟨by omega, hc, hH.1 hh⟩
        · rintro ⟨h1, h2⟩
          by_cases e : m = j
          · exact .inr e
          · exact .inl ⟨by omega, h2⟩
      · rw [if_neg hh]
        refine ⟨ih.1, fun j => ?_⟩
        rw [ih.2 j]
        constructor
        · rintro ⟨h1, h2⟩; exact ⟨by omega, h2⟩
        · rintro ⟨h1, h2, h3⟩
          have : j ≠ m := fun e => hh (hH.2 (by rw [← e]; exact h3))
          exact ⟨by omega, h2, h3⟩
theorem web_lift {n : Nat} {zs cl : List Int} (hz : Web n zs) (hc : cl.length = n) : Web n (liftL zs cl) ∧
    (∀ i, i < n → (liftL zs cl).getD i 0 = liftR zs cl (cl.getD i 0) n) ∧
    ∀ i j, i < n → (line (liftL zs cl) i j = true ↔ j < n ∧ cl.getD j 0 ≠ cl.getD i 0 ∧ ∃ a b, a < n ∧ b < n ∧ cl.getD a 0 = cl.getD i 0 ∧ cl.getD b 0 = cl.getD j 0 ∧ line zs a b = true) := by
  have e : liftL zs cl = cl.map (fun c => liftR zs cl c n) := by unfold liftL; rw [if_pos ⟨hz.b, by rw [hc, hz.2.1]⟩, hz.2.1]
  have hg : ∀ i, i < n → (cl.map (fun c => liftR zs cl c n)).getD i 0 = liftR zs cl (cl.getD i 0) n := by
    intro i hi
    rw [List.getD_eq_getElem?_getD, List.getElem?_map, List.getD_eq_getElem?_getD, List.getElem?_eq_getElem (show i < cl.length by omega)]
    rfl
  rw [e]
  refine ⟨⟨hz.1, by simp [hc], fun i hi => ?_⟩, hg, fun i j hi => ?_⟩
  · rw [hg i hi]; exact (ok_liftR hz cl _ n (Nat.le_refl _)).1
  · unfold line
    rw [hg i hi]
    exact (ok_liftR hz cl _ n (Nat.le_refl _)).2 j
theorem liftL_len (zs cl : List Int) : (liftL zs cl).length ≤ 12 := by
  unfold liftL
  split
  · rename_i h; have := webB_len h.1; simp; omega
  · simp
end Go.Proofs.Ytgolhjmbloiakab

/- What the law on rows asks of the lists. -/
namespace Go.Proofs.Ytgolhjmbloiakab
open Go.RowKit

theorem rw_way {es : List Ev} {rows : List Int} (hx : es.length ≤ 12) (h : rowsL es rows = true) {a b : Nat} (ha : a < es.length) (hw : Way (rwL es rows) a b) : ∃ i k, i < k ∧ k < rows.length ∧ rows.getD i 0 = (a : Int) ∧ rows.getD k 0 = (b : Int) := by
  obtain ⟨hn, _, hr⟩ := rows_use hx h
  obtain ⟨h1, h2⟩ := web_rwAll hx hr rows.length (Nat.le_refl _)
  have step : ∀ x y, x < es.length → line (rwL es rows) x y = true → ∃ i k, i < k ∧ k < rows.length ∧ rows.getD i 0 = (x : Int) ∧ rows.getD k 0 = (y : Int) := fun x y hx' hl => by
    obtain ⟨i, q, hi, hq, hp, e1, e2⟩ := (h2 x y hx').1 hl
    unfold rwP at hp
    simp only [Bool.and_eq_true, decide_eq_true_eq] at hp
    exact ⟨i, q, hp.1, hq, e1, e2⟩
  induction hw with
  | one g => exact step _ _ ha g
  | more g l ih =>
    obtain ⟨i, k, hik, hk, e1, e2⟩ := ih
    obtain ⟨i', k', hik', hk', e1', e2'⟩ := step _ _ (g.lt h1 ha) l
    have := nodup_get hn (p := k) (q := i') hk (by omega) (by rw [e2, e1'])
    subst this
    exact ⟨i, k', by omega, hk', e1, e2'⟩
theorem rw_round {es : List Ev} {rows : List Int} (hx : es.length ≤ 12) (h : rowsL es rows = true) : roundB (rwL es rows) = false := by
  obtain ⟨hn, _, hr⟩ := rows_use hx h
  have h1 := (web_rwAll hx hr rows.length (Nat.le_refl _)).1
  cases hq : roundB (rwL es rows) with
  | false => rfl
  | true =>
    exfalso
    obtain ⟨a, ha, hw⟩ := (round_iff h1).1 hq
    obtain ⟨i, k, hik, hk, e1, e2⟩ := rw_way hx h ha hw
    have := nodup_get hn (p := i) (q := k) (by omega) hk (by rw [e1, e2])
    omega
theorem row_all {dss : List (List Dd)} {n : Int} (h0 : 0 ≤ n) (h1 : n < rcntB dss) :
    workB dss = true ∧ rowsB dss (ratB dss n) = true ∧ (ratB dss n).length ≤ 36 ∧ (rwB dss (ratB dss n)).length = (eventsB dss).length ∧ roundB (rwB dss (ratB dss n)) = false ∧
    (∀ i, i < (ratB dss n).length → ∃ a : Nat, (ratB dss n).getD i 0 = (a : Int) ∧ a < (eventsB dss).length) ∧
    (∀ i k a b : Nat, i < (ratB dss n).length → k < (ratB dss n).length → (ratB dss n).getD i 0 = (a : Int) → (ratB dss n).getD k 0 = (b : Int) → inSetB ((rwB dss (ratB dss n)).getD a 0) b = (((eventsB dss).getD a zE).2.2.2.1 == ((eventsB dss).getD b zE).2.2.2.1 && decide (i < k))) ∧
    ∀ m, 0 ≤ m → m < rcntB dss → decide (ratB dss m = ratB dss n) = decide (m = n) := by
  have hb : workB dss = true := by
    cases hb : workB dss with
    | true => rfl
    | false => rw [rcntB, hb] at h1; simp at h1; omega
  have hx := eventsB_12 dss
  have hc : rcntB dss = rcntL (eventsB dss) := by rw [rcntB, if_pos hb]
  have ha : ∀ m, 0 ≤ m → m < rcntB dss → ratB dss m = ratL (eventsB dss) m := fun m g0 g1 => by unfold ratB; rw [if_pos ⟨g0, g1⟩]
  have hs : rowsL (eventsB dss) (ratB dss n) = true := by rw [ha n h0 h1]; exact rat_ok hb h0 (by rw [← hc]; exact h1)
  have hso : rowsB dss (ratB dss n) = true := by rw [rowsB, hb, hs]; rfl
  have hw : rwB dss (ratB dss n) = rwL (eventsB dss) (ratB dss n) := by rw [rwB, if_pos hso]
  obtain ⟨hn, hl, hr⟩ := rows_use hx hs
  have h12 := (web_rwAll hx hr (ratB dss n).length (Nat.le_refl _)).1
  refine ⟨hb, hso, hl, by rw [hw]; exact h12.2.1, by rw [hw]; exact rw_round hx hs, fun i hi => ?_, fun i k a b hi hk ea eb => ?_, fun m g0 g1 => ?_⟩
  · obtain ⟨r0, r1⟩ := hr i hi
    obtain ⟨a, e⟩ := Int.eq_ofNat_of_zero_le r0
    exact ⟨a, e, by omega⟩
  · have := row_cell hx hs hi hk
    rw [ea, eb, Int.toNat_natCast, Int.toNat_natCast] at this
    rw [hw]
    unfold line at this
    rw [this]
    unfold rwP plE
    rw [ea, eb, Int.toNat_natCast, Int.toNat_natCast, Bool.and_comm]
  · rw [ha m g0 g1, ha n h0 h1]
    rw [hc] at h1 g1
    refine decide_eq_decide.2 ⟨fun e => rat_inj hb h0 h1 g0 g1 e, fun e => by rw [e]⟩
end Go.Proofs.Ytgolhjmbloiakab

/- What the law on sources asks of the lists. -/
namespace Go.Proofs.Ytgolhjmbloiakab
open Go.RowKit

theorem idxB_range {f : Ev → Bool} {es : List Ev} (hx : es.length ≤ 12) {i : Nat} (hi : i < (idxB f es).length) : 0 ≤ (idxB f es).getD i 0 ∧ (idxB f es).getD i 0 < (es.length : Int) := by
  have hm : (idxB f es).getD i 0 ∈ idxB f es := by
    rw [List.getD_eq_getElem?_getD, List.getElem?_eq_getElem hi]
    exact List.getElem_mem hi
  unfold idxB at hm ⊢
  rw [if_pos hx] at hm ⊢
  exact idxK_lt f es _ _ hm
theorem rises_nodup : ∀ l : List Int, l.Pairwise (· < ·) → l.Nodup := fun l h => h.imp (fun h e => by omega)
theorem src_all {dss : List (List Dd)} {n : Int} (h0 : 0 ≤ n) (h1 : n < cntB dss) :
    workB dss = true ∧ sourceB dss (atB dss n) = true ∧ (fwB dss (atB dss n)).length = (eventsB dss).length ∧ (idxB rdE (eventsB dss)).length ≤ 12 ∧ (atB dss n).length = (idxB rdE (eventsB dss)).length ∧
    memN (fwB dss (atB dss n)) (eventsB dss).length = (idxB rdE (eventsB dss)).length ∧
    (∀ i, i < (idxB rdE (eventsB dss)).length → ∃ a j : Nat, (atB dss n).getD i 0 = (a : Int) ∧ (idxB rdE (eventsB dss)).getD i 0 = (j : Int) ∧ a < (eventsB dss).length ∧ j < (eventsB dss).length ∧ inSetB ((fwB dss (atB dss n)).getD a 0) j = true ∧ ((eventsB dss).getD a zE).2.2.2.1 = ((eventsB dss).getD j zE).2.2.2.1) ∧
    ∀ m, 0 ≤ m → m < cntB dss → decide (atB dss m = atB dss n) = decide (m = n) := by
  have hb : workB dss = true := by
    cases hb : workB dss with
    | true => rfl
    | false => rw [cntB, hb] at h1; simp at h1; omega
  have hx := eventsB_le dss
  obtain ⟨hf, hn⟩ := chc_full hb
  have hc : cntB dss = cntK (chcL (eventsB dss)) (chcL (eventsB dss)).length := by rw [cntB, if_pos hb]
  have ha : ∀ m, 0 ≤ m → m < cntB dss → atB dss m = atL (chcL (eventsB dss)) m := fun m g0 g1 => by unfold atB; rw [if_pos ⟨g0, g1⟩]
  have hs : srcB (chcL (eventsB dss)) (atB dss n) = true := by rw [ha n h0 h1]; exact at_src hf n
  have hso : sourceB dss (atB dss n) = true := by rw [sourceB, hb, hs]; rfl
  obtain ⟨sl, su⟩ := src_use hx hs
  have hw : fwB dss (atB dss n) = fwK (eventsB dss).length (idxB rdE (eventsB dss)) (atB dss n) (idxB rdE (eventsB dss)).length := by rw [fwB, if_pos hso]; rfl
  have rr : ∀ i, i < (idxB rdE (eventsB dss)).length → 0 ≤ (idxB rdE (eventsB dss)).getD i 0 ∧ (idxB rdE (eventsB dss)).getD i 0 < ((eventsB dss).length : Int) := fun i hi => idxB_range hx hi
  have hnd : (idxB rdE (eventsB dss)).Nodup := by
    unfold idxB
    rw [if_pos hx]
    exact rises_nodup _ (idxK_rises rdE _ _)
  have l12 : (idxB rdE (eventsB dss)).length ≤ 12 := by
    unfold idxB
    rw [if_pos hx]
    have := idxK_len rdE (eventsB dss) (eventsB dss).length
    omega
  have fl := fw_line hx (idxB rdE (eventsB dss)).length rr (fun i hi => (su i hi).1)
  refine ⟨hb, hso, by rw [hw, fwK_len], l12, sl.symm, ?_, fun i hi => ?_, fun m g0 g1 => ?_⟩
  · rw [hw]
    exact fw_count hx hnd _ (Nat.le_refl _) rr (fun i hi => (su i hi).1)
  · obtain ⟨⟨f0, f1⟩, pl⟩ := su i hi
    obtain ⟨r0, r1⟩ := rr i hi
    obtain ⟨a, ea⟩ := Int.eq_ofNat_of_zero_le f0
    obtain ⟨j, ej⟩ := Int.eq_ofNat_of_zero_le r0
    refine ⟨a, j, ea, ej, by omega, by omega, ?_, ?_⟩
    · rw [hw]
      exact (fl.2 a j (by omega)).2 ⟨i, hi, ea, ej⟩
    · unfold plE at pl
      rw [ea, ej, Int.toNat_natCast, Int.toNat_natCast] at pl
      exact pl
  · rw [ha m g0 g1, ha n h0 h1]
    rw [hc] at h1 g1
    exact decide_eq_decide.2 (at_one' hf hn g0 g1 h0 h1)
theorem mem_le (s : Int) : (mem s 12).length ≤ 12 := by
  rw [mem_cnt]
  have := List.countP_le_length (p := fun j : Nat => inSetB s (j : Int)) (l := List.range 12)
  rw [List.length_range] at this
  exact this
theorem memN_le (l : List Int) : ∀ m : Nat, memN l m ≤ 12 * m
  | 0 => by simp [memN]
  | m + 1 => by
    have h1 := memN_le l m
    have h2 := mem_le (l.getD m 0)
    rw [memN]
    omega
end Go.Proofs.Ytgolhjmbloiakab

/- Plain mathematics of tales: what the specification answers at every argument. -/
namespace Go.Proofs.Ytgolhjmbloiakab
open Go.RowKit

def taleB (dss : List (List Dd)) (f rows : List Int) : Bool := sourceB dss f && rowsB dss rows
/-- From each read to all that stand behind what it is from. -/
def agK (n : Nat) (rs f row : List Int) : Nat → List Int
  | 0 => List.replicate n 0
  | k + 1 => (agK n rs f row k).set (rs.getD k 0).toNat (row.getD (f.getD k 0).toNat 0)
def agL (es : List Ev) (f rows : List Int) : List Int := agK es.length (idxB rdE es) f (rwL es rows) (idxB rdE es).length
def agB (dss : List (List Dd)) (f rows : List Int) : List Int := if taleB dss f rows = true then agL (eventsB dss) f rows else []
def vlE (es : List Ev) (x : Int) : Int := (es.getD x.toNat zE).2.2.2.2.1
/-- The value of the last write at each place. -/
def lastK (es : List Ev) (rows : List Int) : Nat → List Int
  | 0 => [0, 0, 0]
  | k + 1 => (lastK es rows k).set (plE es (rows.getD k 0)).toNat (vlE es (rows.getD k 0))
def ocK (es : List Ev) (f : List Int) : Nat → List Int
  | 0 => []
  | k + 1 => ocK es f k ++ [vlE es (f.getD k 0)]
def ocL (es : List Ev) (f rows : List Int) : List Int := ocK es f f.length ++ lastK es rows rows.length
def ocB (dss : List (List Dd)) (f rows : List Int) : List Int := if taleB dss f rows = true then ocL (eventsB dss) f rows else []
def tcB (dss : List (List Dd)) : Int := if workB dss = true then cntB dss * rcntB dss else -1
def taB (dss : List (List Dd)) (n : Int) : Bool := decide (0 ≤ n ∧ n < tcB dss)
def tfB (dss : List (List Dd)) (n : Int) : List Int := if taB dss n = true then atB dss (n / rcntB dss) else []
def trB (dss : List (List Dd)) (n : Int) : List Int := if taB dss n = true then ratB dss (n % rcntB dss) else []
theorem agK_len (n : Nat) (rs f row : List Int) : ∀ k : Nat, (agK n rs f row k).length = n
  | 0 => by simp [agK]
  | k + 1 => by rw [agK, List.length_set, agK_len n rs f row k]
theorem lastK_len (es : List Ev) (rows : List Int) : ∀ k : Nat, (lastK es rows k).length = 3
  | 0 => rfl
  | k + 1 => by rw [lastK, List.length_set, lastK_len es rows k]
theorem ocK_len (es : List Ev) (f : List Int) : ∀ k : Nat, (ocK es f k).length = k
  | 0 => rfl
  | k + 1 => by rw [ocK, List.length_append, ocK_len es f k]; rfl
theorem ocK_get (es : List Ev) (f : List Int) : ∀ (k i : Nat), i < k → (ocK es f k).getD i 0 = vlE es (f.getD i 0)
  | 0, i, h => by omega
  | k + 1, i, h => by
    rw [ocK, List.getD_eq_getElem?_getD]
    by_cases hi : i < k
    · rw [List.getElem?_append_left (by rw [ocK_len]; exact hi), ← List.getD_eq_getElem?_getD, ocK_get es f k i hi]
    · obtain rfl : i = k := by omega
      rw [List.getElem?_append_right (by rw [ocK_len]; exact Nat.le_refl _), ocK_len, Nat.sub_self]
      rfl
theorem web_ag {n : Nat} {rs f row : List Int} (hn : n ≤ 12) (hd : rs.Nodup) (hrow : Web n row) : ∀ k : Nat, k ≤ rs.length → (∀ i, i < k → 0 ≤ rs.getD i 0 ∧ rs.getD i 0 < (n : Int)) → (∀ i, i < k → 0 ≤ f.getD i 0 ∧ f.getD i 0 < (n : Int)) →
    Web n (agK n rs f row k) ∧ ∀ a j : Nat, a < n → (line (agK n rs f row k) a j = true ↔ ∃ i, i < k ∧ rs.getD i 0 = (a : Int) ∧ line row (f.getD i 0).toNat j = true)
  | 0, _, _, _ => ⟨Web.zero hn, fun a j _ => by unfold agK; rw [line_zero]; simp⟩
  | k + 1, hk, hr, hf => by
    obtain ⟨h1, h2⟩ := web_ag hn hd hrow k (by omega) (fun i hi => hr i (by omega)) (fun i hi => hf i (by omega))
    obtain ⟨a0, ha0⟩ := Int.eq_ofNat_of_zero_le (hr k (by omega)).1
    obtain ⟨b0, hb0⟩ := Int.eq_ofNat_of_zero_le (hf k (by omega)).1
    have ha : a0 < n := by have := (hr k (by omega)).2; omega
    have hb : b0 < n := by have := (hf k (by omega)).2; omega
    have e0 : agK n rs f row (k + 1) = (agK n rs f row k).set a0 (row.getD b0 0) := by rw [agK, ha0, hb0, Int.toNat_natCast, Int.toNat_natCast]
    rw [e0]
    refine ⟨h1.set (hrow.2.2 b0 hb), fun a j haa => ?_⟩
    have e1 := h2 a j haa
    unfold line at e1 ⊢
    rw [getD_set _ _ _ _ (by rw [h1.2.1]; exact ha)]
    by_cases e : a0 = a
    · subst e
      simp only [if_true]
      constructor
      · intro h
        refine ⟨k, by omega, ha0, ?_⟩
        rw [hb0, Int.toNat_natCast]
        exact h
      · rintro ⟨i, hi, r1, r2⟩
        have : i = k := nodup_get hd (by omega) (by omega) (by rw [r1, ha0])
        subst this
        rw [hb0, Int.toNat_natCast] at r2
        exact r2
    · simp only [e, if_false]
      rw [e1]
      constructor
      · rintro ⟨i, hi, r⟩
        exact ⟨i, by omega, r⟩
      · rintro ⟨i, hi, r1, r2⟩
        by_cases ei : i = k
        · subst ei; rw [ha0] at r1; omega
        · exact ⟨i, by omega, r1, r2⟩
theorem plW_in {es : List Ev} {rows : List Int} (hx : es.length ≤ 12) (h : rowsL es rows = true) {i : Nat} (hi : i < rows.length) : 0 ≤ plE es (rows.getD i 0) ∧ plE es (rows.getD i 0) ≤ 2 := by
  have hp := rows_perm hx h
  have hm : rows.getD i 0 ∈ rows := by
    rw [List.getD_eq_getElem?_getD, List.getElem?_eq_getElem hi]
    exact List.getElem_mem hi
  have hm := hp.mem_iff.2 hm
  unfold allW at hm
  unfold plE
  rcases List.mem_append.1 hm with hm | hm
  · rcases List.mem_append.1 hm with hm | hm
    · rw [(plcW_mem hx hm).2]; decide
    · rw [(plcW_mem hx hm).2]; decide
  · rw [(plcW_mem hx hm).2]; decide
/-- The last one at its place tells the value. -/
theorem lastK_at {es : List Ev} {rows : List Int} (hx : es.length ≤ 12) (h : rowsL es rows = true) {k : Nat} (hk : k < rows.length) : ∀ m : Nat, k < m → m ≤ rows.length → (∀ q, k < q → q < m → plE es (rows.getD q 0) ≠ plE es (rows.getD k 0)) →
    (lastK es rows m).getD (plE es (rows.getD k 0)).toNat 0 = vlE es (rows.getD k 0)
  | 0, h0, _, _ => by omega
  | m + 1, hm, hl, hq => by
    have p1 := plW_in hx h hk
    have p2 := plW_in hx h (show m < rows.length by omega)
    rw [lastK, getD_set _ _ _ _ (by rw [lastK_len]; omega)]
    by_cases e : m = k
    · subst e; rw [if_pos rfl]
    · have hne := hq m (by omega) (by omega)
      rw [if_neg (by omega)]
      exact lastK_at hx h hk m (by omega) (by omega) (fun q h1 h2 => hq q h1 (by omega))
end Go.Proofs.Ytgolhjmbloiakab
