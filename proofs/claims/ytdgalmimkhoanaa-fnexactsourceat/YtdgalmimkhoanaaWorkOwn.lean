/- Works in memory of one's own: lists of deeds in blocks, what turns them, what leaves them. -/
import Derived.Test.YtdgalmimkhoanaaMA
import Derived.Outline
import Derived.OwnWalk
import Derived.Lib.Hide
namespace Go.Proofs.Ytdgalmimkhoanaa
open Go.ChangeShapes Go.WideShapes Go.ChangeAt Go.RowKit

theorem Try.infoD : (Try.prog.info? 84).map (fun i => (i.zero, i.size, i.bytes)) = some (some (.agg #[.int .i64 0, .int .i64 0, .int .i64 0, .int .i64 0]), 4, 32) := by kernel_rfl
/-- Block g is a plain row of at least n cells. -/
def Blk (w : World) (g n : Nat) : Prop := ∃ cur t, w.heap[g]? = some (.cells cur t (0, 0)) ∧ n ≤ cur.size
theorem Blk.free {w : World} {g n : Nat} (h : Blk w g n) (i : Nat) : w.frozen? ⟨g, i, none⟩ = false := by
  obtain ⟨cur, t, h, _⟩ := h
  exact frozen_of_row w g i cur t h
theorem Blk.cell {w : World} {g n : Nat} (h : Blk w g n) {i : Nat} (hi : i < n) : ∃ u, w.cell? ⟨g, i, none⟩ = some u := by
  obtain ⟨cur, t, h, hn⟩ := h
  exact ⟨cur[i]'(by omega), by rw [cell_of_row w g i cur t (0, 0) h, Array.getElem?_eq_getElem (by omega)]⟩
theorem Blk.lt {w : World} {g n : Nat} (h : Blk w g n) : g < w.heap.size := by
  obtain ⟨cur, t, h, _⟩ := h
  exact (Array.getElem?_eq_some_iff.1 h).1
theorem Blk.set {w : World} {g n : Nat} (h : Blk w g n) (i : Nat) (x : Value) : Blk (w.setCell ⟨g, i, none⟩ x) g n := by
  obtain ⟨cur, t, h, hn⟩ := h
  exact ⟨cur.setIfInBounds i x, t, heap_setCell_same w g i cur t x h, by simpa using hn⟩
theorem Blk.kept {w w' : World} {g n : Nat} {row : Option Nat} (h : Blk w g n) (hg : w.grownBy w' row) (hne : row ≠ some g) : Blk w' g n := by
  have hl := h.lt
  obtain ⟨cur, t, h, hn⟩ := h
  exact ⟨cur, t, (hg.block g hl (fun e => hne e.symm)).trans h, hn⟩
/-- A list of deeds in a block of one's own. -/
def OwnD (w : World) (base : Nat) (v : Value) (ds : List Dd) : Prop :=
  ∃ (a : Option Addr) (cap : Nat), v = .slice a ds.length (ds.length + cap) ∧ (ds = [] ∨ ∃ g, a = some ⟨g, 0, none⟩ ∧ base ≤ g ∧ Blk w g (ds.length * 4) ∧ ∀ i, i < ds.length → AtD w g (i * 4) (ds.getD i zD))
theorem OwnD.rd {w : World} {base : Nat} {v : Value} {ds : List Dd} (h : OwnD w base v ds) : RdD w v ds := by
  obtain ⟨a, cap, hv, h⟩ := h
  refine ⟨a, cap, hv, ?_⟩
  rcases h with h | ⟨g, ha, _, hb, hc⟩
  · exact .inl h
  · exact .inr ⟨g, 0, ha, hb.lt, fun i hi => by rw [Nat.zero_add]; exact hc i hi⟩
theorem putD {w : World} {g o : Nat} {d : Dd} {b' o' : Nat} {d' : Dd} (h : AtD w b' o' d') (hne : b' ≠ g ∨ o' + 4 ≤ o ∨ o + 4 ≤ o') :
    AtD ((((w.setCell ⟨g, o, none⟩ (.int .i64 d.1)).setCell ⟨g, o + 1, none⟩ (.int .i64 d.2.1)).setCell ⟨g, o + 2, none⟩ (.int .i64 d.2.2.1)).setCell ⟨g, o + 3, none⟩ (.int .i64 d.2.2.2)) b' o' d' := by
  have key : ∀ (w : World) (j : Nat) (x : Value) (q : Nat), q < o' + 4 → o' ≤ q → o ≤ j → j < o + 4 → (w.setCell ⟨g, j, none⟩ x).cell? ⟨b', q, none⟩ = w.cell? ⟨b', q, none⟩ := by
    intro w j x q h1 h2 h3 h4
    refine World.cell?_setCell_other _ _ _ _ (fun e => ?_)
    have e1 : g = b' ∧ j = q := by simpa using e
    omega
  unfold AtD at *
  refine ⟨?_, ?_, ?_, ?_⟩
  all_goals
    rw [key _ _ _ _ (by omega) (by omega) (by omega) (by omega), key _ _ _ _ (by omega) (by omega) (by omega) (by omega), key _ _ _ _ (by omega) (by omega) (by omega) (by omega), key _ _ _ _ (by omega) (by omega) (by omega) (by omega)]
  · exact h.1
  · exact h.2.1
  · exact h.2.2.1
  · exact h.2.2.2
theorem putD_same {w : World} {g o n : Nat} {d : Dd} (hb : Blk w g n) (ho : o + 4 ≤ n) :
    AtD ((((w.setCell ⟨g, o, none⟩ (.int .i64 d.1)).setCell ⟨g, o + 1, none⟩ (.int .i64 d.2.1)).setCell ⟨g, o + 2, none⟩ (.int .i64 d.2.2.1)).setCell ⟨g, o + 3, none⟩ (.int .i64 d.2.2.2)) g o d := by
  have oth : ∀ (w : World) (j q : Nat) (x : Value), j ≠ q → (w.setCell ⟨g, j, none⟩ x).cell? ⟨g, q, none⟩ = w.cell? ⟨g, q, none⟩ := by
    intro w j q x h
    exact World.cell?_setCell_other _ _ _ _ (by intro e; apply h; injection e)
  have h1 := hb.set o (.int .i64 d.1)
  have h2 := h1.set (o + 1) (.int .i64 d.2.1)
  have h3 := h2.set (o + 2) (.int .i64 d.2.2.1)
  obtain ⟨u0, e0⟩ := hb.cell (show o < n by omega)
  obtain ⟨u1, e1⟩ := h1.cell (show o + 1 < n by omega)
  obtain ⟨u2, e2⟩ := h2.cell (show o + 2 < n by omega)
  obtain ⟨u3, e3⟩ := h3.cell (show o + 3 < n by omega)
  refine ⟨?_, ?_, ?_, ?_⟩
  · rw [oth _ _ _ _ (by omega), oth _ _ _ _ (by omega), oth _ _ _ _ (by omega), World.cell?_setCell_same _ _ _ e0]
  · rw [oth _ _ _ _ (by omega), oth _ _ _ _ (by omega), World.cell?_setCell_same _ _ _ e1]
  · rw [oth _ _ _ _ (by omega), World.cell?_setCell_same _ _ _ e2]
  · rw [World.cell?_setCell_same _ _ _ e3]
theorem Blk.ofOwn {w : World} {base e size g n : Nat} {xs : List Value} (h : w.ownsRow base e size (.slice (some ⟨g, 0, none⟩) n n) n xs) : Blk w g (n * size) := by
  rcases h.2 with ⟨hv, _⟩ | ⟨g', cap, cur, hv, _, hg, _, _, hs, _⟩
  · cases hv
  · simp only [Value.slice.injEq, Option.some.injEq, Addr.mk.injEq, and_true, true_and] at hv
    obtain ⟨rfl, rfl⟩ := hv
    exact ⟨cur, e, hg, by rw [hs]; exact Nat.le_refl _⟩
theorem OwnD.keep {w w' : World} {base : Nat} {v : Value} {ds : List Dd} (h : OwnD w base v ds) (k : Keep w w') : OwnD w' base v ds := by
  obtain ⟨a, cap, hv, h⟩ := h
  refine ⟨a, cap, hv, ?_⟩
  rcases h with h | ⟨g, ha, hb, hB, hc⟩
  · exact .inl h
  · exact .inr ⟨g, ha, hb, hB.kept k.grownBy (by simp), fun i hi => (hc i hi).keep hB.lt k⟩
theorem OwnD.kept {w w' : World} {base : Nat} {v : Value} {ds : List Dd} {row : Option Nat} (h : OwnD w base v ds) (hg : w.grownBy w' row) (hne : ds = [] ∨ v.ownBlock ≠ row) : OwnD w' base v ds := by
  obtain ⟨a, cap, rfl, h⟩ := h
  refine ⟨a, cap, rfl, ?_⟩
  rcases h with h | ⟨g, rfl, hb, hB, hc⟩
  · exact .inl h
  · rcases hne with hne | hne
    · exact .inl hne
    · have hne' : row ≠ some g := fun e => hne (by simp [Value.ownBlock, e])
      have hcell : ∀ j, w'.cell? ⟨g, j, none⟩ = w.cell? ⟨g, j, none⟩ := fun j => World.cell?_of_block (w := w) (hg.block g hB.lt (fun e => hne' e.symm))
      exact .inr ⟨g, rfl, hb, hB.kept hg hne', fun i hi => ⟨(hcell _).trans (hc i hi).1, (hcell _).trans (hc i hi).2.1, (hcell _).trans (hc i hi).2.2.1, (hcell _).trans (hc i hi).2.2.2⟩⟩
theorem OwnD.mono {w : World} {base base' : Nat} {v : Value} {ds : List Dd} (h : OwnD w base v ds) (hb : base' ≤ base) : OwnD w base' v ds := by
  obtain ⟨a, cap, hv, h⟩ := h
  refine ⟨a, cap, hv, ?_⟩
  rcases h with h | ⟨g, ha, hg, rest⟩
  · exact .inl h
  · exact .inr ⟨g, ha, Nat.le_trans hb hg, rest⟩
theorem OwnD.block {w : World} {base : Nat} {v : Value} {ds : List Dd} (h : OwnD w base v ds) (hne : ds ≠ []) : ∃ g, v.ownBlock = some g ∧ base ≤ g ∧ g < w.heap.size := by
  obtain ⟨a, cap, rfl, h⟩ := h
  rcases h with h | ⟨g, rfl, hb, hB, _⟩
  · exact absurd h hne
  · exact ⟨g, rfl, hb, hB.lt⟩
/-- The values of a row of slices lie each in a block of its own, and none in the row's. -/
def Apart (g n : Nat) (V : Nat → Value) (D : Nat → List Dd) : Prop :=
  (∀ i, i < n → D i ≠ [] → (V i).ownBlock ≠ some g) ∧ ∀ i j, i < j → j < n → D i ≠ [] → D j ≠ [] → (V i).ownBlock ≠ (V j).ownBlock
/-- A work in memory of one's own. -/
def OwnW (w : World) (base : Nat) (v : Value) (dss : List (List Dd)) : Prop :=
  ∃ (a : Option Addr) (cap : Nat), v = .slice a dss.length cap ∧ (dss = [] ∨ ∃ (g : Nat) (V : Nat → Value), a = some ⟨g, 0, none⟩ ∧ base ≤ g ∧ Blk w g dss.length ∧
    (∀ i, i < dss.length → w.cell? ⟨g, i, none⟩ = some (V i) ∧ OwnD w base (V i) (dss.getD i [])) ∧ Apart g dss.length V (fun i => dss.getD i []))
theorem OwnW.rd {w : World} {base : Nat} {v : Value} {dss : List (List Dd)} (h : OwnW w base v dss) : RdW w v dss := by
  obtain ⟨a, cap, hv, h⟩ := h
  refine ⟨a, cap, hv, ?_⟩
  rcases h with h | ⟨g, V, ha, _, hb, hc, _⟩
  · exact .inl h
  · exact .inr ⟨g, 0, ha, hb.lt, fun i hi => ⟨V i, by rw [Nat.zero_add]; exact (hc i hi).1, (hc i hi).2.rd⟩⟩
theorem Try.infoDS : (Try.prog.info? 77).map (fun i => (i.zero, i.size, i.bytes)) = some (some (.slice none 0 0), 1, 24) := by kernel_rfl
theorem set_far {w : World} {g i b j : Nat} {x : Value} (h : b ≠ g) : (w.setCell ⟨g, i, none⟩ x).cell? ⟨b, j, none⟩ = w.cell? ⟨b, j, none⟩ :=
  World.cell?_setCell_other _ _ _ _ (fun e => h (by injection e with e1; exact e1.symm))
theorem grown_put (w : World) (g j : Nat) (v : Value) : w.grownBy (w.setCell ⟨g, j, none⟩ v) (some g) :=
  ⟨rfl, rfl, rfl, by simp, fun k _ hk => heap_setCell_other w ⟨g, j, none⟩ k v (fun e => hk (by simp [e]))⟩
def mkD (k : Int) (i : Nat) : Dd := (k + 4 * i, k + 4 * i + 1, k + 4 * i + 1 + 1, k + 4 * i + 1 + 1 + 1)
def mksD (k : Int) (n : Nat) : List Dd := (List.range n).map (mkD k)
theorem mksD_len (k : Int) (n : Nat) : (mksD k n).length = n := by simp [mksD]
theorem mksD_get (k : Int) (n i : Nat) (h : i < n) : (mksD k n).getD i zD = mkD k i := range_getD _ _ _ _ h
/-- The block that a list of deeds has (an empty one: none). -/
def ownO (v : Value) (ds : List Dd) : Option Nat := if ds = [] then none else v.ownBlock
theorem cell_same {w w' : World} {b : Nat} (h : w'.heap[b]? = w.heap[b]?) (o : Nat) : w'.cell? ⟨b, o, none⟩ = w.cell? ⟨b, o, none⟩ := by
  simp only [World.cell?, h]
theorem AtD.same {w w' : World} {b o : Nat} {d : Dd} (h : AtD w b o d) (hh : w'.heap[b]? = w.heap[b]?) : AtD w' b o d :=
  ⟨(cell_same hh _).trans h.1, (cell_same hh _).trans h.2.1, (cell_same hh _).trans h.2.2.1, (cell_same hh _).trans h.2.2.2⟩
theorem Blk.same {w w' : World} {g n : Nat} (h : Blk w g n) (hh : w'.heap[g]? = w.heap[g]?) : Blk w' g n := by
  obtain ⟨cur, t, h, hn⟩ := h
  exact ⟨cur, t, hh.trans h, hn⟩
theorem OwnD.same {w w' : World} {base : Nat} {v : Value} {ds : List Dd} (h : OwnD w base v ds) (hh : ∀ g, ownO v ds = some g → g < w.heap.size → base ≤ g → w'.heap[g]? = w.heap[g]?) : OwnD w' base v ds := by
  obtain ⟨a, cap, rfl, h⟩ := h
  refine ⟨a, cap, rfl, ?_⟩
  rcases h with h | ⟨g, rfl, hb, hB, hA⟩
  · exact .inl h
  · by_cases h0 : ds = []
    · exact .inl h0
    · have e := hh g (by rw [ownO, if_neg h0]; rfl) hB.lt hb
      exact .inr ⟨g, rfl, hb, hB.same e, fun i hi => (hA i hi).same e⟩
theorem OwnD.keptO {w w' : World} {base : Nat} {v : Value} {ds : List Dd} {row : Option Nat} (h : OwnD w base v ds) (hg : w.grownBy w' row) (hne : ownO v ds = none ∨ ownO v ds ≠ row) : OwnD w' base v ds :=
  h.same (fun g hgg hlt _ => hg.block g hlt (by
    rcases hne with e | e
    · rw [e] at hgg; cases hgg
    · rw [hgg] at e; exact e))
/-- All that has turned lies from block lo to before block hi. -/
structure Only (lo hi : Nat) (w w' : World) : Prop where
  os : w'.os = w.os
  tape : w'.tape = w.tape
  output : w'.output = w.output
  size : w.heap.size ≤ w'.heap.size
  block : ∀ b, b < w.heap.size → (b < lo ∨ hi ≤ b) → w'.heap[b]? = w.heap[b]?
theorem Only.refl (lo hi : Nat) (w : World) : Only lo hi w w := ⟨rfl, rfl, rfl, Nat.le_refl _, fun _ _ _ => rfl⟩
theorem Only.grown {lo hi : Nat} {a w w' : World} {row : Option Nat} (h : Only lo hi a w) (hg : w.grownBy w' row) (hr : ∀ k, row = some k → lo ≤ k ∧ k < hi) : Only lo hi a w' :=
  ⟨hg.os.trans h.os, hg.tape.trans h.tape, hg.output.trans h.output, Nat.le_trans h.size hg.size, fun b hb ho => (hg.block b (Nat.lt_of_lt_of_le hb h.size) (fun e => by have := hr b e.symm; omega)).trans (h.block b hb ho)⟩
theorem Keep.only {a w w' : World} {lo hi : Nat} (h : Keep a w) (k : Only lo hi w w') (hl : a.heap.size ≤ lo) : Keep a w' :=
  ⟨k.os.trans (Below.os h), k.tape.trans (Below.tape h), k.output.trans (Below.output h), Nat.le_trans (Below.size h) k.size, fun b hb => (k.block b (Nat.lt_of_lt_of_le hb h.size) (.inl (Nat.lt_of_lt_of_le hb hl))).trans (Below.block h b hb)⟩
theorem OwnW.only {w w' : World} {base lo hi : Nat} {v : Value} {dss : List (List Dd)} (h : OwnW w base v dss) (k : Only lo hi w w') (hb : hi ≤ base) : OwnW w' base v dss := by
  obtain ⟨a, cap, rfl, h⟩ := h
  refine ⟨a, cap, rfl, ?_⟩
  rcases h with h | ⟨g, V, rfl, hg, hB, hc, hA⟩
  · exact .inl h
  · have e := k.block g hB.lt (.inr (Nat.le_trans hb hg))
    exact .inr ⟨g, V, rfl, hg, hB.same e, fun i hi => ⟨(cell_same e _).trans (hc i hi).1, (hc i hi).2.same (fun b _ hlt hbb => k.block b hlt (.inr (Nat.le_trans hb hbb)))⟩, hA⟩
theorem OwnW.base_le {w : World} {base base' : Nat} {v : Value} {dss : List (List Dd)} (h : OwnW w base v dss) (hb : base' ≤ base) : OwnW w base' v dss := by
  obtain ⟨a, cap, hv, h⟩ := h
  refine ⟨a, cap, hv, ?_⟩
  rcases h with h | ⟨g, V, ha, hg, hB, hc, hA⟩
  · exact .inl h
  · exact .inr ⟨g, V, ha, Nat.le_trans hb hg, hB, fun i hi => ⟨(hc i hi).1, (hc i hi).2.mono hb⟩, hA⟩
def mksW (k : Int) : List (List Dd) → List (List Dd)
  | [] => []
  | d :: r => mksD k d.length :: mksW (k + 4 * d.length) r
theorem mksW_len (k : Int) (dss : List (List Dd)) : (mksW k dss).length = dss.length := by
  induction dss generalizing k with
  | nil => rfl
  | cons d r ih => simp [mksW, ih]
theorem mksW_get (k : Int) : ∀ (dss : List (List Dd)) (i : Nat), i < dss.length → (mksW k dss).getD i [] = mksD (k + 4 * (lenW (dss.take i) : Nat)) (dss.getD i []).length
  | [], i, h => by simp at h
  | d :: r, 0, h => by simp [mksW, lenW]
  | d :: r, i + 1, h => by
    have ih := mksW_get (k + 4 * d.length) r i (by simpa using h)
    simp only [mksW, List.getD_cons_succ, List.take_succ_cons, lenW] at ih ⊢
    rw [ih]
    congr 1
    omega
theorem lenW_snocM (d : List Dd) : ∀ l : List (List Dd), lenW (l ++ [d]) = lenW l + d.length
  | [] => by simp [lenW]
  | x :: r => by rw [List.cons_append, lenW, lenW, lenW_snocM d r]; omega
theorem take_moreM {α : Type} (l : List α) (k : Nat) (z : α) (h : k < l.length) : l.take (k + 1) = l.take k ++ [l.getD k z] := by
  rw [List.take_add_one, List.getElem?_eq_getElem h, List.getD_eq_getElem?_getD, List.getElem?_eq_getElem h]
  rfl
theorem lenW_take_le (dss : List (List Dd)) : ∀ i, i ≤ dss.length → lenW (dss.take i) ≤ lenW dss := by
  induction dss with
  | nil => intro i _; simp
  | cons d r ih =>
    intro i hi
    cases i with
    | zero => simp [lenW]
    | succ i => simp only [List.take_succ_cons, lenW]; have := ih i (by simpa using hi); omega
theorem lenW_one (dss : List (List Dd)) (i : Nat) (h : i < dss.length) : lenW (dss.take i) + (dss.getD i []).length ≤ lenW dss := by
  have := lenW_take_le dss (i + 1) h
  rw [take_moreM dss i [] h, lenW_snocM] at this
  exact this
theorem mksD_nil {k : Int} {n : Nat} : mksD k n = [] ↔ n = 0 := by
  constructor
  · intro h; have := mksD_len k n; rw [h] at this; simpa using this.symm
  · rintro rfl; rfl
end Go.Proofs.Ytdgalmimkhoanaa
