/- What lies in memory while the specification lists the events of a work: the list that grows, where each Group began, the deed and the event in hand. -/
import Derived.Test.YtkbkdlaknmgjpaaMB
import Derived.Test.YtkbkdlaknmgjpaaMA
namespace Go.Proofs.Ytkbkdlaknmgjpaa
open Go.ChangeShapes Go.WideShapes Go.ChangeAt Go.RowKit
abbrev dC (k p v g : Int) : Obj := .cells #[.int .i64 k, .int .i64 p, .int .i64 v, .int .i64 g] 62
abbrev eC (i k : Int) (r : Bool) (p v c : Int) : Obj := .cells #[.int .i64 i, .int .i64 k, .bool r, .int .i64 p, .int .i64 v, .int .i64 c] 49
structure InL (w wr : World) (F : Nat) (out : Value) (es : List Ev) (f : List Int) : Prop where
 app : AppE wr w.heap.size out es
 row : RowAt wr F f
 keep : Keep w wr
 hF : w.heap.size ≤ F
 oF : out.ownBlock ≠ some F
structure InE (w wr : World) (F D X : Nat) (out : Value) (es : List Ev) (f : List Int) (k p v g : Int) (i q : Int) (r : Bool) (pl vl c : Int) : Prop where
 l : InL w wr F out es f
 box : wr.heap[D]? = some (dC k p v g)
 ev : wr.heap[X]? = some (eC i q r pl vl c)
 hD : w.heap.size ≤ D
 hX : w.heap.size ≤ X
 DX : D ≠ X
 FD : F ≠ D
 FX : F ≠ X
 oD : out.ownBlock ≠ some D
 oX : out.ownBlock ≠ some X
theorem InL.more {w wr wr' : World} {F : Nat} {out : Value} {es : List Ev} {f : List Int} (h : InL w wr F out es f) (k : Keep wr wr') : InL w wr' F out es f :=
 ⟨h.app.keep k, h.row.keep k, h.keep.trans k, h.hF, h.oF⟩
theorem InL.boxes {w wr : World} {F : Nat} {out : Value} {es : List Ev} {f : List Int} (h : InL w wr F out es f) (k p v g i q : Int) (r : Bool) (pl vl c : Int) :
  InE w ((wr.alloc (dC k p v g)).alloc (eC i q r pl vl c)) F wr.heap.size (wr.heap.size + 1) out es f k p v g i q r pl vl c := by
 have hs := h.keep.size
 have hR := h.row.lt
 have hl := h.app.lt
 have z : (wr.alloc (dC k p v g)).heap.size = wr.heap.size + 1 := heap_size wr _
 refine ⟨h.more (((Keep.refl wr).alloc _).alloc _), ?_, ?_, hs, by omega, by omega, by omega, by omega, fun e => ?_, fun e => ?_⟩
 ·
  rw [heap_at, if_neg (by rw [z]; omega), heap_at, if_pos rfl]
 ·
  rw [heap_at, if_pos z.symm]
 ·
  have := (hl _ e).2; omega
 ·
  have := (hl _ e).2; omega
variable {w wr : World} {F D X : Nat} {out : Value} {es : List Ev} {f : List Int} {k p v g i q pl vl c : Int} {r : Bool}
theorem InE.more {wr' : World} (h : InE w wr F D X out es f k p v g i q r pl vl c) (kk : Keep wr wr') : InE w wr' F D X out es f k p v g i q r pl vl c :=
 ⟨h.l.more kk, (Below.block kk D (Array.getElem?_eq_some_iff.1 h.box).1).trans h.box, (Below.block kk X (Array.getElem?_eq_some_iff.1 h.ev).1).trans h.ev, h.hD, h.hX, h.DX, h.FD, h.FX, h.oD, h.oX⟩
theorem InE.lt (h : InE w wr F D X out es f k p v g i q r pl vl c) : D < wr.heap.size ∧ X < wr.heap.size ∧ F < wr.heap.size :=
 ⟨(Array.getElem?_eq_some_iff.1 h.box).1, (Array.getElem?_eq_some_iff.1 h.ev).1, h.l.row.lt⟩
theorem InE.deed (h : InE w wr F D X out es f k p v g i q r pl vl c) :
  wr.cell? ⟨D, 0, none⟩ = some (.int .i64 k) ∧ wr.cell? ⟨D, 1, none⟩ = some (.int .i64 p) ∧ wr.cell? ⟨D, 2, none⟩ = some (.int .i64 v) ∧ wr.cell? ⟨D, 3, none⟩ = some (.int .i64 g) :=
 ⟨cell_of_row wr D 0 _ _ (0, 0) h.box, cell_of_row wr D 1 _ _ (0, 0) h.box, cell_of_row wr D 2 _ _ (0, 0) h.box, cell_of_row wr D 3 _ _ (0, 0) h.box⟩
theorem InE.event (h : InE w wr F D X out es f k p v g i q r pl vl c) :
  wr.cell? ⟨X, 0, none⟩ = some (.int .i64 i) ∧ wr.cell? ⟨X, 1, none⟩ = some (.int .i64 q) ∧ wr.cell? ⟨X, 2, none⟩ = some (.bool r) ∧ wr.cell? ⟨X, 3, none⟩ = some (.int .i64 pl) ∧ wr.cell? ⟨X, 4, none⟩ = some (.int .i64 vl) ∧ wr.cell? ⟨X, 5, none⟩ = some (.int .i64 c) :=
 ⟨cell_of_row wr X 0 _ _ (0, 0) h.ev, cell_of_row wr X 1 _ _ (0, 0) h.ev, cell_of_row wr X 2 _ _ (0, 0) h.ev, cell_of_row wr X 3 _ _ (0, 0) h.ev, cell_of_row wr X 4 _ _ (0, 0) h.ev, cell_of_row wr X 5 _ _ (0, 0) h.ev⟩
theorem InE.free (h : InE w wr F D X out es f k p v g i q r pl vl c) (j : Nat) : wr.frozen? ⟨X, j, none⟩ = false := frozen_of_row wr X j _ _ h.ev
theorem InE.setX (h : InE w wr F D X out es f k p v g i q r pl vl c) (j : Nat) (x : Value) {r' : Bool} {pl' vl' c' : Int}
  (he : (wr.setCell ⟨X, j, none⟩ x).heap[X]? = some (eC i q r' pl' vl' c')) : InE w (wr.setCell ⟨X, j, none⟩ x) F D X out es f k p v g i q r' pl' vl' c' := by
 have hg := grown_set wr X j x
 have a := h.l
 refine ⟨⟨a.app.kept hg (.inr h.oX), a.row.kept hg (by simp; exact fun e => h.FX e.symm), a.keep.grown hg (by simp; exact h.hX), a.hF, a.oF⟩, (hg.block D h.lt.1 (by simp; exact h.DX)).trans h.box, he, h.hD, h.hX, h.DX, h.FD, h.FX, h.oD, h.oX⟩
theorem InE.set2 (h : InE w wr F D X out es f k p v g i q r pl vl c) (x : Bool) : InE w (wr.setCell ⟨X, 2, none⟩ (.bool x)) F D X out es f k p v g i q x pl vl c :=
 h.setX 2 _ (by rw [heap_setCell_same wr X 2 _ _ _ h.ev]; rfl)
theorem InE.set4 (h : InE w wr F D X out es f k p v g i q r pl vl c) (x : Int) : InE w (wr.setCell ⟨X, 4, none⟩ (.int .i64 x)) F D X out es f k p v g i q r pl x c :=
 h.setX 4 _ (by rw [heap_setCell_same wr X 4 _ _ _ h.ev]; rfl)
theorem InE.set5 (h : InE w wr F D X out es f k p v g i q r pl vl c) (x : Int) : InE w (wr.setCell ⟨X, 5, none⟩ (.int .i64 x)) F D X out es f k p v g i q r pl vl x :=
 h.setX 5 _ (by rw [heap_setCell_same wr X 5 _ _ _ h.ev]; rfl)
theorem InE.setF (h : InE w wr F D X out es f k p v g i q r pl vl c) (j : Nat) (x : Int) : InE w (wr.setCell ⟨F, j, none⟩ (.int .i64 x)) F D X out es (f.set j x) k p v g i q r pl vl c := by
 have hg := grown_set wr F j (.int .i64 x)
 have a := h.l
 exact ⟨⟨a.app.kept hg (.inr a.oF), a.row.set j x, a.keep.grown hg (by simp; exact a.hF), a.hF, a.oF⟩, (hg.block D h.lt.1 (by simp; exact fun e => h.FD e.symm)).trans h.box, (hg.block X h.lt.2.1 (by simp; exact fun e => h.FX e.symm)).trans h.ev, h.hD, h.hX, h.DX, h.FD, h.FX, h.oD, h.oX⟩
theorem InE.hit (h : InE w wr F D X out es f k p v g i q r pl vl c) {o : Obj} {v' : Value} {w' : World} (e : Ev)
  (ho : w'.ownsRow w.heap.size 49 6 v' (es.length + 1) (es.flatMap cE ++ cE e)) (hg : (wr.alloc o).grownBy w' out.ownBlock) (hb : v'.ownBlock = out.ownBlock ∨ v'.ownBlock = some (wr.heap.size + 1)) :
  InE w w' F D X v' (es ++ [e]) f k p v g i q r pl vl c := by
 have h1 := h.more ((Keep.refl wr).alloc o)
 obtain ⟨a1, a2, a3⟩ := h1.lt
 have apart : ∀ n, n < (wr.alloc o).heap.size → out.ownBlock ≠ some n → v'.ownBlock ≠ some n := fun n hn hne e => by
  rcases hb with hb | hb
  ·
   exact hne (hb ▸ e)
  ·
   rw [hb] at e; have := Option.some.inj e; rw [heap_size] at hn; omega
 exact ⟨⟨appT_hit ho, h1.l.row.kept hg h1.l.oF, h1.l.keep.grown hg h1.l.app.ge, h1.l.hF, apart F a3 h1.l.oF⟩, (hg.block D a1 (fun e => h1.oD e.symm)).trans h1.box, (hg.block X a2 (fun e => h1.oX e.symm)).trans h1.ev, h1.hD, h1.hX, h1.DX, h1.FD, h1.FX, apart D a1 h1.oD, apart X a2 h1.oX⟩
theorem cE_one (e : Ev) : ∀ u ∈ cE e, u.oneCell' = true := by
 intro u hu
 simp only [cE, List.mem_cons, List.not_mem_nil, or_false] at hu
 rcases hu with rfl | rfl | rfl | rfl | rfl | rfl <;> rfl
theorem cE_new (w : World) (i q : Int) (r : Bool) (pl vl c : Int) : ∀ j u, (cE (i, q, r, pl, vl, c))[j]? = some u → (w.alloc (eC i q r pl vl c)).cell? ((⟨w.heap.size, 0, none⟩ : Addr).add j) = some u := by
 intro j u hj
 match j, hj with
 | 0, hj => simp [cE] at hj; subst hj; simp [Addr.add]
 | 1, hj => simp [cE] at hj; subst hj; simp [Addr.add]
 | 2, hj => simp [cE] at hj; subst hj; simp [Addr.add]
 | 3, hj => simp [cE] at hj; subst hj; simp [Addr.add]
 | 4, hj => simp [cE] at hj; subst hj; simp [Addr.add]
 | 5, hj => simp [cE] at hj; subst hj; simp [Addr.add]
theorem cE_newAt (w : World) (n : Nat) (hn : w.heap.size = n) (i q : Int) (r : Bool) (pl vl c : Int) : ∀ j u, (cE (i, q, r, pl, vl, c))[j]? = some u → (w.alloc (eC i q r pl vl c)).cell? ((⟨n, 0, none⟩ : Addr).add j) = some u := by
 subst hn
 exact cE_new w i q r pl vl c
end Go.Proofs.Ytkbkdlaknmgjpaa
