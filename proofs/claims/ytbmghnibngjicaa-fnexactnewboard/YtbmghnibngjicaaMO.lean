/- Gathered texts. -/
import Derived.Test.YtbmghnibngjicaaMC
set_option maxRecDepth 100000
set_option maxHeartbeats 8000000
namespace Go.Proofs.Ytbmghnibngjicaa
open Go.ChangeShapes Go.WideShapes Go.ChangeAt Go.RowKit
def rowS (v : Value) (n : Nat) (a : Addr) : Prop := ∃ b o l c i, v = .slice (some ⟨b, o, none⟩) l c ∧ i < n ∧ a = ⟨b, o + i, none⟩
def Wb (w : World) (a : Addr) : Prop := ∃ cur t, w.heap[a.block]? = some (.cells cur t (0, 0)) ∧ a.off < cur.size
structure Wrt (S : Addr → Prop) (w w' : World) : Prop where
  os : w'.os = w.os
  tape : w'.tape = w.tape
  output : w'.output = w.output
  size : w.heap.size ≤ w'.heap.size
  cell : ∀ a, a.block < w.heap.size → ¬ S a → w'.cell? a = w.cell? a
  shape : ∀ (b : Nat) (cur : Array Value) (t : TypeId), w.heap[b]? = some (Obj.cells cur t (0, 0)) → ∃ cur' : Array Value, w'.heap[b]? = some (Obj.cells cur' t (0, 0)) ∧ cur'.size = cur.size
  block : ∀ b, b < w.heap.size → (∀ a, S a → a.block ≠ b) → w'.heap[b]? = w.heap[b]?
def Mkd (w : World) (v : Value) (n : Nat) (k : Int) : Prop := ∀ b o l c i, v = .slice (some ⟨b, o, none⟩) l c → i < n → w.cell? ⟨b, o + i, none⟩ = some (.int .i64 (k + i))
theorem Wb.lt {w : World} {a : Addr} (h : Wb w a) : a.block < w.heap.size := by
  obtain ⟨cur, t, h, _⟩ := h
  exact (Array.getElem?_eq_some_iff.1 h).1
theorem Wb.free {w : World} {b o : Nat} (h : Wb w ⟨b, o, none⟩) : w.frozen? ⟨b, o, none⟩ = false := by
  obtain ⟨cur, t, h, _⟩ := h
  exact frozen_of_row w b o cur t h
theorem Wb.cell {w : World} {b o : Nat} (h : Wb w ⟨b, o, none⟩) : ∃ u, w.cell? ⟨b, o, none⟩ = some u := by
  obtain ⟨cur, t, h, hn⟩ := h
  exact ⟨cur[o], by rw [cell_of_row w b o cur t (0, 0) h, Array.getElem?_eq_getElem hn]⟩
theorem Wb.kept {S : Addr → Prop} {w w' : World} {a : Addr} (h : Wb w a) (k : Wrt S w w') : Wb w' a := by
  obtain ⟨cur, t, h, hn⟩ := h
  obtain ⟨cur', h', e⟩ := k.shape _ _ _ h
  exact ⟨cur', t, h', by rw [e]; exact hn⟩
theorem Wb.keep {w w' : World} {a : Addr} (h : Wb w a) (k : Keep w w') : Wb w' a := by
  have hl := h.lt
  obtain ⟨cur, t, h, hn⟩ := h
  exact ⟨cur, t, (Below.block k _ hl).trans h, hn⟩
theorem Wrt.refl (S : Addr → Prop) (w : World) : Wrt S w w := ⟨rfl, rfl, rfl, Nat.le_refl _, fun _ _ _ => rfl, fun _ cur _ h => ⟨cur, h, rfl⟩, fun _ _ _ => rfl⟩
theorem Wrt.trans {S : Addr → Prop} {a b c : World} (h : Wrt S a b) (k : Wrt S b c) : Wrt S a c :=
  ⟨k.os.trans h.os, k.tape.trans h.tape, k.output.trans h.output, Nat.le_trans h.size k.size,
   fun x hx hn => (k.cell x (Nat.lt_of_lt_of_le hx h.size) hn).trans (h.cell x hx hn),
   fun q cur t hq => by
    obtain ⟨c1, h1, e1⟩ := h.shape q cur t hq
    obtain ⟨c2, h2, e2⟩ := k.shape q c1 t h1
    exact ⟨c2, h2, e2.trans e1⟩,
   fun q hq hn => (k.block q (Nat.lt_of_lt_of_le hq h.size) hn).trans (h.block q hq hn)⟩
theorem Wrt.more {S T : Addr → Prop} {w w' : World} (h : Wrt S w w') (hs : ∀ a, S a → T a) : Wrt T w w' :=
  ⟨h.os, h.tape, h.output, h.size, fun a ha hn => h.cell a ha (fun hS => hn (hs a hS)), h.shape, fun b hb hn => h.block b hb (fun a ha => hn a (hs a ha))⟩
theorem Keep.wrt {w w' : World} (k : Keep w w') (S : Addr → Prop) : Wrt S w w' :=
  ⟨Below.os k, Below.tape k, Below.output k, Below.size k, fun a ha _ => World.cell?_of_block (Below.block k a.block ha), fun b cur _ h => ⟨cur, (Below.block k b (Array.getElem?_eq_some_iff.1 h).1).trans h, rfl⟩, fun b hb _ => Below.block k b hb⟩
theorem Wrt.set {S : Addr → Prop} {a w : World} (h : Wrt S a w) {b o : Nat} (x : Value) (hb : Wb w ⟨b, o, none⟩) (hS : S ⟨b, o, none⟩) : Wrt S a (w.setCell ⟨b, o, none⟩ x) := by
  refine h.trans ⟨rfl, rfl, rfl, by simp, fun q _ hn => World.cell?_setCell_other _ _ _ _ (fun e => hn (e ▸ hS)), fun q cur t hq => ?_, fun q _ hn => heap_setCell_other w ⟨b, o, none⟩ q x (fun e => hn _ hS e.symm)⟩
  by_cases e : q = b
  · subst e
    exact ⟨cur.setIfInBounds o x, heap_setCell_same w q o cur t x hq, by simp⟩
  · exact ⟨cur, (heap_setCell_other w ⟨b, o, none⟩ q x e).trans hq, rfl⟩
theorem set_cell {w : World} {b o : Nat} (x : Value) (h : Wb w ⟨b, o, none⟩) : (w.setCell ⟨b, o, none⟩ x).cell? ⟨b, o, none⟩ = some x := by
  obtain ⟨u, hu⟩ := h.cell
  exact World.cell?_setCell_same _ _ _ hu
theorem set_other {w : World} {b o q : Nat} (x : Value) (h : q ≠ o) : (w.setCell ⟨b, o, none⟩ x).cell? ⟨b, q, none⟩ = w.cell? ⟨b, q, none⟩ :=
  World.cell?_setCell_other _ _ _ _ (by intro e; injection e with _ e2; first | exact h e2 | exact h e2.symm)
theorem Wb.set {w : World} {a : Addr} {b o : Nat} (x : Value) (h : Wb w a) : Wb (w.setCell ⟨b, o, none⟩ x) a := by
  obtain ⟨cur, t, h, hn⟩ := h
  by_cases e : a.block = b
  · refine ⟨cur.setIfInBounds o x, t, ?_, by simpa using hn⟩
    rw [e] at h ⊢
    exact heap_setCell_same w b o cur t x h
  · exact ⟨cur, t, (heap_setCell_other w ⟨b, o, none⟩ a.block x e).trans h, hn⟩
theorem Mkd.kept {S : Addr → Prop} {w w' : World} {v : Value} {n : Nat} {k : Int} (h : Mkd w v n k) (g : Wrt S w w') (hd : ∀ a, rowS v n a → ¬ S a) (hw : ∀ a, rowS v n a → a.block < w.heap.size) : Mkd w' v n k :=
  fun b o l c i e hi => (g.cell _ (hw _ ⟨b, o, l, c, i, e, hi, rfl⟩) (hd _ ⟨b, o, l, c, i, e, hi, rfl⟩)).trans (h b o l c i e hi)
theorem Mkd.keep {w w' : World} {v : Value} {n : Nat} {k : Int} (h : Mkd w v n k) (g : Keep w w') (hw : ∀ a, rowS v n a → a.block < w.heap.size) : Mkd w' v n k :=
  fun b o l c i e hi => (g.cell (hw _ ⟨b, o, l, c, i, e, hi, rfl⟩)).trans (h b o l c i e hi)
def rowsS (rs : List (Value × Nat)) (a : Addr) : Prop := ∃ r ∈ rs, rowS r.1 r.2 a
def totR : List (Value × Nat) → Nat
  | [] => 0
  | r :: rs => r.2 + totR rs
def mkR (w : World) (k : Int) : List (Value × Nat) → Prop
  | [] => True
  | r :: rs => Mkd w r.1 r.2 k ∧ mkR w (k + r.2) rs
structure Loose (w : World) (rs : List (Value × Nat)) : Prop where
  wb : ∀ a, rowsS rs a → Wb w a
  ap : rs.Pairwise (fun r s => ∀ a, rowS r.1 r.2 a → ¬ rowS s.1 s.2 a)
theorem totR_append (a b : List (Value × Nat)) : totR (a ++ b) = totR a + totR b := by
  induction a with
  | nil => simp [totR]
  | cons r rs ih => simp [totR, ih]; omega
theorem mkR_append (w : World) (a b : List (Value × Nat)) : ∀ k : Int, mkR w k (a ++ b) ↔ mkR w k a ∧ mkR w (k + totR a) b := by
  induction a with
  | nil => intro k; simp [mkR, totR]
  | cons r rs ih =>
    intro k
    simp only [List.cons_append, mkR, totR]
    rw [ih, and_assoc]
    have e : k + (r.2 : Int) + (totR rs : Int) = k + ((r.2 + totR rs : Nat) : Int) := by rw [Int.natCast_add]; omega
    rw [e]
theorem mkR_kept {S : Addr → Prop} {w w' : World} (g : Wrt S w w') : ∀ (rs : List (Value × Nat)) (k : Int), mkR w k rs → (∀ a, rowsS rs a → ¬ S a) → (∀ a, rowsS rs a → a.block < w.heap.size) → mkR w' k rs
  | [], _, _, _, _ => trivial
  | r :: rs, k, h, hd, hw => ⟨h.1.kept g (fun a ha => hd a ⟨r, List.mem_cons_self, ha⟩) (fun a ha => hw a ⟨r, List.mem_cons_self, ha⟩),
      mkR_kept g rs (k + r.2) h.2 (fun a ⟨s, hs, ha⟩ => hd a ⟨s, List.mem_cons_of_mem _ hs, ha⟩) (fun a ⟨s, hs, ha⟩ => hw a ⟨s, List.mem_cons_of_mem _ hs, ha⟩)⟩
theorem Loose.kept {S : Addr → Prop} {w w' : World} {rs : List (Value × Nat)} (h : Loose w rs) (g : Wrt S w w') : Loose w' rs := ⟨fun a ha => (h.wb a ha).kept g, h.ap⟩
theorem Loose.keep {w w' : World} {rs : List (Value × Nat)} (h : Loose w rs) (g : Keep w w') : Loose w' rs := ⟨fun a ha => (h.wb a ha).keep g, h.ap⟩
theorem Loose.sub {w : World} {rs ts : List (Value × Nat)} (h : Loose w rs) (hs : ts.Sublist rs) : Loose w ts :=
  ⟨fun a ⟨r, hr, ha⟩ => h.wb a ⟨r, hs.subset hr, ha⟩, h.ap.sublist hs⟩
theorem rowsS_append {a b : List (Value × Nat)} {x : Addr} : rowsS (a ++ b) x ↔ rowsS a x ∨ rowsS b x := by
  unfold rowsS
  constructor
  · rintro ⟨r, hr, h⟩
    rcases List.mem_append.1 hr with h1 | h1
    · exact .inl ⟨r, h1, h⟩
    · exact .inr ⟨r, h1, h⟩
  · rintro (⟨r, hr, h⟩ | ⟨r, hr, h⟩)
    · exact ⟨r, List.mem_append.2 (.inl hr), h⟩
    · exact ⟨r, List.mem_append.2 (.inr hr), h⟩
theorem Loose.apart {w : World} {a b : List (Value × Nat)} (h : Loose w (a ++ b)) : ∀ x, rowsS a x → ¬ rowsS b x := by
  rintro x ⟨r, hr, h1⟩ ⟨s, hs, h2⟩
  exact (List.pairwise_append.1 h.ap).2.2 r hr s hs x h1 h2
theorem mk_then {w0 w1 w2 : World} {a b : List (Value × Nat)} {k : Int} (h : Loose w0 (a ++ b)) (g1 : Wrt (rowsS a) w0 w1) (m1 : mkR w1 k a) (g2 : Wrt (rowsS b) w1 w2) (m2 : mkR w2 (k + totR a) b) :
    Wrt (rowsS (a ++ b)) w0 w2 ∧ mkR w2 k (a ++ b) := by
  refine ⟨(g1.more (fun x hx => rowsS_append.2 (.inl hx))).trans (g2.more (fun x hx => rowsS_append.2 (.inr hx))), (mkR_append w2 a b k).2 ⟨?_, m2⟩⟩
  exact mkR_kept g2 a k m1 (fun x hx => h.apart x hx) (fun x hx => ((h.wb x (rowsS_append.2 (.inl hx))).kept g1).lt)
def shownB (dss : List (List Dd)) (b : Bd) : List Int := if boardB dss b = true then b.sn ++ b.plc else []
theorem board_all {dss : List (List Dd)} {b : Bd} (h : boardB dss b = true) : workB dss = true ∧ b.plc.length = 3 ∧ b.lst.length = 3 ∧ b.rws.length = 3 ∧ b.nts.length = dss.length ∧ b.nxt.length = dss.length ∧ b.sn.length ≤ 12 ∧ b.fr.length ≤ 12 ∧ (∀ i, i < 3 → (b.rws.getD i []).length ≤ 20) ∧ ∀ i, i < dss.length → (b.nts.getD i []).length ≤ 8 := by
  unfold boardB shapeB fillB rowsBd at h
  simp only [Bool.and_eq_true, decide_eq_true_eq] at h
  obtain ⟨⟨h1, h2, h3, h4, h5, h6⟩, ⟨_, _, _, _, h7, h8⟩, h9, h10⟩ := h
  unfold allB at h7 h8
  simp only [Bool.and_eq_true, decide_eq_true_eq] at h7 h8
  refine ⟨h1, h2, h3, h4, h5, h6, h7.2, h8.2, fun i hi => ?_, fun i hi => ?_⟩
  · have := List.all_eq_true.1 h9 i (List.mem_range.2 hi)
    unfold allB at this
    simp only [Bool.and_eq_true, decide_eq_true_eq] at this
    exact this.2
  · have := List.all_eq_true.1 h10 i (List.mem_range.2 hi)
    unfold ckB at this
    simp only [Bool.and_eq_true, decide_eq_true_eq] at this
    exact this.2.1
theorem work_small {dss : List (List Dd)} (h : workB dss = true) : dss.length ≤ 3 ∧ ∀ i, i < dss.length → (dss.getD i []).length ≤ 1048576 := by
  obtain ⟨h1, h2⟩ := workB_useR h
  refine ⟨h1, fun i hi => ?_⟩
  have hq := h2 i hi
  unfold okL at hq
  rw [Bool.and_eq_true, decide_eq_true_eq] at hq
  omega
end Go.Proofs.Ytbmghnibngjicaa
