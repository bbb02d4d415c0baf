/- The program's iterator over the sources, whatever the choices. -/
import Derived.Test.YtgolhjmbloiakaaSeqI1
namespace Go.Proofs.Ytgolhjmbloiakaa
open Go.ChangeShapes Go.WideShapes Go.ChangeAt Go.RowKit

theorem sources_seq (css : List (List Int)) (s1 s2 : Nat) (hcl : ∀ i, (css.getD i []).length ≤ 12) : ∀ n : Nat, n ≤ 12 → ∀ (w0 : World) (Bc : Nat) (v : Value), RdP s1 s2 w0 v n css → w0.cell? ⟨Bc, 0, none⟩ = some v → Bc < w0.heap.size → s2 ≤ w0.heap.size →
    SeqM Try.prog 115 #[.pointer (some ⟨Bc, 0, none⟩)] (PrS s1 s2 Bc) (srcN css n) (LieS css n) w0
  | 0, _, w0, Bc, v, h1, h2, h3, _ => sources0_seq css s1 s2 w0 Bc v h1 h2 h3
  | n + 1, hn, w0, Bc, v, h1, h2, h3, h4 => sourcesS_seq css s1 s2 hcl n hn (sources_seq css s1 s2 hcl n (by omega)) w0 Bc v h1 h2 h3 h4
theorem boxed_but {C : Nat → Prop} {A B : World} {g : Nat} {t : TypeId} {v : Value} (h : Boxed A g t v) (k : But C A B) (hn : ¬ C g) : Boxed B g t v := (k.block g h.lt hn).trans h
theorem keep_but {C : Nat → Prop} {w A B : World} (h : Keep w A) (k : But C A B) (hc : ∀ b, C b → w.heap.size ≤ b) : Keep w B :=
  ⟨k.os.trans h.os, k.tape.trans h.tape, k.output.trans h.output, Nat.le_trans h.size k.size, fun b hb => (k.block b (by have := h.size; omega) (fun e => by have := hc b e; omega)).trans (h.block b hb)⟩
theorem boxed_keep {A B : World} {g : Nat} {t : TypeId} {v : Value} (h : Boxed A g t v) (k : Keep A B) : Boxed B g t v := (k.block g h.lt).trans h
end Go.Proofs.Ytgolhjmbloiakaa
