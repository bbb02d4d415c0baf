/- What is drawn beside other things: small lemmas. -/
import Derived.Test.YtkbkdlaknmgjpaaGreatWorkDrawD
import Derived.Test.YtkbkdlaknmgjpaaGreatOwnSet
namespace Go.Proofs.YtkbkdlaknmgjpaaGreat
open Go.ChangeShapes Go.WideShapes Go.ChangeAt Go.RowKit

theorem Dr.keepQ {w wr wr' : World} {B c : Nat} (h : Dr w wr B c) (k : Keep wr wr') : Dr w wr' B c := ⟨h.1.keep k, grown_trans h.2 ⟨Below.os k, Below.tape k, Below.output k, Below.size k, fun i hi _ => Below.block k i hi⟩⟩
theorem Dr.newQ {w W wr : World} {B c : Nat} (h : Dr W wr B c) (k : Keep w W) (hc : w.heap.size ≤ c) : Keep w wr := k.grown h.2 (fun j hj => by simp at hj; omega)
theorem Own.keptC {w w' : World} {base c : Nat} {v : Value} {zs : List Int} (h : Own w base v zs) (hg : w.grownBy w' (some c)) (hc : c < base) : Own w' base v zs :=
  h.kept hg (ne_of_ge h.ge hc)
/-- What is written from some block on leaves all below it. -/
theorem grown_far {a b d : World} {c : Nat} {row : Option Nat} (h : a.grownBy b (some c)) (k : b.grownBy d row) (hr : ∀ j, row = some j → a.heap.size ≤ j) : a.grownBy d (some c) :=
  ⟨k.os.trans h.os, k.tape.trans h.tape, k.output.trans h.output, Nat.le_trans h.size k.size, fun i hi hne => (k.block i (Nat.lt_of_lt_of_le hi h.size) (fun e => by have := hr i e.symm; omega)).trans (h.block i hi hne)⟩
theorem grown_any {w w' : World} (h : w.grownBy w' none) (row : Option Nat) : w.grownBy w' row := ⟨h.os, h.tape, h.output, h.size, fun k hk _ => h.block k hk (by simp)⟩
end Go.Proofs.YtkbkdlaknmgjpaaGreat
