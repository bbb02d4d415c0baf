/- Small facts for the laws on a function of lists: what came in stays where only new memory is written; how long an answer is. -/
import Derived.Test.YtgolhjmbloiakaaGreatMB
import Derived.Test.YtgolhjmbloiakaaGreatThenPlain
namespace Go.Proofs.YtgolhjmbloiakaaGreat
open Go.ChangeShapes Go.WideShapes Go.ChangeAt Go.RowKit

/-- A list in memory below block B. -/
def RdO (w : World) (B : Nat) (v : Value) (zs : List Int) : Prop :=
  ∃ (a : Option Addr) (cap : Nat), v = .slice a zs.length cap ∧
    (zs = [] ∨ ∃ b off, a = some ⟨b, off, none⟩ ∧ b < B ∧ b < w.heap.size ∧ ∀ i, i < zs.length → w.cell? ⟨b, off + i, none⟩ = some (.int .i64 (zs.getD i 0)))
theorem Rd.old {w : World} {v : Value} {zs : List Int} (h : Rd w v zs) : RdO w w.heap.size v zs := by
  obtain ⟨a, cap, hv, h⟩ := h
  refine ⟨a, cap, hv, ?_⟩
  rcases h with h | ⟨b, off, ha, hb, hc⟩
  · exact .inl h
  · exact .inr ⟨b, off, ha, hb, hb, hc⟩
theorem RdO.rd {w : World} {B : Nat} {v : Value} {zs : List Int} (h : RdO w B v zs) : Rd w v zs := by
  obtain ⟨a, cap, hv, h⟩ := h
  refine ⟨a, cap, hv, ?_⟩
  rcases h with h | ⟨b, off, ha, _, hb, hc⟩
  · exact .inl h
  · exact .inr ⟨b, off, ha, hb, hc⟩
theorem RdO.stay {w w' : World} {B : Nat} {v : Value} {zs : List Int} {row : Option Nat} (h : RdO w B v zs) (hg : w.grownBy w' row) (hr : ∀ k, row = some k → B ≤ k) : RdO w' B v zs := by
  obtain ⟨a, cap, hv, h⟩ := h
  refine ⟨a, cap, hv, ?_⟩
  rcases h with h | ⟨b, off, ha, hB, hb, hc⟩
  · exact .inl h
  · refine .inr ⟨b, off, ha, hB, Nat.lt_of_lt_of_le hb hg.size, fun i hi => ?_⟩
    rw [World.cell?_of_block (w := w) (hg.block b hb (fun e => by have := hr b e.symm; omega))]
    exact hc i hi
theorem RdO.keep {w w' : World} {B : Nat} {v : Value} {zs : List Int} (h : RdO w B v zs) (k : Keep w w') : RdO w' B v zs := h.stay k.grownBy (by simp)
theorem mixL_len (f : Int → Int → Int) (a b : List Int) : (mixL f a b).length ≤ 12 := by
  unfold mixL
  cases h : twoB a b with
  | false => simp
  | true => have := webB_len (twoB_iff.1 h).2.1; simp; omega
theorem thenL_len (a b : List Int) : (thenL a b).length ≤ 12 := by
  unfold thenL
  cases h : twoB a b with
  | false => simp
  | true => have := webB_len (twoB_iff.1 h).2.1; simp; omega
theorem backL_len (a : List Int) : (backL a).length ≤ 12 := by
  unfold backL
  cases h : webB a with
  | false => simp
  | true => have := webB_len h; simp [backAll_len]; omega
theorem waysL_len (a : List Int) : (waysL a).length ≤ 12 := by
  unfold waysL
  cases h : webB a with
  | false => simp
  | true => have := webB_len h; simp [wayAll_len]; omega
end Go.Proofs.YtgolhjmbloiakaaGreat
