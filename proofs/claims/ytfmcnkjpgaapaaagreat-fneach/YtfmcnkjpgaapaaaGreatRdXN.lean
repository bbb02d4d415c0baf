/- Works whose blocks lie from a block on, or in a range. -/
import Derived.Test.YtfmcnkjpgaapaaaGreatAppD
namespace Go.Proofs.YtfmcnkjpgaapaaaGreat
open Go.ChangeShapes Go.WideShapes Go.ChangeAt Go.RowKit

/-- A work of which all blocks lie from block 'base' on. -/
def RdX (w : World) (base : Nat) (v : Value) (dss : List (List Dd)) : Prop :=
  ∃ (a : Option Addr) (cap : Nat), v = .slice a dss.length cap ∧
    (dss = [] ∨ ∃ b off, a = some ⟨b, off, none⟩ ∧ base ≤ b ∧ b < w.heap.size ∧ ∀ i, i < dss.length → ∃ vi, w.cell? ⟨b, off + i, none⟩ = some vi ∧ AppD w base vi (dss.getD i []))
theorem RdX.rd {w : World} {base : Nat} {v : Value} {dss : List (List Dd)} (h : RdX w base v dss) : RdW w v dss := by
  obtain ⟨a, cap, hv, h⟩ := h
  refine ⟨a, cap, hv, ?_⟩
  rcases h with h | ⟨b, off, ha, _, hb, hc⟩
  · exact .inl h
  · refine .inr ⟨b, off, ha, hb, fun i hi => ?_⟩
    obtain ⟨vi, h1, h2⟩ := hc i hi
    exact ⟨vi, h1, h2.ownD.rd⟩
theorem RdX.keep {w w' : World} {base : Nat} {v : Value} {dss : List (List Dd)} (h : RdX w base v dss) (k : Keep w w') : RdX w' base v dss := by
  obtain ⟨a, cap, hv, h⟩ := h
  refine ⟨a, cap, hv, ?_⟩
  rcases h with h | ⟨b, off, ha, hbb, hb, hl⟩
  · exact .inl h
  · refine .inr ⟨b, off, ha, hbb, Nat.lt_of_lt_of_le hb k.size, fun i hi => ?_⟩
    obtain ⟨vi, h1, h2⟩ := hl i hi
    exact ⟨vi, (k.cell hb).trans h1, h2.keep k⟩
/-- A work of which all blocks lie from block 'base' on and below block N. -/
def RdXN (w : World) (base N : Nat) (v : Value) (dss : List (List Dd)) : Prop :=
  ∃ (a : Option Addr) (cap : Nat), v = .slice a dss.length cap ∧
    (dss = [] ∨ ∃ b off, a = some ⟨b, off, none⟩ ∧ base ≤ b ∧ b < N ∧ b < w.heap.size ∧ ∀ i, i < dss.length → ∃ vi, w.cell? ⟨b, off + i, none⟩ = some vi ∧ AppD w base vi (dss.getD i []) ∧ ∀ k, vi.ownBlock = some k → k < N)
theorem RdX.upto {w : World} {base : Nat} {v : Value} {dss : List (List Dd)} (h : RdX w base v dss) : RdXN w base w.heap.size v dss := by
  obtain ⟨a, cap, hv, h⟩ := h
  refine ⟨a, cap, hv, ?_⟩
  rcases h with h | ⟨b, off, ha, hbb, hb, hl⟩
  · exact .inl h
  · refine .inr ⟨b, off, ha, hbb, hb, hb, fun i hi => ?_⟩
    obtain ⟨vi, h1, h2⟩ := hl i hi
    exact ⟨vi, h1, h2, fun k hk => (h2.lt k hk).2⟩
theorem RdXN.rd {w : World} {base N : Nat} {v : Value} {dss : List (List Dd)} (h : RdXN w base N v dss) : RdW w v dss := by
  obtain ⟨a, cap, hv, h⟩ := h
  refine ⟨a, cap, hv, ?_⟩
  rcases h with h | ⟨b, off, ha, _, _, hb, hc⟩
  · exact .inl h
  · refine .inr ⟨b, off, ha, hb, fun i hi => ?_⟩
    obtain ⟨vi, h1, h2, _⟩ := hc i hi
    exact ⟨vi, h1, h2.ownD.rd⟩
theorem RdXN.kept {w w' : World} {base N : Nat} {row : Option Nat} {v : Value} {dss : List (List Dd)} (h : RdXN w base N v dss) (hg : w.grownBy w' row) (hr : ∀ g, row = some g → g < base ∨ N ≤ g) : RdXN w' base N v dss := by
  obtain ⟨a, cap, hv, h⟩ := h
  refine ⟨a, cap, hv, ?_⟩
  rcases h with h | ⟨b, off, ha, hbb, hbN, hb, hl⟩
  · exact .inl h
  · refine .inr ⟨b, off, ha, hbb, hbN, Nat.lt_of_lt_of_le hb hg.size, fun i hi => ?_⟩
    obtain ⟨vi, h1, h2, h3⟩ := hl i hi
    have hblk : w'.heap[b]? = w.heap[b]? := hg.block b hb (fun e => by have := hr b e.symm; omega)
    refine ⟨vi, ?_, h2.kept hg ?_, h3⟩
    · simp only [World.cell?, hblk] at h1 ⊢
      exact h1
    · cases hu : vi.ownBlock with
      | none => exact .inl rfl
      | some k => exact .inr (fun e => by have := h2.ge k hu; have := h3 k hu; have := hr k e.symm; omega)
end Go.Proofs.YtfmcnkjpgaapaaaGreat
