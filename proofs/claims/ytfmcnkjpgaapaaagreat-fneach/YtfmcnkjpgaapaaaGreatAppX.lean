/- Works while they are drawn: lists of lists of deeds, each in a block of its own, that are written and that grow. -/
import Derived.Test.YtfmcnkjpgaapaaaGreatAppD
import Derived.Test.YtfmcnkjpgaapaaaGreatRdXN
namespace Go.Proofs.YtfmcnkjpgaapaaaGreat
open Go.ChangeShapes Go.WideShapes Go.ChangeAt Go.RowKit

theorem AppD.kept {w w' : World} {base : Nat} {v : Value} {ds : List Dd} {row : Option Nat} (h : AppD w base v ds) (hg : w.grownBy w' row) (hne : v.ownBlock = none ∨ v.ownBlock ≠ row) : AppD w' base v ds :=
  World.ownsRow.kept h hg hne
theorem AppD.lt {w : World} {base : Nat} {v : Value} {ds : List Dd} (h : AppD w base v ds) : ∀ k, v.ownBlock = some k → base ≤ k ∧ k < w.heap.size := World.ownsRow.lt h
theorem AppD.base_le {w : World} {base base' : Nat} {v : Value} {ds : List Dd} (h : AppD w base v ds) (hb : base' ≤ base) : AppD w base' v ds := by
  refine ⟨h.1, ?_⟩
  rcases h.2 with q | ⟨g, cap, cur, e, hg, r⟩
  · exact .inl q
  · exact .inr ⟨g, cap, cur, e, Nat.le_trans hb hg, r⟩
theorem ne_of_ge {v : Value} {base c : Nat} (h : ∀ k, v.ownBlock = some k → base ≤ k) (hc : c < base) : v.ownBlock = none ∨ v.ownBlock ≠ some c := by
  cases hv : v.ownBlock with
  | none => exact .inl rfl
  | some k => exact .inr (fun e => by have := h k hv; simp at e; omega)
/-- One number of a list of deeds is written. -/
theorem flat_set (ds : List Dd) (k : Nat) (x : Int) : k < ds.length → (ds.flatMap cD).set (k * 4 + 3) (.int .i64 x) = (ds.set k ((ds.getD k zD).1, (ds.getD k zD).2.1, (ds.getD k zD).2.2.1, x)).flatMap cD := by
  induction ds generalizing k with
  | nil => intro hk; simp at hk
  | cons d r ih =>
    intro hk
    cases k with
    | zero => simp [cD]
    | succ k =>
      have h1 := ih k (by simpa using hk)
      rw [List.flatMap_cons, List.set_append_right _ _ (by simp [cD]; omega), show (k + 1) * 4 + 3 - (cD d).length = k * 4 + 3 by simp [cD]; omega, h1]
      simp
theorem AppD.put {w : World} {base g n c : Nat} {ds : List Dd} (h : AppD w base (.slice (some ⟨g, 0, none⟩) n c) ds) {k : Nat} (hk : k < ds.length) (x : Int) :
    AppD (w.setCell ⟨g, k * 4 + 3, none⟩ (.int .i64 x)) base (.slice (some ⟨g, 0, none⟩) n c) (ds.set k ((ds.getD k zD).1, (ds.getD k zD).2.1, (ds.getD k zD).2.2.1, x)) := by
  have hlen : (ds.flatMap cD).length = ds.length * 4 := h.1
  have e := flat_set ds k x hk
  rcases h.2 with ⟨q, _⟩ | ⟨g', cap, cur, e1, hb, hg, hc1, hc2, hs, ht⟩
  · cases q
  · simp only [Value.slice.injEq, Option.some.injEq, Addr.mk.injEq, and_true] at e1
    obtain ⟨rfl, rfl, rfl⟩ := e1
    refine ⟨by rw [← e, List.length_set, List.length_set]; exact hlen, .inr ⟨g, _, cur.setIfInBounds (k * 4 + 3) (.int .i64 x), by rw [List.length_set], hb, ?_, by rw [List.length_set]; exact hc1, hc2, by simpa using hs, ?_⟩⟩
    · rw [heap_setCell_same w g (k * 4 + 3) _ _ _ hg]
    · rw [Array.toList_setIfInBounds, List.length_set, List.take_set, ht, e]
/-- A work that is drawn: its list, the values in it, each list of deeds; all below block N, no two in one block. -/
structure AppX (w : World) (base N : Nat) (v : Value) (V : Nat → Value) (dss : List (List Dd)) : Prop where
  row : w.ownsRow base 63 1 v dss.length ((List.range dss.length).map V)
  lt : ∀ k, v.ownBlock = some k → k < N
  each : ∀ i, i < dss.length → AppD w base (V i) (dss.getD i [])
  lts : ∀ i, i < dss.length → ∀ k, (V i).ownBlock = some k → k < N
  out : ∀ i, i < dss.length → ∀ k, (V i).ownBlock = some k → v.ownBlock ≠ some k
  apart : ∀ i j, i < j → j < dss.length → ∀ k, (V i).ownBlock = some k → (V j).ownBlock ≠ some k
theorem AppX.kept {w w' : World} {base N c : Nat} {v : Value} {V : Nat → Value} {dss : List (List Dd)} (h : AppX w base N v V dss) (hg : w.grownBy w' (some c)) (hc : c < base) : AppX w' base N v V dss :=
  ⟨World.ownsRow.kept h.row hg (ne_of_ge (fun k hk => (World.ownsRow.lt h.row k hk).1) hc), h.lt, fun i hi => (h.each i hi).kept hg (ne_of_ge (h.each i hi).ge hc), h.lts, h.out, h.apart⟩
theorem AppX.keep {w w' : World} {base N : Nat} {v : Value} {V : Nat → Value} {dss : List (List Dd)} (h : AppX w base N v V dss) (k : Keep w w') : AppX w' base N v V dss :=
  ⟨World.ownsRow.kept h.row k.grownBy (by cases v.ownBlock <;> simp), h.lt, fun i hi => (h.each i hi).keep k, h.lts, h.out, h.apart⟩
theorem AppX.up {w : World} {base N N' : Nat} {v : Value} {V : Nat → Value} {dss : List (List Dd)} (h : AppX w base N v V dss) (hN : N ≤ N') : AppX w base N' v V dss :=
  ⟨h.row, fun k hk => Nat.lt_of_lt_of_le (h.lt k hk) hN, h.each, fun i hi k hk => Nat.lt_of_lt_of_le (h.lts i hi k hk) hN, h.out, h.apart⟩
theorem range_getV (V : Nat → Value) (n i : Nat) (h : i < n) : ((List.range n).map V)[i]? = some (V i) := by
  rw [List.getElem?_map, List.getElem?_range h]; rfl
theorem AppX.at {w : World} {base N : Nat} {v : Value} {V : Nat → Value} {dss : List (List Dd)} (h : AppX w base N v V dss) (hn : 0 < dss.length) :
    ∃ g c, v = .slice (some ⟨g, 0, none⟩) dss.length c ∧ base ≤ g ∧ g < N ∧ g < w.heap.size ∧ dss.length ≤ c ∧ (∀ i, i < dss.length → w.cell? ⟨g, i, none⟩ = some (V i)) ∧ ∀ i, w.frozen? ⟨g, i, none⟩ = false := by
  have h2 := h.row
  have hlt := World.ownsRow.lt h2
  have hN := h.lt
  rcases h2.2 with ⟨_, hz⟩ | ⟨g, cap, cur, rfl, hb, hg, hc, _⟩
  · omega
  · refine ⟨g, cap, rfl, hb, hN g rfl, (hlt g rfl).2, hc, fun i hi => ?_, fun i => frozen_of_row w g i _ _ hg⟩
    rw [World.ownsRow.cellAt h2 i (by simpa using hi), range_getV V _ i hi]
theorem AppX.rdW {w : World} {base N : Nat} {v : Value} {V : Nat → Value} {dss : List (List Dd)} (h : AppX w base N v V dss) : RdW w v dss := by
  by_cases hn : 0 < dss.length
  · obtain ⟨g, c, rfl, _, _, hg, _, hc, _⟩ := h.at hn
    exact ⟨_, _, rfl, .inr ⟨g, 0, rfl, hg, fun i hi => ⟨V i, by rw [Nat.zero_add]; exact hc i hi, (h.each i hi).ownD.rd⟩⟩⟩
  · have h0 : dss = [] := List.eq_nil_of_length_eq_zero (by omega)
    subst h0
    rcases h.row.2 with ⟨rfl, _⟩ | ⟨g, cap, cur, rfl, _⟩
    · exact ⟨none, 0, rfl, .inl rfl⟩
    · exact ⟨_, _, rfl, .inl rfl⟩
theorem RdX.kept {w w' : World} {base c : Nat} {v : Value} {dss : List (List Dd)} (h : RdX w base v dss) (hg : w.grownBy w' (some c)) (hc : c < base) : RdX w' base v dss := by
  obtain ⟨a, cap, hv, h⟩ := h
  refine ⟨a, cap, hv, ?_⟩
  rcases h with h | ⟨b, off, ha, hbb, hb, hl⟩
  · exact .inl h
  · refine .inr ⟨b, off, ha, hbb, Nat.lt_of_lt_of_le hb hg.size, fun i hi => ?_⟩
    obtain ⟨vi, h1, h2⟩ := hl i hi
    have hblk : w'.heap[b]? = w.heap[b]? := hg.block b hb (by simp; omega)
    refine ⟨vi, ?_, h2.kept hg (ne_of_ge h2.ge hc)⟩
    simp only [World.cell?, hblk] at h1 ⊢
    exact h1
theorem AppX.rdX {w : World} {base N : Nat} {v : Value} {V : Nat → Value} {dss : List (List Dd)} (h : AppX w base N v V dss) : RdX w base v dss := by
  by_cases hn : 0 < dss.length
  · obtain ⟨g, c, rfl, hb, _, hg, _, hc, _⟩ := h.at hn
    exact ⟨_, _, rfl, .inr ⟨g, 0, rfl, hb, hg, fun i hi => ⟨V i, by rw [Nat.zero_add]; exact hc i hi, h.each i hi⟩⟩⟩
  · have h0 : dss = [] := List.eq_nil_of_length_eq_zero (by omega)
    subst h0
    rcases h.row.2 with ⟨rfl, _⟩ | ⟨g, cap, cur, rfl, _⟩
    · exact ⟨none, 0, rfl, .inl rfl⟩
    · exact ⟨_, _, rfl, .inl rfl⟩
/-- One list of deeds more, made behind all others. -/
theorem AppX.push {w w1 : World} {base N : Nat} {v v' u : Value} {V : Nat → Value} {dss : List (List Dd)} {ds : List Dd} (h : AppX w base N v V dss) (hu : AppD w N u ds) (hb : base ≤ N)
    (hown : w1.ownsRow base 63 1 v' (dss.length + 1) ((List.range dss.length).map V ++ [u])) (hgrow : w.grownBy w1 v.ownBlock) (hblk : v'.ownBlock = v.ownBlock ∨ v'.ownBlock = some w.heap.size) (hN : N ≤ w.heap.size) :
    AppX w1 base w1.heap.size v' (fun i => if i = dss.length then u else V i) (dss ++ [ds]) := by
  have hl : (dss ++ [ds]).length = dss.length + 1 := by simp
  have hs := hgrow.size
  have vne : ∀ k, u.ownBlock = some k → v.ownBlock ≠ some k := fun k hk e => by have := (hu.lt k hk).1; have := h.lt k e; omega
  have older : ∀ i, i < dss.length + 1 → i ≠ dss.length → i < dss.length := fun i h1 h2 => by omega
  refine ⟨?_, fun k hk => (World.ownsRow.lt hown k hk).2, fun i hi => ?_, fun i hi k hk => ?_, fun i hi k hk => ?_, fun i j hij hj k hk => ?_⟩
  · rw [hl, List.range_succ, List.map_append]
    have e : (List.range dss.length).map (fun i => if i = dss.length then u else V i) = (List.range dss.length).map V := by
      apply List.map_congr_left
      intro i hi
      rw [List.mem_range] at hi
      rw [if_neg (by omega)]
    rw [e]
    simpa using hown
  · rw [hl] at hi
    by_cases e : i = dss.length
    · subst e
      rw [if_pos rfl, getD_last dss ds []]
      refine (hu.base_le hb).kept hgrow ?_
      cases hv : u.ownBlock with
      | none => exact .inl rfl
      | some k => exact .inr (fun e => vne k hv e.symm)
    · rw [if_neg e, getD_left dss [ds] i [] (older i hi e)]
      refine (h.each i (older i hi e)).kept hgrow ?_
      cases hv : (V i).ownBlock with
      | none => exact .inl rfl
      | some k => exact .inr (fun e2 => h.out i (older i hi e) k hv e2.symm)
  · rw [hl] at hi
    by_cases e : i = dss.length
    · rw [if_pos e] at hk
      have := (hu.lt k hk).2
      omega
    · rw [if_neg e] at hk
      have := h.lts i (older i hi e) k hk
      omega
  · rw [hl] at hi
    by_cases e : i = dss.length
    · rw [if_pos e] at hk
      rcases hblk with e2 | e2
      · rw [e2]; exact vne k hk
      · rw [e2]
        have := (hu.lt k hk).2
        simp only [ne_eq, Option.some.injEq]
        omega
    · rw [if_neg e] at hk
      rcases hblk with e2 | e2
      · rw [e2]; exact h.out i (older i hi e) k hk
      · rw [e2]
        have := h.lts i (older i hi e) k hk
        simp only [ne_eq, Option.some.injEq]
        omega
  · rw [hl] at hj
    rw [if_neg (show i ≠ dss.length by omega)] at hk
    by_cases e : j = dss.length
    · rw [if_pos e]
      intro e2
      have := (hu.lt k e2).1
      have := h.lts i (by omega) k hk
      omega
    · rw [if_neg e]
      exact h.apart i j hij (by omega) k hk
theorem getD_setW {α : Type} (l : List α) (i j : Nat) (x z : α) (hi : i < l.length) : (l.set i x).getD j z = if i = j then x else l.getD j z := by
  rw [List.getD_eq_getElem?_getD, List.getElem?_set]
  by_cases e : i = j
  · subst e; rw [if_pos rfl, if_pos hi, if_pos rfl]; rfl
  · rw [if_neg e, if_neg e, List.getD_eq_getElem?_getD]
/-- A number of one deed is written. -/
theorem AppX.put {w : World} {base N : Nat} {v : Value} {V : Nat → Value} {dss : List (List Dd)} (h : AppX w base N v V dss) {i k g n c : Nat} (hi : i < dss.length) (hV : V i = .slice (some ⟨g, 0, none⟩) n c) (hk : k < (dss.getD i []).length) (x : Int) :
    ∃ ds, ds.length = (dss.getD i []).length ∧ AppX (w.setCell ⟨g, k * 4 + 3, none⟩ (.int .i64 x)) base N v V (dss.set i ds) := by
  have ob : (V i).ownBlock = some g := by rw [hV]; rfl
  have hg := grown_put w g (k * 4 + 3) (.int .i64 x)
  have hap := h.each i hi
  rw [hV] at hap
  refine ⟨(dss.getD i []).set k (((dss.getD i []).getD k zD).1, ((dss.getD i []).getD k zD).2.1, ((dss.getD i []).getD k zD).2.2.1, x), by rw [List.length_set], ⟨?_, h.lt, fun j hj => ?_, fun j hj => h.lts j (by simpa using hj), fun j hj => h.out j (by simpa using hj), fun a b hab hb => h.apart a b hab (by simpa using hb)⟩⟩
  · rw [List.length_set]
    refine World.ownsRow.kept h.row hg ?_
    exact .inr (h.out i hi g ob)
  · rw [List.length_set] at hj
    rw [getD_setW dss i j _ [] hi]
    by_cases e : i = j
    · subst e
      rw [if_pos rfl, hV]
      exact hap.put hk x
    · rw [if_neg e]
      refine (h.each j hj).kept hg ?_
      cases hv : (V j).ownBlock with
      | none => exact .inl rfl
      | some q =>
        refine .inr (fun e2 => ?_)
        simp only [Option.some.injEq] at e2
        subst e2
        rcases Nat.lt_or_gt_of_ne e with hl | hl
        · exact h.apart i j hl hj q ob hv
        · exact h.apart j i hl hi q hv ob
end Go.Proofs.YtfmcnkjpgaapaaaGreat
