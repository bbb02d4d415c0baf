/- Lists of deeds, and of such lists, that grow by append. -/
import Derived.Test.YtfmcnkjpgaapaaaGreatMC
import Derived.Maps.AppendAt
import Derived.Laws.OwnMore
namespace Go.Proofs.YtfmcnkjpgaapaaaGreat
open Go.ChangeShapes Go.WideShapes Go.ChangeAt Go.RowKit

def cD (d : Dd) : List Value := [.int .i64 d.1, .int .i64 d.2.1, .int .i64 d.2.2.1, .int .i64 d.2.2.2]
def AppD (w : World) (base : Nat) (v : Value) (ds : List Dd) : Prop := w.ownsRow base 82 4 v ds.length (ds.flatMap cD)
theorem AppD.keep {w w' : World} {base : Nat} {v : Value} {ds : List Dd} (h : AppD w base v ds) (k : Keep w w') : AppD w' base v ds :=
  World.ownsRow.kept h k.grownBy (by cases v.ownBlock <;> simp)
theorem AppD.ge {w : World} {base : Nat} {v : Value} {ds : List Dd} (h : AppD w base v ds) : ∀ k, v.ownBlock = some k → base ≤ k := fun k hk => (World.ownsRow.lt h k hk).1
theorem appD_hit {w : World} {base : Nat} {v : Value} {ds : List Dd} {d : Dd} (h : w.ownsRow base 82 4 v (ds.length + 1) (ds.flatMap cD ++ cD d)) : AppD w base v (ds ++ [d]) := by
  unfold AppD; simpa using h
theorem cD_at : ∀ (ds : List Dd) (i m : Nat), i < ds.length → m < 4 → (ds.flatMap cD)[i * 4 + m]? = (cD (ds.getD i zD))[m]?
  | [], i, m, h, _ => by simp at h
  | d :: r, 0, m, _, hm => by
    rw [List.flatMap_cons, List.getElem?_append_left (by simp [cD]; omega)]
    simp
  | d :: r, i + 1, m, h, hm => by
    have ih := cD_at r i m (by simpa using h) hm
    rw [List.flatMap_cons, List.getElem?_append_right (by simp [cD]; omega), show (i + 1) * 4 + m - (cD d).length = i * 4 + m by simp [cD]; omega, ih]
    simp
theorem AppD.ownD {w : World} {base : Nat} {v : Value} {ds : List Dd} (h : AppD w base v ds) : OwnD w base v ds := by
  have h2 := h
  rcases h.2 with ⟨rfl, hn⟩ | ⟨g, cap, cur, rfl, hb, hg, hcap, _, hs, _⟩
  · have : ds = [] := List.eq_nil_of_length_eq_zero hn
    subst this
    exact ⟨none, 0, rfl, .inl rfl⟩
  · obtain ⟨x, rfl⟩ : ∃ x, cap = ds.length + x := ⟨cap - ds.length, by omega⟩
    by_cases h0 : ds = []
    · exact ⟨_, x, rfl, .inl h0⟩
    · have len : (ds.flatMap cD).length = ds.length * 4 := h.1
      have big : ds.length * 4 ≤ cur.size := by
        have h5 := World.ownsRow.cellAt h2 (ds.length * 4 - 1) (by
          have : ds.length ≠ 0 := fun e => h0 (List.eq_nil_of_length_eq_zero e)
          omega)
        rw [cell_of_row w g _ cur _ (0, 0) hg] at h5
        have hpos : ds.length ≠ 0 := fun e => h0 (List.eq_nil_of_length_eq_zero e)
        rw [List.getElem?_eq_getElem (by omega)] at h5
        have := (Array.getElem?_eq_some_iff.1 h5).1
        omega
      refine ⟨_, x, rfl, .inr ⟨g, rfl, hb, ⟨cur, _, hg, big⟩, fun i hi => ?_⟩⟩
      have key : ∀ m, m < 4 → w.cell? ⟨g, i * 4 + m, none⟩ = (cD (ds.getD i zD))[m]? := fun m hm => by
        rw [World.ownsRow.cellAt h2 (i * 4 + m) (by omega), cD_at ds i m hi hm]
      exact ⟨key 0 (by omega), key 1 (by omega), key 2 (by omega), key 3 (by omega)⟩
theorem AppD.shape {w : World} {base : Nat} {v : Value} {ds : List Dd} (h : AppD w base v ds) : ∃ a c, v = .slice a ds.length c := by
  obtain ⟨a, c, hv, _⟩ := h.ownD
  exact ⟨a, _, hv⟩
def vZ : Value := .slice none 0 0
def AppW (w : World) (base : Nat) (v : Value) (dss : List (List Dd)) : Prop :=
  ∃ vs : List Value, vs.length = dss.length ∧ w.ownsRow base 63 1 v dss.length vs ∧ (∀ i, i < dss.length → OwnD w base (vs.getD i vZ) (dss.getD i [])) ∧
    (∀ i, i < dss.length → dss.getD i [] ≠ [] → (vs.getD i vZ).ownBlock ≠ v.ownBlock) ∧
    ∀ i j, i < j → j < dss.length → dss.getD i [] ≠ [] → dss.getD j [] ≠ [] → (vs.getD i vZ).ownBlock ≠ (vs.getD j vZ).ownBlock
theorem AppW.keep {w w' : World} {base : Nat} {v : Value} {dss : List (List Dd)} (h : AppW w base v dss) (k : Keep w w') : AppW w' base v dss := by
  obtain ⟨vs, h1, h2, h3, h4⟩ := h
  exact ⟨vs, h1, World.ownsRow.kept h2 k.grownBy (by cases v.ownBlock <;> simp), fun i hi => (h3 i hi).keep k, h4⟩
theorem OwnD.blockIn {w : World} {base : Nat} {v : Value} {ds : List Dd} (h : OwnD w base v ds) (h0 : ds ≠ []) : ∃ g, v.ownBlock = some g ∧ base ≤ g ∧ g < w.heap.size := by
  obtain ⟨a, cap, rfl, h⟩ := h
  rcases h with h | ⟨g, rfl, hb, hB, _⟩
  · exact absurd h h0
  · exact ⟨g, rfl, hb, hB.lt⟩
theorem OwnD.base_le {w : World} {base base' : Nat} {v : Value} {ds : List Dd} (h : OwnD w base v ds) (hb : base' ≤ base) : OwnD w base' v ds := by
  obtain ⟨a, cap, rfl, h⟩ := h
  refine ⟨a, cap, rfl, ?_⟩
  rcases h with h | ⟨g, rfl, hg, r⟩
  · exact .inl h
  · exact .inr ⟨g, rfl, Nat.le_trans hb hg, r⟩
theorem getD_left {α : Type} (l m : List α) (i : Nat) (z : α) (h : i < l.length) : (l ++ m).getD i z = l.getD i z := by
  rw [List.getD_eq_getElem?_getD, List.getElem?_append_left h, List.getD_eq_getElem?_getD]
theorem getD_last {α : Type} (l : List α) (x z : α) : (l ++ [x]).getD l.length z = x := by
  rw [List.getD_eq_getElem?_getD]; simp
/-- A list of deeds that was made behind all the others, appended. -/
theorem AppW.push {w0 w w1 : World} {base B : Nat} {v v' u : Value} {dss : List (List Dd)} {ds : List Dd} {vs : List Value}
    (hvs : vs.length = dss.length) (ho : w0.ownsRow base 63 1 v dss.length vs)
    (h3 : ∀ i, i < dss.length → OwnD w0 base (vs.getD i vZ) (dss.getD i []))
    (h4 : ∀ i, i < dss.length → dss.getD i [] ≠ [] → (vs.getD i vZ).ownBlock ≠ v.ownBlock)
    (h5 : ∀ i j, i < j → j < dss.length → dss.getD i [] ≠ [] → dss.getD j [] ≠ [] → (vs.getD i vZ).ownBlock ≠ (vs.getD j vZ).ownBlock)
    (k : Keep w0 w) (hB : w0.heap.size ≤ B) (hb : base ≤ B) (hu : OwnD w B u ds)
    (hown : w1.ownsRow base 63 1 v' (dss.length + 1) (vs ++ [u])) (hgrow : w.grownBy w1 v.ownBlock) (hblk : v'.ownBlock = v.ownBlock ∨ v'.ownBlock = some w.heap.size) :
    AppW w1 base v' (dss ++ [ds]) := by
  have old : ∀ i, i < dss.length → dss.getD i [] ≠ [] → ∃ g, (vs.getD i vZ).ownBlock = some g ∧ g < w0.heap.size := fun i hi hd => by
    obtain ⟨g, e, _, hl⟩ := (h3 i hi).blockIn hd
    exact ⟨g, e, hl⟩
  have vlt : ∀ g, v.ownBlock = some g → g < w0.heap.size := fun g hg => (World.ownsRow.lt ho g hg).2
  have new : ds ≠ [] → ∃ g, u.ownBlock = some g ∧ w0.heap.size ≤ g ∧ g < w.heap.size := fun hd => by
    obtain ⟨g, e, hbg, hl⟩ := hu.blockIn hd
    exact ⟨g, e, Nat.le_trans hB hbg, hl⟩
  have ksz := k.size
  refine ⟨vs ++ [u], by simp [hvs], by simpa using hown, ?_, ?_, ?_⟩
  · intro i hi
    by_cases e : i < dss.length
    · rw [getD_left vs [u] i vZ (by omega), getD_left dss [ds] i [] e]
      refine ((h3 i e).keep k).kept hgrow ?_
      by_cases hd : dss.getD i [] = []
      · exact .inl hd
      · exact .inr (h4 i e hd)
    · have : i = dss.length := by simp at hi; omega
      subst this
      rw [getD_last dss ds [], ← hvs, getD_last vs u vZ]
      refine (hu.base_le hb).kept hgrow ?_
      by_cases hd : ds = []
      · exact .inl hd
      · right
        obtain ⟨g, e, hl, _⟩ := new hd
        rw [e]
        intro e'
        have := vlt g e'.symm
        omega
  · intro i hi
    by_cases e : i < dss.length
    · rw [getD_left vs [u] i vZ (by omega), getD_left dss [ds] i [] e]
      intro hd
      rcases hblk with hv | hv
      · rw [hv]; exact h4 i e hd
      · obtain ⟨g, e1, hl⟩ := old i e hd
        rw [hv, e1]
        simp only [ne_eq, Option.some.injEq]
        omega
    · have : i = dss.length := by simp at hi; omega
      subst this
      rw [getD_last dss ds [], ← hvs, getD_last vs u vZ]
      intro hd
      obtain ⟨g, e1, hl, hl2⟩ := new hd
      rw [e1]
      rcases hblk with hv | hv
      · rw [hv]
        intro e'
        have := vlt g e'.symm
        omega
      · rw [hv]
        simp only [ne_eq, Option.some.injEq]
        omega
  · intro i j hij hj
    have hi : i < dss.length := by simp at hj; omega
    rw [getD_left vs [u] i vZ (by omega), getD_left dss [ds] i [] hi]
    by_cases e : j < dss.length
    · rw [getD_left vs [u] j vZ (by omega), getD_left dss [ds] j [] e]
      exact h5 i j hij e
    · have : j = dss.length := by simp at hj; omega
      subst this
      rw [getD_last dss ds [], ← hvs, getD_last vs u vZ]
      intro hd hd2
      obtain ⟨g, e1, hl⟩ := old i hi hd
      obtain ⟨g2, e2, hl2, _⟩ := new hd2
      rw [e1, e2]
      simp only [ne_eq, Option.some.injEq]
      omega
theorem AppW.ownW {w : World} {base : Nat} {v : Value} {dss : List (List Dd)} (h : AppW w base v dss) : OwnW w base v dss := by
  obtain ⟨vs, h1, h2, h3, h4, h5⟩ := h
  have h6 := h2
  rcases h2.2 with ⟨rfl, hn⟩ | ⟨g, cap, cur, rfl, hb, hg, _, _, hs, _⟩
  · have : dss = [] := List.eq_nil_of_length_eq_zero hn
    subst this
    exact ⟨none, 0, rfl, .inl rfl⟩
  · by_cases h0 : dss = []
    · exact ⟨_, _, rfl, .inl h0⟩
    · have hpos : dss.length ≠ 0 := fun e => h0 (List.eq_nil_of_length_eq_zero e)
      have cells : ∀ i, i < dss.length → w.cell? ⟨g, i, none⟩ = some (vs.getD i vZ) := fun i hi => by
        rw [World.ownsRow.cellAt h6 i (by omega), List.getElem?_eq_getElem (by omega), List.getD_eq_getElem?_getD, List.getElem?_eq_getElem (by omega)]
        rfl
      have big : dss.length ≤ cur.size := by
        have h5 := cells (dss.length - 1) (by omega)
        rw [cell_of_row w g _ cur _ (0, 0) hg] at h5
        have := (Array.getElem?_eq_some_iff.1 h5).1
        omega
      refine ⟨_, _, rfl, .inr ⟨g, fun i => vs.getD i vZ, rfl, hb, ⟨cur, _, hg, big⟩, fun i hi => ⟨cells i hi, h3 i hi⟩, ⟨fun i hi hd => ?_, h5⟩⟩⟩
      exact h4 i hi hd
end Go.Proofs.YtfmcnkjpgaapaaaGreat
