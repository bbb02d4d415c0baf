/- Gathered texts. -/
import Derived.Test.YtbmghnibngjicaaGreatMA
import Derived.Deep.RegionHeld3
import Derived.Orders
set_option maxRecDepth 100000
set_option maxHeartbeats 8000000
namespace Go.Proofs.YtbmghnibngjicaaGreat
open Go
open Go.ChangeShapes Go.WideShapes Go.ChangeAt Go.RowKit
open Go.RowKit
abbrev gAt (dss : List (List Dd)) (c k : Nat) : Int := (dAt dss c k).2.2.2
def OkC (dss : List (List Dd)) (c : Nat) : Prop := ∀ k, k < (dss.getD c []).length → okD (dAt dss c k) = true
theorem okC_of {dss : List (List Dd)} (h : workB dss = true) {c : Nat} (hc : c < dss.length) : OkC dss c := by
  simp only [workB, Bool.and_eq_true, decide_eq_true_eq] at h
  obtain ⟨⟨⟨⟨_, h2⟩, _⟩, _⟩, _⟩ := h
  have h3 := all_get [] h2 c hc
  unfold okL at h3
  rw [Bool.and_eq_true] at h3
  exact fun k hk => all_get zD h3.1 k hk
theorem g_in {dss : List (List Dd)} {c k : Nat} (h : OkC dss c) (hk : k < (dss.getD c []).length) : 0 ≤ gAt dss c k ∧ gAt dss c k ≤ 9 ∧ (2 < (dAt dss c k).1 → gAt dss c k = 0) :=
  ⟨(okD_restE (h k hk)).2.2.1, (okD_restE (h k hk)).2.2.2.1, (okD_restE (h k hk)).2.2.2.2⟩
theorem fst_len (dss : List (List Dd)) (c : Nat) : ∀ k : Nat, (clkE c (dss.getD c []) (evsW dss c) k).2.length = 10
  | 0 => by simp [clkE]
  | k + 1 => by
    have ih := fst_len dss c k
    rw [clkE, stepE]
    split
    · exact ih
    · show (fstE _ _ _).length = 10
      unfold fstE
      split
      · rw [List.length_set]; exact ih
      · exact ih
theorem fst_at {dss : List (List Dd)} {c : Nat} (hok : OkC dss c) {g : Nat} (h0 : 0 < g) (h9 : g ≤ 9) : ∀ k : Nat, k ≤ (dss.getD c []).length →
    ((clkE c (dss.getD c []) (evsW dss c) k).2.getD g 0 = 0 ∧ ∀ j, j < k → gAt dss c j ≠ g) ∨
    ∃ j, j < k ∧ gAt dss c j = g ∧ (∀ i, i < j → gAt dss c i ≠ g) ∧ (clkE c (dss.getD c []) (evsW dss c) k).2.getD g 0 = (offN dss c j : Int)
  | 0, _ => .inl ⟨by
      show (List.replicate 10 (0 : Int)).getD g 0 = 0
      rw [List.getD_eq_getElem?_getD, List.getElem?_replicate]
      split <;> rfl, fun j hj => by omega⟩
  | k + 1, hk => by
    have ih := fst_at hok h0 h9 k (by omega)
    have hl := fst_len dss c k
    have hd := g_in hok (k := k) (by omega)
    have hkk := okD_kindE (hok k (by omega))
    by_cases h4 : (dAt dss c k).1 = 4
    · have e : (clkE c (dss.getD c []) (evsW dss c) (k + 1)).2 = (clkE c (dss.getD c []) (evsW dss c) k).2 := by
        rw [clkE, stepE, if_pos h4]
      have hg : gAt dss c k = 0 := hd.2.2 (by omega)
      rw [e]
      rcases ih with ⟨h1, h2⟩ | ⟨j, h1, h2, h3, h5⟩
      · refine .inl ⟨h1, fun j hj => ?_⟩
        by_cases e : j = k
        · subst e; omega
        · exact h2 j (by omega)
      · exact .inr ⟨j, by omega, h2, h3, h5⟩
    · have e : (clkE c (dss.getD c []) (evsW dss c) (k + 1)).2 = fstE (gAt dss c k) (offN dss c k) (clkE c (dss.getD c []) (evsW dss c) k).2 := by
        rw [clkE, stepE, if_neg h4]
        rfl
      rw [e]
      by_cases hg : gAt dss c k = (g : Int)
      · rcases ih with ⟨h1, h2⟩ | ⟨j, h1, h2, h3, h5⟩
        · refine .inr ⟨k, by omega, hg, h2, ?_⟩
          unfold fstE
          rw [hg, Int.toNat_natCast, if_pos ⟨by omega, h1⟩, getD_setE _ _ _ _ (by omega), if_pos rfl]
        · refine .inr ⟨j, by omega, h2, h3, ?_⟩
          have h6 := off_three dss c j
          unfold fstE
          rw [hg, Int.toNat_natCast, if_neg (by rw [h5]; omega)]
          exact h5
      · have e2 : (fstE (gAt dss c k) (offN dss c k) (clkE c (dss.getD c []) (evsW dss c) k).2).getD g 0 = (clkE c (dss.getD c []) (evsW dss c) k).2.getD g 0 := by
          unfold fstE
          split
          · rename_i hp
            have hx : (gAt dss c k).toNat ≤ 9 := by have := hd.2.1; omega
            rw [getD_setE _ _ _ _ (by omega), if_neg (by omega)]
          · rfl
        rw [e2]
        rcases ih with ⟨h1, h2⟩ | ⟨j, h1, h2, h3, h5⟩
        · refine .inl ⟨h1, fun j hj => ?_⟩
          by_cases e : j = k
          · subst e; exact hg
          · exact h2 j (by omega)
        · exact .inr ⟨j, by omega, h2, h3, h5⟩
theorem cls_at {dss : List (List Dd)} {c k : Nat} (hok : OkC dss c) (hk : k < (dss.getD c []).length) (h4 : (dAt dss c k).1 ≠ 4) :
    (gAt dss c k = 0 ∧ clsD dss c k = (offN dss c k : Int)) ∨ (gAt dss c k ≠ 0 ∧ ∃ j, j ≤ k ∧ gAt dss c j = gAt dss c k ∧ (∀ i, i < j → gAt dss c i ≠ gAt dss c k) ∧ clsD dss c k = (offN dss c j : Int)) := by
  have hd := g_in hok hk
  by_cases hg : gAt dss c k = 0
  · refine .inl ⟨hg, ?_⟩
    unfold clsD clsE
    rw [if_neg (by have : (dAt dss c k).2.2.2 = 0 := hg; omega)]
  · obtain ⟨g, hgg⟩ := Int.eq_ofNat_of_zero_le hd.1
    have hgg' : gAt dss c k = (g : Int) := hgg
    have h9 : g ≤ 9 := by have := hd.2.1; omega
    refine .inr ⟨hg, ?_⟩
    have h1 := fst_at hok (g := g) (by omega) h9 (k + 1) hk
    have e : (clkE c (dss.getD c []) (evsW dss c) (k + 1)).2 = fstE (gAt dss c k) (offN dss c k) (clkE c (dss.getD c []) (evsW dss c) k).2 := by
      rw [clkE, stepE, if_neg h4]
      rfl
    rw [e] at h1
    rcases h1 with ⟨_, h2⟩ | ⟨j, h1, h2, h3, h5⟩
    · exact absurd hgg' (h2 k (by omega))
    · refine ⟨j, by omega, by rw [hgg']; exact h2, fun i hi => by rw [hgg']; exact h3 i hi, ?_⟩
      unfold clsD clsE
      rw [if_pos (by have : (dAt dss c k).2.2.2 = (g : Int) := hgg'; omega)]
      have hq : (dAt dss c k).2.2.2.toNat = g := by have : (dAt dss c k).2.2.2 = (g : Int) := hgg'; omega
      rw [hq]
      exact h5
theorem off_inj {dss : List (List Dd)} {c c' k k' : Nat} (hk : k < (dss.getD c []).length) (hk' : k' < (dss.getD c' []).length) (h1 : 0 < numD (dAt dss c k)) (h2 : 0 < numD (dAt dss c' k')) (e : offN dss c k = offN dss c' k') : c = c' ∧ k = k' := by
  by_cases hc : c < c'
  · have := off_lt (k' := k') hk (.inl hc); omega
  by_cases hc' : c' < c
  · have := off_lt (k' := k) hk' (.inl hc'); omega
  obtain rfl : c = c' := by omega
  refine ⟨rfl, ?_⟩
  by_cases hkk : k < k'
  · have := off_lt (c' := c) (k' := k') hk (.inr ⟨rfl, hkk⟩); omega
  by_cases hkk' : k' < k
  · have := off_lt (c' := c) (k' := k) hk' (.inr ⟨rfl, hkk'⟩); omega
  omega
theorem num_grp {dss : List (List Dd)} {c k : Nat} (hok : OkC dss c) (hk : k < (dss.getD c []).length) (hg : gAt dss c k ≠ 0) : (dAt dss c k).1 ≠ 4 ∧ (dAt dss c k).1 ≠ 3 ∧ 0 < numD (dAt dss c k) := by
  have hd := g_in hok hk
  have hkk := okD_kindE (hok k hk)
  have h3 : ¬ 2 < (dAt dss c k).1 := fun h => hg (hd.2.2 h)
  refine ⟨by omega, by omega, ?_⟩
  unfold numD
  rw [if_neg (by omega), if_neg (by omega)]
  omega
theorem num_pos {d : Dd} (h : d.1 ≠ 4) : 0 < numD d := by
  unfold numD
  rw [if_neg h]
  split <;> omega
theorem cls_iff {dss : List (List Dd)} {c c' k k' : Nat} (hok : OkC dss c) (hok' : OkC dss c') (hk : k < (dss.getD c []).length) (hk' : k' < (dss.getD c' []).length) (h4 : (dAt dss c k).1 ≠ 4) (h4' : (dAt dss c' k').1 ≠ 4) :
    clsD dss c k = clsD dss c' k' ↔ c = c' ∧ (k = k' ∨ (gAt dss c k ≠ 0 ∧ gAt dss c k = gAt dss c' k')) := by
  constructor
  · intro e
    rcases cls_at hok hk h4 with ⟨g1, e1⟩ | ⟨g1, j, j1, j2, j3, e1⟩
    · rcases cls_at hok' hk' h4' with ⟨g2, e2⟩ | ⟨g2, j', l1, l2, l3, e2⟩
      · rw [e1, e2] at e
        obtain ⟨rfl, rfl⟩ := off_inj hk hk' (num_pos h4) (num_pos h4') (by omega)
        exact ⟨rfl, .inl rfl⟩
      · rw [e1, e2] at e
        obtain ⟨rfl, rfl⟩ := off_inj (k' := j') hk (by omega) (num_pos h4) (num_grp (k := j') hok' (by omega) (by rw [l2]; exact g2)).2.2 (by omega)
        exact absurd (l2.symm.trans g1) g2
    · rcases cls_at hok' hk' h4' with ⟨g2, e2⟩ | ⟨g2, j', l1, l2, l3, e2⟩
      · rw [e1, e2] at e
        obtain ⟨rfl, rfl⟩ := off_inj (k := j) (by omega) hk' (num_grp (k := j) hok (by omega) (by rw [j2]; exact g1)).2.2 (num_pos h4') (by omega)
        exact absurd (j2.symm.trans g2) g1
      · rw [e1, e2] at e
        obtain ⟨rfl, rfl⟩ := off_inj (k := j) (k' := j') (by omega) (by omega) (num_grp (k := j) hok (by omega) (by rw [j2]; exact g1)).2.2 (num_grp (k := j') hok' (by omega) (by rw [l2]; exact g2)).2.2 (by omega)
        exact ⟨rfl, .inr ⟨g1, by rw [← j2, l2]⟩⟩
  · rintro ⟨rfl, rfl | ⟨g1, g2⟩⟩
    · rfl
    · rcases cls_at hok hk h4 with ⟨g0, _⟩ | ⟨_, j, j1, j2, j3, e1⟩
      · exact absurd g0 g1
      rcases cls_at hok' hk' h4' with ⟨g0, _⟩ | ⟨_, j', l1, l2, l3, e2⟩
      · rw [g0] at g2; exact absurd g2 g1
      rw [e1, e2]
      have : j = j' := by
        by_cases a : j < j'
        · exact absurd (by rw [j2, g2]) (l3 j a)
        by_cases a' : j' < j
        · exact absurd (by rw [l2, g2]) (j3 j' a')
        omega
      rw [this]
def rdI (d : Dd) (i : Nat) : Bool := decide (d.1 ≠ 2) && decide (i = 0)
def vlI (d : Dd) (i : Nat) : Int := if rdI d i = true then 0 else d.2.2.1
theorem oneE_at {c k : Nat} {d : Dd} {z : Int} (hd : d.1 = 1 ∨ d.1 = 2 ∨ d.1 = 3 ∨ d.1 = 4) {i : Nat} (hi : i < numD d) : (oneE c k d z)[i]? = some ((c : Int), (k : Int), rdI d i, d.2.1, vlI d i, z) := by
  unfold numD at hi
  unfold oneE vlI rdI
  rcases hd with h | h | h | h
  · rw [if_neg (by omega), if_neg (by omega)] at hi
    rw [if_neg (by omega), if_neg (by omega), if_neg (by omega)]
    obtain rfl : i = 0 := by omega
    simp [h]
  · rw [if_neg (by omega), if_neg (by omega)] at hi
    rw [if_neg (by omega), if_neg (by omega), if_pos h]
    obtain rfl : i = 0 := by omega
    simp [h]
  · rw [if_neg (by omega), if_pos h] at hi
    rw [if_neg (by omega), if_pos h]
    rcases (by omega : i = 0 ∨ i = 1) with rfl | rfl
    · simp [h]
    · simp
  · rw [if_pos h] at hi
    omega
structure EvIs (dss : List (List Dd)) (j c k i : Nat) : Prop where
  hc : c < dss.length
  hk : k < (dss.getD c []).length
  hi : i < numD (dAt dss c k)
  hj : j = offN dss c k + i
theorem EvIs.kind {dss : List (List Dd)} {j c k i : Nat} (h : EvIs dss j c k i) : (dAt dss c k).1 ≠ 4 := by
  intro e
  have := h.hi
  unfold numD at this
  rw [if_pos e] at this
  omega
theorem ev_dec {dss : List (List Dd)} (hb : workB dss = true) {j : Nat} (h3 : 3 ≤ j) (hj : j < (eventsB dss).length) : ∃ c k i, EvIs dss j c k i := by
  rw [eventsB, if_pos hb] at hj
  obtain ⟨c, k, i, h1, h2, h4, h5⟩ := es_dec dss h3 dss.length hj
  exact ⟨c, k, i, h1, h2, h4, h5⟩
theorem EvIs.at {dss : List (List Dd)} (hb : workB dss = true) {j c k i : Nat} (h : EvIs dss j c k i) : (eventsB dss).getD j zE = ((c : Int), (k : Int), rdI (dAt dss c k) i, (dAt dss c k).2.1, vlI (dAt dss c k) i, clsD dss c k) := by
  have hd := okD_kindE (okC_of hb h.hc k h.hk)
  rw [eventsB, if_pos hb, List.getD_eq_getElem?_getD, h.hj, es_at h.hc h.hk (oneE_at hd h.hi)]
  rfl
theorem EvIs.lt {dss : List (List Dd)} (hb : workB dss = true) {j c k i : Nat} (h : EvIs dss j c k i) : 3 ≤ j ∧ j < (eventsB dss).length := by
  have hd := okD_kindE (okC_of hb h.hc k h.hk)
  have h1 := es_at (n := dss.length) h.hc h.hk (oneE_at (z := clsD dss c k) (c := c) (k := k) hd h.hi)
  have h2 := off_three dss c k
  rw [eventsB, if_pos hb, h.hj]
  exact ⟨by omega, (List.getElem?_eq_some_iff.1 h1).1⟩
theorem EvIs.ord {dss : List (List Dd)} {j c k i j' c' k' i' : Nat} (h : EvIs dss j c k i) (h' : EvIs dss j' c' k' i') : j < j' ↔ c < c' ∨ (c = c' ∧ (k < k' ∨ (k = k' ∧ i < i'))) := by
  have e1 := h.hj
  have e2 := h'.hj
  have l1 := h.hi
  have l2 := h'.hi
  constructor
  · intro hlt
    by_cases a : c < c'
    · exact .inl a
    by_cases b : c' < c
    · have := off_lt (k' := k) h'.hk (.inl b); omega
    obtain rfl : c = c' := by omega
    refine .inr ⟨rfl, ?_⟩
    by_cases a : k < k'
    · exact .inl a
    by_cases b : k' < k
    · have := off_lt (c' := c) (k' := k) h'.hk (.inr ⟨rfl, b⟩); omega
    obtain rfl : k = k' := by omega
    exact .inr ⟨rfl, by omega⟩
  · rintro (a | ⟨rfl, a | ⟨rfl, a⟩⟩)
    · have := off_lt (k' := k') h.hk (.inl a); omega
    · have := off_lt (c' := c) (k' := k') h.hk (.inr ⟨rfl, a⟩); omega
    · omega
theorem EvIs.one {dss : List (List Dd)} {j c k i c' k' i' : Nat} (h : EvIs dss j c k i) (h' : EvIs dss j c' k' i') : c = c' ∧ k = k' ∧ i = i' := by
  have a := h.ord h'
  have b := h'.ord h
  by_cases hc : c = c'
  · subst hc
    by_cases hk : k = k'
    · subst hk
      exact ⟨rfl, rfl, by have := h.hj; have := h'.hj; omega⟩
    · by_cases hlt : k < k'
      · have := a.2 (.inr ⟨rfl, .inl hlt⟩); omega
      · have := b.2 (.inr ⟨rfl, .inl (by omega)⟩); omega
  · by_cases hlt : c < c'
    · have := a.2 (.inl hlt); omega
    · have := b.2 (.inl (by omega)); omega
theorem tog_between {ds : List Dd} (ht : Tog ds) {j k : Nat} (hk : k < ds.length) (hg : (ds.getD k zD).2.2.2 ≠ 0) (e : (ds.getD j zD).2.2.2 = (ds.getD k zD).2.2.2) : ∀ m : Nat, j + m < k → (ds.getD (k - 1 - m) zD).2.2.2 = (ds.getD k zD).2.2.2
  | 0, h => ht k j hk (by omega) hg e
  | m + 1, h => by
    have ih := tog_between ht hk hg e m (by omega)
    have h2 := ht (k - 1 - m) j (by omega) (by omega) (by rw [ih]; exact hg) (by rw [ih]; exact e)
    rw [show k - 1 - (m + 1) = k - 1 - m - 1 by omega, h2, ih]
theorem grp_between {dss : List (List Dd)} (hb : workB dss = true) {c j k l : Nat} (hc : c < dss.length) (h1 : j ≤ k) (h2 : k ≤ l) (hl : l < (dss.getD c []).length) (hg : gAt dss c l ≠ 0) (e : gAt dss c j = gAt dss c l) : gAt dss c k = gAt dss c l := by
  by_cases a : k = l
  · rw [a]
  by_cases b : k = j
  · rw [b]; exact e
  have := tog_between (work_tog hb c hc) hl hg e (l - 1 - k) (by omega)
  rw [show l - 1 - (l - 1 - k) = k by omega] at this
  exact this
def plE (es : List Ev) (r : Int) : Int := (es.getD r.toNat zE).2.2.2.1
def chcK (es : List Ev) (rs : List Int) : Nat → List (List Int)
  | 0 => []
  | k + 1 => chcK es rs k ++ [idxB (toE (plE es (rs.getD k 0))) es]
def chcL (es : List Ev) : List (List Int) := chcK es (idxB rdE es) (idxB rdE es).length
theorem chcK_len (es : List Ev) (rs : List Int) : ∀ k : Nat, (chcK es rs k).length = k
  | 0 => rfl
  | k + 1 => by rw [chcK, List.length_append, chcK_len es rs k]; rfl
theorem chcK_get (es : List Ev) (rs : List Int) : ∀ (k i : Nat), i < k → (chcK es rs k).getD i [] = idxB (toE (plE es (rs.getD i 0))) es
  | 0, i, h => by omega
  | k + 1, i, h => by
    rw [chcK]
    by_cases hi : i < k
    · rw [List.getD_eq_getElem?_getD, List.getElem?_append_left (by rw [chcK_len]; exact hi), ← List.getD_eq_getElem?_getD, chcK_get es rs k i hi]
    · obtain rfl : i = k := by omega
      rw [List.getD_eq_getElem?_getD, List.getElem?_append_right (by rw [chcK_len]; exact Nat.le_refl _), chcK_len]
      simp
def isB (l : List Int) (n : Int) : Bool := l.any (· == n)
def srcK (c : List (List Int)) (from' : List Int) : Nat → Bool
  | 0 => true
  | k + 1 => srcK c from' k && isB (c.getD k []) (from'.getD k 0)
def srcB (c : List (List Int)) (from' : List Int) : Bool := decide (c.length = from'.length) && srcK c from' c.length
def sourceB (dss : List (List Dd)) (from' : List Int) : Bool := workB dss && srcB (chcL (eventsB dss)) from'
theorem srcK_iff {c : List (List Int)} {f : List Int} : ∀ k : Nat, srcK c f k = true ↔ ∀ i, i < k → isB (c.getD i []) (f.getD i 0) = true
  | 0 => by simp [srcK]
  | k + 1 => by
    rw [srcK, Bool.and_eq_true, srcK_iff k]
    constructor
    · rintro ⟨h1, h2⟩ i hi
      by_cases e : i = k
      · subst e; exact h2
      · exact h1 i (by omega)
    · intro h
      exact ⟨fun i hi => h i (by omega), h k (by omega)⟩
abbrev Nt := Int × Int × Int
structure Bd where
  plc : List Int
  lst : List Int
  nts : List (List Nt)
  nxt : List Int
  sn : List Int
  fr : List Int
  rws : List (List Int)
def newM (dss : List (List Dd)) : Bd :=
  { plc := [0, 0, 0], lst := [0, 1, 2], nts := List.replicate dss.length [], nxt := List.replicate dss.length 0, sn := List.replicate (idxB rdE (eventsB dss)).length (-1), fr := List.replicate (idxB rdE (eventsB dss)).length (-1), rws := [[0], [1], [2]] }
def rdgM (b : Bd) (c p : Nat) : Int × Int :=
  match (b.nts.getD c []).reverse.find? (fun x => x.1 == (p : Int)) with
  | some x => x.2
  | none => (b.plc.getD p 0, b.lst.getD p 0)
def setR (rs : List Int) (ev v : Int) (l : List Int) : List Int := List.zipWith (fun r x => if r = ev then v else x) rs l
def seeM (rs : List Int) (b : Bd) (ev v f : Int) : Bd := { b with sn := setR rs ev v b.sn, fr := setR rs ev f b.fr }
def inkM (b : Bd) (p : Nat) (v ev : Int) : Bd := { b with plc := b.plc.set p v, lst := b.lst.set p ev, rws := b.rws.set p (b.rws.getD p [] ++ [ev]) }
def evM (es : List Ev) (c k : Nat) : Int :=
  match (List.range es.length).find? (fun i => decide (3 ≤ i) && ((es.getD i zE).1 == (c : Int)) && ((es.getD i zE).2.1 == (k : Int))) with
  | some i => (i : Int)
  | none => -1
def deedM (dss : List (List Dd)) (es : List Ev) (b : Bd) (c k : Nat) : Bd :=
  if (dAt dss c k).1 = 1 then seeM (idxB rdE es) b (evM es c k) (rdgM b c (dAt dss c k).2.1.toNat).1 (rdgM b c (dAt dss c k).2.1.toNat).2
  else if (dAt dss c k).1 = 3 then
    inkM (seeM (idxB rdE es) b (evM es c k) (b.plc.getD (dAt dss c k).2.1.toNat 0) (b.lst.getD (dAt dss c k).2.1.toNat 0)) (dAt dss c k).2.1.toNat (dAt dss c k).2.2.1 (evM es c k + 1)
  else if (dAt dss c k).1 = 2 ∧ 0 < gAt dss c k then inkM b (dAt dss c k).2.1.toNat (dAt dss c k).2.2.1 (evM es c k)
  else if (dAt dss c k).1 = 2 then { b with nts := b.nts.set c (b.nts.getD c [] ++ [((dAt dss c k).2.1, (dAt dss c k).2.2.1, evM es c k)]) }
  else b
def nxN (b : Bd) (c : Nat) : Nat := (b.nxt.getD c 0).toNat
def oneM (dss : List (List Dd)) (es : List Ev) (b : Bd) (c : Nat) : Bd :=
  { deedM dss es b c (nxN b c) with nxt := b.nxt.set c (b.nxt.getD c 0 + 1) }
def goM (dss : List (List Dd)) (es : List Ev) (g : Int) (c : Nat) : Nat → Bd → Bd
  | 0, b => b
  | m + 1, b =>
    if g = 0 ∨ nxN (oneM dss es b c) c = (dss.getD c []).length ∨ gAt dss c (nxN (oneM dss es b c) c) ≠ g then oneM dss es b c else goM dss es g c m (oneM dss es b c)
def flushM (b : Bd) (c : Nat) : Bd :=
  match b.nts.getD c [] with
  | [] => b
  | x :: r => inkM { b with nts := b.nts.set c r } x.1.toNat x.2.1 x.2.2
def stepM (dss : List (List Dd)) (es : List Ev) (b : Bd) (s : Int) : Bd :=
  if 10 ≤ s then flushM b (s - 10).toNat else goM dss es (gAt dss s.toNat (nxN b s.toNat)) s.toNat (dss.getD s.toNat []).length b
def canM (dss : List (List Dd)) (b : Bd) (c : Nat) : Bool :=
  decide (nxN b c < (dss.getD c []).length) && ((decide ((dAt dss c (nxN b c)).1 ≤ 2) && decide (gAt dss c (nxN b c) = 0)) || (b.nts.getD c []).isEmpty)
def possM (dss : List (List Dd)) (b : Bd) : List Int :=
  ((List.range dss.length).filter (canM dss b)).map (fun c : Nat => (c : Int)) ++ ((List.range dss.length).filter (fun c => !(b.nts.getD c []).isEmpty)).map (fun c : Nat => 10 + (c : Int))
def runM (dss : List (List Dd)) (es : List Ev) (b : Bd) : List Int → Bd
  | [] => b
  | s :: r => runM dss es (if isB (possM dss b) s = true then stepM dss es b s else b) r
def allB (l : List Int) (lo hi : Int) (most : Nat) : Bool := l.all (fun x => decide (lo ≤ x) && decide (x ≤ hi)) && decide (l.length ≤ most)
def ntB (n : Int) (x : Nt) : Bool := (decide (0 ≤ x.1) && decide (x.1 ≤ 2)) && ((decide (0 ≤ x.2.1) && decide (x.2.1 ≤ 9)) && (decide (0 ≤ x.2.2) && decide (x.2.2 ≤ n - 1)))
def ntsB (n : Int) (l : List Nt) : Bool := l.all (ntB n)
def ckB (dss : List (List Dd)) (n : Int) (b : Bd) (i : Nat) : Bool :=
  (decide (0 ≤ b.nxt.getD i 0) && decide (b.nxt.getD i 0 ≤ ((dss.getD i []).length : Int))) && (decide ((b.nts.getD i []).length ≤ 8) && ntsB n (b.nts.getD i []))
def shapeB (dss : List (List Dd)) (b : Bd) : Bool :=
  workB dss && (decide (b.plc.length = 3) && (decide (b.lst.length = 3) && (decide (b.rws.length = 3) && (decide (b.nts.length = dss.length) && decide (b.nxt.length = dss.length)))))
def fillB (n : Int) (r : Nat) (b : Bd) : Bool :=
  decide (b.sn.length = r) && (decide (b.fr.length = r) && (allB b.plc 0 9 3 && (allB b.lst 0 (n - 1) 3 && (allB b.sn (-1) 9 12 && allB b.fr (-1) (n - 1) 12))))
def rowsBd (n : Int) (b : Bd) : Bool := (List.range 3).all (fun i => allB (b.rws.getD i []) 0 (n - 1) 20)
def boardB (dss : List (List Dd)) (b : Bd) : Bool :=
  shapeB dss b && (fillB ((eventsB dss).length : Int) (idxB rdE (eventsB dss)).length b && (rowsBd ((eventsB dss).length : Int) b && (List.range dss.length).all (fun i => ckB dss ((eventsB dss).length : Int) b i)))
theorem allB_far {l : List Int} {lo hi : Int} {most k : Nat} (hk : k < l.length) (h : (decide (lo ≤ l.getD k 0) && decide (l.getD k 0 ≤ hi)) = false) : allB l lo hi most = false := by
  have : l.all (fun x => decide (lo ≤ x) && decide (x ≤ hi)) = false := by
    rw [List.all_eq_false]
    refine ⟨l.getD k 0, ?_, by rw [h]; simp⟩
    rw [List.getD_eq_getElem?_getD, List.getElem?_eq_getElem hk]
    exact List.getElem_mem hk
  unfold allB
  rw [this]
  rfl
theorem allB_done {l : List Int} {lo hi : Int} {most : Nat} (h : ∀ k, k < l.length → (decide (lo ≤ l.getD k 0) && decide (l.getD k 0 ≤ hi)) = true) : allB l lo hi most = decide (l.length ≤ most) := by
  have : l.all (fun x => decide (lo ≤ x) && decide (x ≤ hi)) = true := by
    rw [List.all_eq_true]
    intro x hx
    obtain ⟨i, hi, e⟩ := List.getElem_of_mem hx
    have := h i hi
    rw [List.getD_eq_getElem?_getD, List.getElem?_eq_getElem hi] at this
    simp only [Option.getD_some] at this
    rw [e] at this
    exact this
  unfold allB
  rw [this]
  rfl
theorem all_range_false {n k : Nat} {f : Nat → Bool} (hk : k < n) (h : f k = false) : (List.range n).all f = false := by
  rw [List.all_eq_false]
  exact ⟨k, List.mem_range.2 hk, by rw [h]; simp⟩
theorem all_range_true {n : Nat} {f : Nat → Bool} (h : ∀ k, k < n → f k = true) : (List.range n).all f = true := by
  rw [List.all_eq_true]
  exact fun k hk => h k (List.mem_range.1 hk)
theorem ntsB_false {n : Int} {l : List Nt} {k : Nat} (hk : k < l.length) (h : ntB n (l.getD k (0, 0, 0)) = false) : ntsB n l = false := by
  unfold ntsB
  rw [List.all_eq_false]
  refine ⟨l.getD k (0, 0, 0), ?_, by rw [h]; simp⟩
  rw [List.getD_eq_getElem?_getD, List.getElem?_eq_getElem hk]
  exact List.getElem_mem hk
theorem ntsB_true {n : Int} {l : List Nt} (h : ∀ k, k < l.length → ntB n (l.getD k (0, 0, 0)) = true) : ntsB n l = true := by
  unfold ntsB
  rw [List.all_eq_true]
  intro x hx
  obtain ⟨i, hi, e⟩ := List.getElem_of_mem hx
  have := h i hi
  rw [List.getD_eq_getElem?_getD, List.getElem?_eq_getElem hi] at this
  simp only [Option.getD_some] at this
  rw [e] at this
  exact this
theorem board_use {dss : List (List Dd)} {b : Bd} (h : boardB dss b = true) : b.plc.length = 3 ∧ b.lst.length = 3 ∧ b.nts.length = dss.length := by
  unfold boardB shapeB at h
  simp only [Bool.and_eq_true, decide_eq_true_eq] at h
  exact ⟨h.1.2.1, h.1.2.2.1, h.1.2.2.2.2.1⟩
theorem board_lens {dss : List (List Dd)} {b : Bd} (h : boardB dss b = true) : b.nts.length = dss.length ∧ b.nxt.length = dss.length := by
  unfold boardB shapeB at h
  simp only [Bool.and_eq_true, decide_eq_true_eq] at h
  exact ⟨h.1.2.2.2.2.1, h.1.2.2.2.2.2⟩
def rowS (v : Value) (n : Nat) (a : Addr) : Prop := ∃ b o l c i, v = .slice (some ⟨b, o, none⟩) l c ∧ i < n ∧ a = ⟨b, o + i, none⟩
def Wb (w : World) (a : Addr) : Prop := ∃ cur t, w.heap[a.block]? = some (.cells cur t (0, 0)) ∧ a.off < cur.size
structure Wrt (S : Addr → Prop) (w w' : World) : Prop where
  os : w'.os = w.os
  tape : w'.tape = w.tape
  output : w'.output = w.output
  size : w.heap.size ≤ w'.heap.size
  cell : ∀ a, a.block < w.heap.size → ¬ S a → w'.cell? a = w.cell? a
  shape : ∀ (b : Nat) (cur : Array Value) (t : TypeId), w.heap[b]? = some (Obj.cells cur t (0, 0)) → ∃ cur' : Array Value, w'.heap[b]? = some (Obj.cells cur' t (0, 0)) ∧ cur'.size = cur.size
  block : ∀ b, b < w.heap.size → (∀ a, S a → a.block ≠ b) → w'.heap[b]? = w.heap[b]?
def Mkd (w : World) (v : Value) (n : Nat) (k : Int) : Prop := ∀ b o l c i, v = .slice (some ⟨b, o, none⟩) l c → i < n → w.cell? ⟨b, o + i, none⟩ = some (.int .i64 (k + i))
theorem Wb.lt {w : World} {a : Addr} (h : Wb w a) : a.block < w.heap.size := by
  obtain ⟨cur, t, h, _⟩ := h
  exact (Array.getElem?_eq_some_iff.1 h).1
theorem Wb.free {w : World} {b o : Nat} (h : Wb w ⟨b, o, none⟩) : w.frozen? ⟨b, o, none⟩ = false := by
  obtain ⟨cur, t, h, _⟩ := h
  exact frozen_of_row w b o cur t h
theorem Wb.cell {w : World} {b o : Nat} (h : Wb w ⟨b, o, none⟩) : ∃ u, w.cell? ⟨b, o, none⟩ = some u := by
  obtain ⟨cur, t, h, hn⟩ := h
  exact ⟨cur[o], by rw [cell_of_row w b o cur t (0, 0) h, Array.getElem?_eq_getElem hn]⟩
theorem Wb.kept {S : Addr → Prop} {w w' : World} {a : Addr} (h : Wb w a) (k : Wrt S w w') : Wb w' a := by
  obtain ⟨cur, t, h, hn⟩ := h
  obtain ⟨cur', h', e⟩ := k.shape _ _ _ h
  exact ⟨cur', t, h', by rw [e]; exact hn⟩
theorem Wb.keep {w w' : World} {a : Addr} (h : Wb w a) (k : Keep w w') : Wb w' a := by
  have hl := h.lt
  obtain ⟨cur, t, h, hn⟩ := h
  exact ⟨cur, t, (Below.block k _ hl).trans h, hn⟩
theorem Wrt.refl (S : Addr → Prop) (w : World) : Wrt S w w := ⟨rfl, rfl, rfl, Nat.le_refl _, fun _ _ _ => rfl, fun _ cur _ h => ⟨cur, h, rfl⟩, fun _ _ _ => rfl⟩
theorem Wrt.trans {S : Addr → Prop} {a b c : World} (h : Wrt S a b) (k : Wrt S b c) : Wrt S a c :=
  ⟨k.os.trans h.os, k.tape.trans h.tape, k.output.trans h.output, Nat.le_trans h.size k.size,
   fun x hx hn => (k.cell x (Nat.lt_of_lt_of_le hx h.size) hn).trans (h.cell x hx hn),
   fun q cur t hq => by
    obtain ⟨c1, h1, e1⟩ := h.shape q cur t hq
    obtain ⟨c2, h2, e2⟩ := k.shape q c1 t h1
    exact ⟨c2, h2, e2.trans e1⟩,
   fun q hq hn => (k.block q (Nat.lt_of_lt_of_le hq h.size) hn).trans (h.block q hq hn)⟩
theorem Wrt.more {S T : Addr → Prop} {w w' : World} (h : Wrt S w w') (hs : ∀ a, S a → T a) : Wrt T w w' :=
  ⟨h.os, h.tape, h.output, h.size, fun a ha hn => h.cell a ha (fun hS => hn (hs a hS)), h.shape, fun b hb hn => h.block b hb (fun a ha => hn a (hs a ha))⟩
theorem Wrt.set {S : Addr → Prop} {a w : World} (h : Wrt S a w) {b o : Nat} (x : Value) (hb : Wb w ⟨b, o, none⟩) (hS : S ⟨b, o, none⟩) : Wrt S a (w.setCell ⟨b, o, none⟩ x) := by
  refine h.trans ⟨rfl, rfl, rfl, by simp, fun q _ hn => World.cell?_setCell_other _ _ _ _ (fun e => hn (e ▸ hS)), fun q cur t hq => ?_, fun q _ hn => heap_setCell_other w ⟨b, o, none⟩ q x (fun e => hn _ hS e.symm)⟩
  by_cases e : q = b
  · subst e
    exact ⟨cur.setIfInBounds o x, heap_setCell_same w q o cur t x hq, by simp⟩
  · exact ⟨cur, (heap_setCell_other w ⟨b, o, none⟩ q x e).trans hq, rfl⟩
theorem Wb.set {w : World} {a : Addr} {b o : Nat} (x : Value) (h : Wb w a) : Wb (w.setCell ⟨b, o, none⟩ x) a := by
  obtain ⟨cur, t, h, hn⟩ := h
  by_cases e : a.block = b
  · refine ⟨cur.setIfInBounds o x, t, ?_, by simpa using hn⟩
    rw [e] at h ⊢
    exact heap_setCell_same w b o cur t x h
  · exact ⟨cur, t, (heap_setCell_other w ⟨b, o, none⟩ a.block x e).trans h, hn⟩
theorem Mkd.kept {S : Addr → Prop} {w w' : World} {v : Value} {n : Nat} {k : Int} (h : Mkd w v n k) (g : Wrt S w w') (hd : ∀ a, rowS v n a → ¬ S a) (hw : ∀ a, rowS v n a → a.block < w.heap.size) : Mkd w' v n k :=
  fun b o l c i e hi => (g.cell _ (hw _ ⟨b, o, l, c, i, e, hi, rfl⟩) (hd _ ⟨b, o, l, c, i, e, hi, rfl⟩)).trans (h b o l c i e hi)
theorem Mkd.keep {w w' : World} {v : Value} {n : Nat} {k : Int} (h : Mkd w v n k) (g : Keep w w') (hw : ∀ a, rowS v n a → a.block < w.heap.size) : Mkd w' v n k :=
  fun b o l c i e hi => (g.cell (hw _ ⟨b, o, l, c, i, e, hi, rfl⟩)).trans (h b o l c i e hi)
def rowsS (rs : List (Value × Nat)) (a : Addr) : Prop := ∃ r ∈ rs, rowS r.1 r.2 a
structure Loose (w : World) (rs : List (Value × Nat)) : Prop where
  wb : ∀ a, rowsS rs a → Wb w a
  ap : rs.Pairwise (fun r s => ∀ a, rowS r.1 r.2 a → ¬ rowS s.1 s.2 a)
theorem Loose.kept {S : Addr → Prop} {w w' : World} {rs : List (Value × Nat)} (h : Loose w rs) (g : Wrt S w w') : Loose w' rs := ⟨fun a ha => (h.wb a ha).kept g, h.ap⟩
theorem Loose.keep {w w' : World} {rs : List (Value × Nat)} (h : Loose w rs) (g : Keep w w') : Loose w' rs := ⟨fun a ha => (h.wb a ha).keep g, h.ap⟩
theorem Loose.apart {w : World} {a b : List (Value × Nat)} (h : Loose w (a ++ b)) : ∀ x, rowsS a x → ¬ rowsS b x := by
  rintro x ⟨r, hr, h1⟩ ⟨s, hs, h2⟩
  exact (List.pairwise_append.1 h.ap).2.2 r hr s hs x h1 h2
def inAll (l : List Int) (lo hi : Int) : Bool := l.all (fun x => inB x lo hi)
def numP (l : List Int) (n lo hi : Int) : Bool := decide ((l.length : Int) = n) && inAll l lo hi
def rowP (last : Int) (l : List Int) : Bool := decide (l.length ≤ 20) && numP l l.length 0 last
def ntP (last : Int) (x : Nt) : Bool := inB x.1 0 2 && (inB x.2.1 0 9 && inB x.2.2 0 last)
def ntsP (last : Int) (l : List Nt) : Bool := decide (l.length ≤ 8) && l.all (ntP last)
def standP (last : Int) (b : Bd) : Bool := numP b.plc 3 0 9 && (numP b.lst 3 0 last && (decide (b.rws.length = 3) && b.rws.all (rowP last)))
def ckP (last : Int) (dss : List (List Dd)) (b : Bd) (i : Nat) : Bool := inB (b.nxt.getD i 0) 0 ((dss.getD i []).length : Int) && ntsP last (b.nts.getD i [])
def clksP (last : Int) (dss : List (List Dd)) (b : Bd) : Bool := decide (b.nts.length = dss.length) && (decide (b.nxt.length = dss.length) && (List.range dss.length).all (ckP last dss b))
def boardP (dss : List (List Dd)) (b : Bd) : Bool :=
  workB dss && (standP (((eventsB dss).length : Int) - 1) b && (clksP (((eventsB dss).length : Int) - 1) dss b && (numP b.sn (idxB rdE (eventsB dss)).length (-1) 9 && numP b.fr (idxB rdE (eventsB dss)).length (-1) (((eventsB dss).length : Int) - 1))))
theorem inB_and (x lo hi : Int) : (decide (lo ≤ x) && decide (x ≤ hi)) = inB x lo hi := by
  rw [Bool.eq_iff_iff]; unfold inB; simp
theorem allB_in (l : List Int) (lo hi : Int) (m : Nat) : allB l lo hi m = (inAll l lo hi && decide (l.length ≤ m)) := by
  unfold allB inAll
  congr 2
  funext x
  exact inB_and x lo hi
theorem ntB_in (n : Int) (x : Nt) : ntB n x = ntP (n - 1) x := by
  unfold ntB ntP
  rw [inB_and, inB_and, inB_and]
theorem ckB_in (dss : List (List Dd)) (n : Int) (b : Bd) (i : Nat) : ckB dss n b i = ckP (n - 1) dss b i := by
  unfold ckB ckP ntsP ntsB
  rw [inB_and]
  congr 3
  funext x
  exact ntB_in n x
theorem rowP_in (last : Int) (l : List Int) : rowP last l = allB l 0 last 20 := by
  rw [allB_in]
  unfold rowP numP
  simp [Bool.and_comm]
theorem rows_three (last : Int) (b : Bd) (h : b.rws.length = 3) : b.rws.all (rowP last) = rowsBd (last + 1) b := by
  obtain ⟨x, y, z, e⟩ : ∃ x y z, b.rws = [x, y, z] := by
    match hr : b.rws, h with
    | [x, y, z], _ => exact ⟨x, y, z, rfl⟩
  unfold rowsBd
  rw [e]
  have e1 : last + 1 - 1 = last := by omega
  rw [e1]
  simp [List.range, List.range.loop, rowP_in]
theorem boardP_same (dss : List (List Dd)) (b : Bd) (hl : (idxB rdE (eventsB dss)).length ≤ 12) : boardP dss b = boardB dss b := by
  generalize hr : (idxB rdE (eventsB dss)).length = r at hl
  generalize hn : ((eventsB dss).length : Int) = n
  rw [Bool.eq_iff_iff]
  unfold boardP boardB shapeB fillB standP clksP numP
  rw [hr, hn]
  have ec : (fun i => ckB dss n b i) = ckP (n - 1) dss b := by funext i; exact ckB_in dss n b i
  rw [ec]
  simp only [allB_in, Bool.and_eq_true, decide_eq_true_eq]
  have e1 : n - 1 + 1 = n := by omega
  constructor
  · rintro ⟨h1, ⟨⟨p1, p2⟩, ⟨l1, l2⟩, r1, r2⟩, ⟨c1, c2, c3⟩, ⟨s1, s2⟩, f1, f2⟩
    rw [rows_three _ _ r1, e1] at r2
    exact ⟨⟨h1, by omega, by omega, r1, c1, c2⟩, ⟨by omega, by omega, ⟨p2, by omega⟩, ⟨l2, by omega⟩, ⟨s2, by omega⟩, f2, by omega⟩, r2, c3⟩
  · rintro ⟨⟨h1, p1, l1, r1, c1, c2⟩, ⟨s1, f1, ⟨p2, _⟩, ⟨l2, _⟩, ⟨s2, _⟩, f2, _⟩, r2, c3⟩
    refine ⟨h1, ⟨⟨by omega, p2⟩, ⟨by omega, l2⟩, r1, ?_⟩, ⟨c1, c2, c3⟩, ⟨by omega, s2⟩, by omega, f2⟩
    rw [rows_three _ _ r1, e1]
    exact r2
theorem inAll_false {l : List Int} {lo hi : Int} {k : Nat} (hk : k < l.length) (h : inB (l.getD k 0) lo hi = false) : inAll l lo hi = false := by
  unfold inAll
  rw [List.all_eq_false]
  refine ⟨l.getD k 0, ?_, by rw [h]; simp⟩
  rw [List.getD_eq_getElem?_getD, List.getElem?_eq_getElem hk]
  exact List.getElem_mem hk
theorem all_getD_true {α : Type} {l : List α} {f : α → Bool} (z : α) (h : ∀ k, k < l.length → f (l.getD k z) = true) : l.all f = true := by
  rw [List.all_eq_true]
  intro x hx
  obtain ⟨i, hi, e⟩ := List.getElem_of_mem hx
  have := h i hi
  rw [List.getD_eq_getElem?_getD, List.getElem?_eq_getElem hi] at this
  simp only [Option.getD_some] at this
  rw [e] at this
  exact this
theorem all_getD_false {α : Type} {l : List α} {f : α → Bool} (z : α) {k : Nat} (hk : k < l.length) (h : f (l.getD k z) = false) : l.all f = false := by
  rw [List.all_eq_false]
  refine ⟨l.getD k z, ?_, by rw [h]; simp⟩
  rw [List.getD_eq_getElem?_getD, List.getElem?_eq_getElem hk]
  exact List.getElem_mem hk
def grD (d : Dd) : Int := d.2.2.2
def gK (ds : List Dd) : Nat → Int
  | 0 => 0
  | k + 1 => if grD (ds.getD k zD) = 0 then gK ds k else gAdd (gK ds k) (grD (ds.getD k zD))
def gC (ds : List Dd) : Int := gK ds ds.length
def partK (ds : List Dd) (k : Nat) : Bool := decide (0 < k) && (grD (ds.getD k zD) != grD (ds.getD (k - 1) zD)) && inSetB (gK ds k) (grD (ds.getD k zD))
def togK (ds : List Dd) : Nat → Bool
  | 0 => true
  | k + 1 => togK ds k && !partK ds k
def takW (dss : List (List Dd)) : Nat → Int
  | 0 => 0
  | i + 1 => bits .or .i64 (takW dss i) (gC (dss.getD i []))
def rightB (ds : List Dd) (t : Int) : Bool := decide (ds.length ≤ 5) && ds.all okD && togK ds ds.length && (bits .and .i64 (gC ds) t == 0)
def rightsW (dss : List (List Dd)) : Nat → Bool
  | 0 => true
  | i + 1 => rightsW dss i && rightB (dss.getD i []) (takW dss i)
theorem take_getD {α : Type} (l : List α) (i k : Nat) (z : α) (h : k < i) : (l.take i).getD k z = l.getD k z := by
  rw [List.getD_eq_getElem?_getD, List.getElem?_take, if_pos h, List.getD_eq_getElem?_getD]
theorem gK_take (ds : List Dd) (i : Nat) : ∀ k : Nat, k ≤ i → gK (ds.take i) k = gK ds k
  | 0, _ => rfl
  | k + 1, h => by rw [gK, gK, gK_take ds i k (by omega), take_getD ds i k zD (by omega)]
theorem gC_take (ds : List Dd) (i : Nat) (h : i ≤ ds.length) : gC (ds.take i) = gK ds i := by
  rw [gC, List.length_take, Nat.min_eq_left h, gK_take ds i i (Nat.le_refl _)]
theorem togK_false {ds : List Dd} {k : Nat} (h : togK ds k = false) : ∀ n : Nat, k ≤ n → togK ds n = false
  | 0, hn => by
    obtain rfl : k = 0 := by omega
    exact h
  | n + 1, hn => by
    by_cases e : k = n + 1
    · rw [← e]; exact h
    · rw [togK, togK_false h n (by omega)]; rfl
theorem rightsW_false {dss : List (List Dd)} {k : Nat} (h : rightsW dss k = false) : ∀ n : Nat, k ≤ n → rightsW dss n = false
  | 0, hn => by
    obtain rfl : k = 0 := by omega
    exact h
  | n + 1, hn => by
    by_cases e : k = n + 1
    · rw [← e]; exact h
    · rw [rightsW, rightsW_false h n (by omega)]; rfl
def Dis (a b : Nat) : Prop := ∀ k, a.testBit k = true → b.testBit k = false
theorem dis_iff (a b : Nat) : Dis a b ↔ a &&& b = 0 := by
  constructor
  · intro h
    apply Nat.eq_of_testBit_eq
    intro k
    rw [Nat.testBit_and, Nat.zero_testBit]
    cases ha : a.testBit k
    · rfl
    · rw [h k ha]; rfl
  · intro h k ha
    have h1 : (a &&& b).testBit k = false := by rw [h, Nat.zero_testBit]
    rw [Nat.testBit_and, ha] at h1
    simpa using h1
theorem or_bit (a g k : Nat) : (a ||| 2 ^ g).testBit k = (a.testBit k || decide (g = k)) := by
  rw [Nat.testBit_or, Nat.testBit_two_pow]
theorem set_getD (o : List Int) (g : Nat) (x : Int) (j : Nat) (hg : g < o.length) : (o.set g x).getD j 0 = if g = j then x else o.getD j 0 := by
  rw [List.getD_eq_getElem?_getD, List.getElem?_set]
  by_cases e : g = j
  · subst e; rw [if_pos rfl, if_pos hg, if_pos rfl]; rfl
  · rw [if_neg e, if_neg e, List.getD_eq_getElem?_getD]
theorem okD_grp {d : Dd} (h : okD d = true) : 0 ≤ grD d ∧ grD d ≤ 9 := by
  simp [okD, deedB] at h
  unfold grD
  omega
theorem clerk_same {i : Nat} {own : List Int} {T : Nat} {ds : List Dd} (hl : own.length = 10) (hT : ∀ g, g < 10 → (own.getD g 0 ≠ 0 ↔ T.testBit g = true)) (hi : ∀ g, g < 10 → own.getD g 0 ≠ (i : Int) + 1) (hT0 : T.testBit 0 = false) :
    ∀ k : Nat, (∀ j, j < k → okD (ds.getD j zD) = true) → ∃ G : Nat, G < 4096 ∧ gK ds k = (G : Int) ∧ G.testBit 0 = false ∧ (k = 0 → G = 0) ∧
      (grpK i own ds k = none → togK ds k = false ∨ ¬ Dis G T) ∧
      ∀ o, grpK i own ds k = some o → togK ds k = true ∧ Dis G T ∧ o.length = 10 ∧ ∀ g, g < 10 → o.getD g 0 = if G.testBit g = true then (i : Int) + 1 else own.getD g 0
  | 0, _ => ⟨0, by omega, rfl, by simp, fun _ => rfl, by simp [grpK], by
      intro o ho
      simp only [grpK, Option.some.injEq] at ho
      subst ho
      exact ⟨rfl, fun k hk => by simp at hk, hl, by simp⟩⟩
  | k + 1, hok => by
    obtain ⟨G, hG, hgK, hG0, hz, hN, hS⟩ := clerk_same hl hT hi hT0 k (fun j hj => hok j (by omega))
    obtain ⟨h0, h9⟩ := okD_grp (hok k (by omega))
    obtain ⟨g, hg⟩ := Int.eq_ofNat_of_zero_le h0
    have hgg : (ds.getD k zD).2.2.2 = (g : Int) := hg
    by_cases hg0 : g = 0
    · subst hg0
      have hz0 : (ds.getD k zD).2.2.2 = 0 := hgg
      have e1 : gK ds (k + 1) = (G : Int) := by rw [gK, hg, if_pos (by simp), hgK]
      have e2 : partK ds k = false := by
        have : inSetB (gK ds k) (grD (ds.getD k zD)) = false := by rw [hgK, hg, inSetB_nat G 0 hG (by omega), hG0]
        rw [partK, this, Bool.and_false]
      have e3 : togK ds (k + 1) = togK ds k := by rw [togK, e2]; simp
      have e4 : grpK i own ds (k + 1) = grpK i own ds k := by
        rw [grpK]
        cases hq : grpK i own ds k with
        | none => rfl
        | some o => simp only; rw [if_pos hz0]
      refine ⟨G, hG, e1, hG0, by omega, ?_, ?_⟩
      · rw [e3, e4]; exact hN
      · rw [e3, e4]; exact hS
    · have hgne : (ds.getD k zD).2.2.2 ≠ 0 := by rw [hgg]; omega
      have g9 : g ≤ 9 := by rw [hg] at h9; omega
      have e1 : gK ds (k + 1) = ((G ||| 2 ^ g : Nat) : Int) := by
        rw [gK, hg, if_neg (by omega), hgK, gAdd_nat G g hG (by omega)]
      have e0 : (G ||| 2 ^ g).testBit 0 = false := by rw [or_bit, hG0]; simp [hg0]
      have inS : inSetB (gK ds k) (grD (ds.getD k zD)) = G.testBit g := by rw [hgK, hg, inSetB_nat G g hG (by omega)]
      refine ⟨G ||| 2 ^ g, or_lt G g hG (by omega), e1, e0, by omega, ?_, ?_⟩
      · intro hn
        rw [grpK] at hn
        cases hq : grpK i own ds k with
        | none =>
          rcases hN hq with h | h
          · left; rw [togK, h]; rfl
          · right
            intro hd
            refine h (fun b hb => hd b ?_)
            rw [or_bit, hb]; rfl
        | some o =>
          rw [hq] at hn
          simp only at hn
          rw [if_neg hgne, hgg, Int.toNat_natCast] at hn
          obtain ⟨ht, hd, hlen, ho⟩ := hS o hq
          split at hn
          · rename_i hc
            cases hTg : T.testBit g with
            | true =>
              right
              intro hd2
              have := hd2 g (by rw [or_bit]; simp)
              rw [hTg] at this
              cases this
            | false =>
              left
              have hown : own.getD g 0 = 0 := by
                apply Classical.byContradiction
                intro hne
                rw [(hT g (by omega)).1 hne] at hTg
                cases hTg
              cases hGg : G.testBit g with
              | false =>
                exfalso
                have := ho g (by omega)
                rw [hGg, hown] at this
                exact hc.1 (by simpa using this)
              | true =>
                have hk0 : k ≠ 0 := by
                  intro hk
                  rw [hz hk] at hGg
                  simp at hGg
                have hog := ho g (by omega)
                rw [hGg, if_pos rfl] at hog
                have hp : (ds.getD (k - 1) zD).2.2.2 ≠ (g : Int) := by
                  rcases hc.2 with h | h | h
                  · exact absurd hog h
                  · exact absurd h hk0
                  · exact h
                have : partK ds k = true := by
                  rw [partK, inS, hGg, hg]
                  have hp' : ((g : Int) != grD (ds.getD (k - 1) zD)) = true := by
                    rw [bne_iff_ne]; exact fun e => hp e.symm
                  rw [hp']
                  simp; omega
                rw [togK, this]; simp
          · cases hn
      · intro o' hn
        rw [grpK] at hn
        cases hq : grpK i own ds k with
        | none => rw [hq] at hn; cases hn
        | some o =>
          rw [hq] at hn
          simp only at hn
          rw [if_neg hgne, hgg, Int.toNat_natCast] at hn
          obtain ⟨ht, hd, hlen, ho⟩ := hS o hq
          split at hn
          · cases hn
          · rename_i hc
            simp only [Option.some.injEq] at hn
            subst hn
            have hog := ho g (by omega)
            have hTg : T.testBit g = false := by
              cases hTg : T.testBit g with
              | false => rfl
              | true =>
                exfalso
                have hGg : G.testBit g = false := by
                  cases hGg : G.testBit g with
                  | false => rfl
                  | true => rw [hd g hGg] at hTg; cases hTg
                rw [hGg] at hog
                simp only [Bool.false_eq_true, if_false] at hog
                exact hc ⟨by rw [hog]; exact (hT g (by omega)).2 hTg, .inl (by rw [hog]; exact hi g (by omega))⟩
            refine ⟨?_, ?_, by rw [List.length_set]; exact hlen, ?_⟩
            · have : partK ds k = false := by
                cases hp : partK ds k with
                | false => rfl
                | true =>
                  exfalso
                  rw [partK, inS, hg, Bool.and_eq_true, Bool.and_eq_true, decide_eq_true_eq, bne_iff_ne] at hp
                  obtain ⟨⟨hk, hne⟩, hGg⟩ := hp
                  rw [hGg, if_pos rfl] at hog
                  exact hc ⟨by rw [hog]; omega, .inr (.inr (fun e => hne e.symm))⟩
              rw [togK, ht, this]; rfl
            · intro b hb
              rw [or_bit, Bool.or_eq_true, decide_eq_true_eq] at hb
              rcases hb with hb | rfl
              · exact hd b hb
              · exact hTg
            · intro j hj
              rw [set_getD o g _ j (by omega), or_bit]
              by_cases e : g = j
              · subst e; simp
              · rw [if_neg e, ho j hj]; simp [e]
theorem work_same {dss : List (List Dd)} : ∀ n : Nat, (∀ i, i < n → okL (dss.getD i []) = true) → ∃ T : Nat, T < 4096 ∧ takW dss n = (T : Int) ∧ T.testBit 0 = false ∧
      (grpW dss n = none → rightsW dss n = false) ∧
      ∀ o, grpW dss n = some o → rightsW dss n = true ∧ o.length = 10 ∧ (∀ g, g < 10 → (o.getD g 0 ≠ 0 ↔ T.testBit g = true)) ∧ ∀ g, g < 10 → 0 ≤ o.getD g 0 ∧ o.getD g 0 ≤ (n : Int)
  | 0, _ => ⟨0, by omega, rfl, by simp, by simp [grpW], by
      intro o ho
      simp only [grpW, Option.some.injEq] at ho
      subst ho
      refine ⟨rfl, by simp, fun g hg => ?_, fun g hg => ?_⟩
      · rw [List.getD_eq_getElem?_getD, List.getElem?_replicate, if_pos hg]; simp
      · rw [List.getD_eq_getElem?_getD, List.getElem?_replicate, if_pos hg]; simp⟩
  | n + 1, hok => by
    obtain ⟨T, hT, htk, hT0, hN, hS⟩ := work_same n (fun i hi => hok i (by omega))
    have okn := hok n (by omega)
    simp only [okL, Bool.and_eq_true, decide_eq_true_eq] at okn
    have hall := okn.1
    have hok2 : ∀ j, j < (dss.getD n []).length → okD ((dss.getD n []).getD j zD) = true := fun j hj => all_get zD hall j hj
    obtain ⟨G0, hG0, hgK0, hG00, -⟩ := clerk_same (i := 0) (own := List.replicate 10 0) (T := 0) (ds := dss.getD n []) (by simp) (fun g hg => by rw [List.getD_eq_getElem?_getD, List.getElem?_replicate, if_pos hg]; simp) (fun g hg => by rw [List.getD_eq_getElem?_getD, List.getElem?_replicate, if_pos hg]; simp) (by simp) (dss.getD n []).length hok2
    have hor : takW dss (n + 1) = ((T ||| G0 : Nat) : Int) := by
      rw [takW, htk, gC, hgK0, i64_or_nat T G0 (by omega) (by omega)]
    have hand : bits .and .i64 (gC (dss.getD n [])) (takW dss n) = ((G0 &&& T : Nat) : Int) := by
      rw [gC, hgK0, htk, i64_and_nat G0 T (by omega) (by omega)]
    have hR : rightB (dss.getD n []) (takW dss n) = (togK (dss.getD n []) (dss.getD n []).length && decide (G0 &&& T = 0)) := by
      rw [rightB, hall, decide_eq_true okn.2, hand]
      simp only [Bool.true_and]
      congr 1
      rw [Bool.eq_iff_iff, beq_iff_eq, decide_eq_true_eq]
      omega
    refine ⟨T ||| G0, Nat.or_lt_two_pow (n := 12) hT hG0, hor, by rw [Nat.testBit_or, hT0, hG00]; rfl, ?_, ?_⟩
    · intro hn
      rw [grpW] at hn
      cases hq : grpW dss n with
      | none => rw [rightsW, hN hq]; rfl
      | some o =>
        rw [hq] at hn
        simp only at hn
        obtain ⟨hr, hl, hb, hle⟩ := hS o hq
        obtain ⟨G, hG, hgK, -, -, hN2, -⟩ := clerk_same (i := n) (own := o) (T := T) (ds := dss.getD n []) hl hb (fun g hg => by have := hle g hg; omega) hT0 (dss.getD n []).length hok2
        obtain rfl : G = G0 := by rw [hgK0] at hgK; omega
        rw [rightsW, hr, hR]
        rcases hN2 hn with h | h
        · rw [h]; rfl
        · rw [decide_eq_false (fun e => h ((dis_iff _ _).2 e))]; simp
    · intro o' hn
      rw [grpW] at hn
      cases hq : grpW dss n with
      | none => rw [hq] at hn; cases hn
      | some o =>
        rw [hq] at hn
        simp only at hn
        obtain ⟨hr, hl, hb, hle⟩ := hS o hq
        obtain ⟨G, hG, hgK, -, -, -, hS2⟩ := clerk_same (i := n) (own := o) (T := T) (ds := dss.getD n []) hl hb (fun g hg => by have := hle g hg; omega) hT0 (dss.getD n []).length hok2
        obtain rfl : G = G0 := by rw [hgK0] at hgK; omega
        obtain ⟨h1, h2, h3, h4⟩ := hS2 o' hn
        refine ⟨by rw [rightsW, hr, hR, h1, decide_eq_true ((dis_iff _ _).1 h2)]; rfl, h3, fun g hg => ?_, fun g hg => ?_⟩
        · rw [h4 g hg, Nat.testBit_or, Bool.or_eq_true]
          cases hGg : G.testBit g
          · simp only [Bool.false_eq_true, if_false, or_false]; exact hb g hg
          · simp only [if_true, or_true, iff_true]; omega
        · rw [h4 g hg]
          have := hle g hg
          split <;> omega
theorem rights_same {dss : List (List Dd)} (h : dss.all okL = true) : rightsW dss dss.length = grpB dss := by
  obtain ⟨T, -, -, -, hN, hS⟩ := work_same (dss := dss) dss.length (fun i hi => all_get [] h i hi)
  rw [grpB]
  cases hq : grpW dss dss.length with
  | none => rw [hN hq]; rfl
  | some o => rw [(hS o hq).1]; rfl
theorem rights_okL {dss : List (List Dd)} (h : rightsW dss dss.length = true) : dss.all okL = true := by
  refine all_of [] (fun i hi => ?_)
  cases hb : rightsW dss (i + 1) with
  | false => rw [rightsW_false hb _ hi] at h; cases h
  | true =>
    rw [rightsW, Bool.and_eq_true] at hb
    have := hb.2
    simp only [rightB, Bool.and_eq_true] at this
    rw [okL, this.1.1.2, Bool.true_and]
    exact this.1.1.1
theorem work_rights (dss : List (List Dd)) : workB dss = (decide (1 ≤ dss.length ∧ dss.length ≤ 3) && rightsW dss dss.length && decide (lenW dss ≤ 12) && decide (evW dss dss.length ≤ 6)) := by
  rw [workB]
  cases h : dss.all okL with
  | true =>
    rw [rights_same h]
    cases grpB dss <;> simp
  | false =>
    cases hr : rightsW dss dss.length with
    | false => simp
    | true => rw [rights_okL hr] at h; cases h
section
section
variable {P : Program} {md : Region.Mode} {ops : Array Oper} {Q : Exit → Act → World → Prop} {S : World → Prop}
theorem takeH (i d : Nat) {oi : Oper} {v : Value} {fuel : Nat} {listed : Array Bool} {a : Act} {w : World} (hi : ops[i]? = some oi) (hd : oi.dst = some d)
    (hs : Region.noSelect ops = true) (hf : Region.free md ops listed i = true) (hr : (Region.ready md ops listed).contains i = true)
    (hQ : ∀ c a w, Q (.panic c) (a.put (some d) v) w → Q (.panic c) a w) (hw : Region.wanted oi (yielded ops a.tmps) = true) (hy : ∀ w, S w → (execOp a.eval oi).run P w = .ok (.value v) w) (hS : S w)
    (h : wpAnyH P md ops Q S fuel (listed.setIfInBounds i true) (a.put (some d) v) w) : wpAnyH P md ops Q S (fuel + 1) listed a w := by
  rw [← hd] at hQ h
  exact wpAnyH_take hi hs hf hr hQ (Or.inl ⟨hw, hy⟩) hS h
theorem takeQ (i d : Nat) {oi : Oper} {v : Value} {fuel : Nat} {listed : Array Bool} {a : Act} {w : World}
    (hy : ∀ w, S w → (execOp a.eval oi).run P w = .ok (.value v) w) (h : wpAnyH P md ops Q S fuel (listed.setIfInBounds i true) (a.put (some d) v) w)
    (hi : ops[i]? = some oi := by rfl) (hd : oi.dst = some d := by rfl)
    (hs : Region.noSelect ops = true := by kernel_rfl) (hf : Region.free md ops listed i = true := by kernel_rfl) (hr : (Region.ready md ops listed).contains i = true := by kernel_rfl)
    (hQ : ∀ c a w, Q (.panic c) (a.put (some d) v) w → Q (.panic c) a w := by exact fun _ _ _ h => h) (hw : Region.wanted oi (yielded ops a.tmps) = true := by rfl) (hS : S w := by assumption) : wpAnyH P md ops Q S (fuel + 1) listed a w :=
  takeH i d hi hd hs hf hr hQ hw hy hS h
theorem skipH (i d : Nat) {oi : Oper} {fuel : Nat} {listed : Array Bool} {a : Act} {w : World} (hi : ops[i]? = some oi) (hd : oi.dst = some d)
    (hs : Region.noSelect ops = true) (hf : Region.free md ops listed i = true) (hr : (Region.ready md ops listed).contains i = true)
    (hQ : ∀ c a w, Q (.panic c) (a.put (some d) undef) w → Q (.panic c) a w) (hw : Region.wanted oi (yielded ops a.tmps) = false) (hS : S w)
    (h : wpAnyH P md ops Q S fuel (listed.setIfInBounds i true) (a.put (some d) undef) w) : wpAnyH P md ops Q S (fuel + 1) listed a w := by
  rw [← hd] at hQ h
  exact wpAnyH_take hi hs hf hr hQ (Or.inr ⟨hw, rfl⟩) hS h
end
end
def cE (e : Ev) : List Value := [.int .i64 e.1, .int .i64 e.2.1, .bool e.2.2.1, .int .i64 e.2.2.2.1, .int .i64 e.2.2.2.2.1, .int .i64 e.2.2.2.2.2]
theorem cE_len (e : Ev) : (cE e).length = 6 := rfl
theorem Tryz.infoE : (Tryz.prog.info? 66).map (fun i => (i.zero, i.size, i.bytes)) = some (some (.agg #[.int .i64 0, .int .i64 0, .bool false, .int .i64 0, .int .i64 0, .int .i64 0]), 6, 48) := by kernel_rfl
abbrev RdE (w : World) (v : Value) (es : List Ev) : Prop := RdT cE 6 w v es
abbrev AppE (w : World) (base : Nat) (v : Value) (es : List Ev) : Prop := AppT cE 66 6 w base v es
theorem atE {w : World} {b o : Nat} {x0 x1 : Int} {r : Bool} {x3 x4 x5 : Int} (h : AtT cE w b o (x0, x1, r, x3, x4, x5)) :
    w.cell? ⟨b, o, none⟩ = some (.int .i64 x0) ∧ w.cell? ⟨b, o + 1, none⟩ = some (.int .i64 x1) ∧ w.cell? ⟨b, o + 2, none⟩ = some (.bool r) ∧ w.cell? ⟨b, o + 3, none⟩ = some (.int .i64 x3) ∧ w.cell? ⟨b, o + 4, none⟩ = some (.int .i64 x4) ∧ w.cell? ⟨b, o + 5, none⟩ = some (.int .i64 x5) :=
  ⟨h 0 _ rfl, h 1 _ rfl, h 2 _ rfl, h 3 _ rfl, h 4 _ rfl, h 5 _ rfl⟩
theorem AppE.rd {w : World} {base : Nat} {v : Value} {es : List Ev} (h : AppE w base v es) : RdE w v es := AppT.rd cE_len h
theorem evs_get {es : List Ev} {i : Nat} (h : i < es.length) : es[i]? = some (es.getD i zE) := by
  rw [List.getD_eq_getElem?_getD, List.getElem?_eq_getElem h]; rfl
structure LP (w0 wr : World) (x : Value) (es : List Ev) (P : List (Nat × Obj)) : Prop where
  app : AppE wr w0.heap.size x es
  keep : Keep w0 wr
  held : ∀ n o, (n, o) ∈ P → x.ownBlock ≠ some n ∧ wr.heap[n]? = some o
theorem LP.more {w0 wr wr' : World} {x : Value} {es : List Ev} {P : List (Nat × Obj)} (h : LP w0 wr x es P) (k : Keep wr wr') : LP w0 wr' x es P :=
  ⟨h.app.keep k, h.keep.trans k, fun n o hn => ⟨(h.held n o hn).1, (Below.block k n (Array.getElem?_eq_some_iff.1 (h.held n o hn).2).1).trans (h.held n o hn).2⟩⟩
theorem LP.add {w0 wr : World} {x : Value} {es : List Ev} {P : List (Nat × Obj)} (h : LP w0 wr x es P) (n : Nat) (o : Obj) (hx : x.ownBlock ≠ some n) (ho : wr.heap[n]? = some o) : LP w0 wr x es ((n, o) :: P) :=
  ⟨h.app, h.keep, fun m q hm => by
    rcases List.mem_cons.1 hm with e | e
    · injection e with e1 e2; subst e1 e2; exact ⟨hx, ho⟩
    · exact h.held m q e⟩
theorem LP.new {w0 wr : World} {x : Value} {es : List Ev} {P : List (Nat × Obj)} (h : LP w0 wr x es P) (o : Obj) : LP w0 (wr.alloc o) x es ((wr.heap.size, o) :: P) :=
  (h.more ((Keep.refl wr).alloc o)).add _ _ (fun e => by have := (h.app.lt _ e).2; omega) (heap_alloc_new wr o)
theorem LP.later {w0 wr wr' : World} {x : Value} {es : List Ev} {P : List (Nat × Obj)} (h : LP w0 wr x es P) (k : Keep wr wr') {B : Nat} {o : Obj} (hB : wr.heap.size ≤ B) (ho : wr'.heap[B]? = some o) : LP w0 wr' x es ((B, o) :: P) :=
  (h.more k).add _ _ (fun e => by have := (h.app.lt _ e).2; omega) ho
theorem LP.less {w0 wr : World} {x : Value} {es : List Ev} {P Q : List (Nat × Obj)} (h : LP w0 wr x es P) (hs : ∀ y, y ∈ Q → y ∈ P) : LP w0 wr x es Q :=
  ⟨h.app, h.keep, fun n o hn => h.held n o (hs _ hn)⟩
theorem LP.hit {w0 wr w' : World} {x v' : Value} {es : List Ev} {P : List (Nat × Obj)} (h : LP w0 wr x es P) (e : Ev)
    (ho : w'.ownsRow w0.heap.size 66 6 v' (es.length + 1) (es.flatMap cE ++ cE e)) (hg : wr.grownBy w' x.ownBlock) (hb : v'.ownBlock = x.ownBlock ∨ v'.ownBlock = some wr.heap.size) : LP w0 w' v' (es ++ [e]) P := by
  refine ⟨appT_hit ho, h.keep.grown hg h.app.ge, fun n o hn => ?_⟩
  obtain ⟨h1, h2⟩ := h.held n o hn
  have hlt := (Array.getElem?_eq_some_iff.1 h2).1
  refine ⟨fun e => ?_, (hg.block n hlt (fun e => h1 e.symm)).trans h2⟩
  rcases hb with hb | hb
  · exact h1 (hb ▸ e)
  · rw [hb] at e; have := Option.some.inj e; omega
theorem LP.lt {w0 wr : World} {x : Value} {es : List Ev} {P : List (Nat × Obj)} (h : LP w0 wr x es P) {n : Nat} {o : Obj} (hn : (n, o) ∈ P) : n < wr.heap.size := (Array.getElem?_eq_some_iff.1 (h.held n o hn).2).1
theorem LP.cell {w0 wr : World} {x : Value} {es : List Ev} {P : List (Nat × Obj)} (h : LP w0 wr x es P) {n : Nat} {cs : Array Value} {t : TypeId} (hn : (n, .cells cs t) ∈ P) (i : Nat) : wr.cell? ⟨n, i, none⟩ = cs[i]? :=
  cell_of_row wr n i cs t (0, 0) (h.held n _ hn).2
theorem app_base {w : World} {base base' : Nat} {v : Value} {es : List Ev} (h : AppE w base v es) (hb : base' ≤ base) : AppE w base' v es := by
  refine ⟨h.1, ?_⟩
  rcases h.2 with h | ⟨g, cap, cur, hv, hg, rest⟩
  · exact .inl h
  · exact .inr ⟨g, cap, cur, hv, Nat.le_trans hb hg, rest⟩
abbrev eO (i k : Int) (r : Bool) (p v c : Int) : Obj := .cells #[.int .i64 i, .int .i64 k, .bool r, .int .i64 p, .int .i64 v, .int .i64 c] 66
theorem cE_oneP (e : Ev) : ∀ u ∈ cE e, u.oneCell' = true := by
  intro u hu
  simp only [cE, List.mem_cons, List.not_mem_nil, or_false] at hu
  rcases hu with rfl | rfl | rfl | rfl | rfl | rfl <;> rfl
theorem cE_newP (w : World) (n : Nat) (hn : w.heap.size = n) (i q : Int) (r : Bool) (pl vl c : Int) : ∀ j u, (cE (i, q, r, pl, vl, c))[j]? = some u → (w.alloc (eO i q r pl vl c)).cell? ((⟨n, 0, none⟩ : Addr).add j) = some u := by
  subst hn
  intro j u hj
  match j, hj with
  | 0, hj => simp [cE] at hj; subst hj; simp [Addr.add]
  | 1, hj => simp [cE] at hj; subst hj; simp [Addr.add]
  | 2, hj => simp [cE] at hj; subst hj; simp [Addr.add]
  | 3, hj => simp [cE] at hj; subst hj; simp [Addr.add]
  | 4, hj => simp [cE] at hj; subst hj; simp [Addr.add]
  | 5, hj => simp [cE] at hj; subst hj; simp [Addr.add]
def tstE (f : Ev → Bool) (es : List Ev) (k : Nat) : Bool := decide (k < es.length) && f (es.getD k zE)
def chK (f : Ev → Bool) (es : List Ev) : Nat → List Int
  | 0 => []
  | k + 1 => if tstE f es k = true then chK f es k ++ [(k : Int)] else chK f es k
theorem chK_min (f : Ev → Bool) (es : List Ev) : ∀ k, chK f es k = idxK f es (min k es.length)
  | 0 => by simp [chK, idxK]
  | k + 1 => by
    rw [chK, chK_min f es k]
    by_cases h : k < es.length
    · rw [show min (k + 1) es.length = k + 1 by omega, show min k es.length = k by omega, idxK]
      simp [tstE, h]
    · rw [show min (k + 1) es.length = min k es.length by omega]
      simp [tstE, h]
theorem chK_all (f : Ev → Bool) (es : List Ev) (k : Nat) (h : es.length ≤ k) : chK f es k = idxK f es es.length := by
  rw [chK_min, Nat.min_eq_right h]
theorem chK_len (f : Ev → Bool) (es : List Ev) (k : Nat) : (chK f es k).length ≤ k := by
  rw [chK_min]
  have := idxK_len f es (min k es.length)
  omega
theorem idxB_len (f : Ev → Bool) (es : List Ev) : (idxB f es).length ≤ 12 := by
  unfold idxB
  split
  · have := idxK_len f es es.length; omega
  · simp
def shownB (dss : List (List Dd)) (b : Bd) : List Int := if boardB dss b = true then b.sn ++ b.plc else []
section
section
variable {P : Program} {ops : Array Oper} {Q : Exit → Act → World → Prop} {md : Region.Mode}
def leftN (listed : Array Bool) : Nat := listed.toList.countP (fun b => !b)
theorem count_set : ∀ (l : List Bool) (i : Nat), l[i]? = some false → (l.set i true).countP (fun b => !b) + 1 = l.countP (fun b => !b)
  | [], i, h => by simp at h
  | x :: r, 0, h => by
    simp at h
    subst h
    simp
  | x :: r, i + 1, h => by
    have ih := count_set r i (by simpa using h)
    rw [List.set_cons_succ, List.countP_cons, List.countP_cons]
    omega
theorem leftN_set {listed : Array Bool} {i : Nat} (h : listed[i]? = some false) : leftN (listed.setIfInBounds i true) + 1 = leftN listed := by
  unfold leftN
  rw [Array.toList_setIfInBounds]
  exact count_set _ _ (by rw [Array.getElem?_toList]; exact h)
theorem ready_use {listed : Array Bool} {i : Nat} (h : i ∈ Region.ready md ops listed) : i < ops.size ∧ listed[i]? = some false ∧ ∀ o, ops[i]? = some o → o.after.all (fun e => !Region.binds md e || listed.getD e.on false) = true := by
  unfold Region.ready at h
  rw [List.mem_filter, List.mem_range] at h
  obtain ⟨h1, h2⟩ := h
  simp only [Bool.and_eq_true, Bool.not_eq_true'] at h2
  refine ⟨h1, ?_, fun o ho => ?_⟩
  · have h3 := h2.1
    rw [Array.getD_eq_getD_getElem?] at h3
    cases e : listed[i]? with
    | none => rw [e] at h3; cases h3
    | some b => rw [e] at h3; simp at h3; rw [h3]
  · have h3 := h2.2
    rw [ho] at h3
    simpa using h3
theorem wpAny_inv (J : Array Bool → Act → World → Prop)
    (step : ∀ listed a w, J listed a w → ∀ i, i ∈ Region.ready md ops listed → wpOp P ops Q i (fun a' w' => J (listed.setIfInBounds i true) a' w') a w)
    (done : ∀ listed a w, J listed a w → Region.ready md ops listed = [] → Q .normal a w) :
    ∀ (fuel : Nat) (listed : Array Bool) (a : Act) (w : World), leftN listed ≤ fuel → J listed a w → wpAny P md ops Q fuel listed a w
  | 0, listed, a, w, hl, hJ => by
    have hr : Region.ready md ops listed = [] := by
      cases h : Region.ready md ops listed with
      | nil => rfl
      | cons i r =>
        exfalso
        have h2 := (ready_use (md := md) (ops := ops) (listed := listed) (i := i) (by rw [h]; simp)).2.1
        have := leftN_set h2
        omega
    exact ⟨hr, done listed a w hJ hr⟩
  | fuel + 1, listed, a, w, hl, hJ => by
    refine ⟨fun hr => done listed a w hJ hr, fun i hi => ?_⟩
    refine wpOp_mono (fun a' w' hJ' => wpAny_inv J step done fuel _ a' w' ?_ hJ') (step listed a w hJ i hi)
    have := leftN_set (ready_use hi).2.1
    omega
theorem leftN_none (n : Nat) : leftN (Array.replicate n false) = n := by
  unfold leftN
  rw [Array.toList_replicate]
  simp [List.countP_replicate]
theorem wp_region_inv {id : Nat} {a : Act} {w : World} (hm : P.follows .mixedOrders = true) (J : Array Bool → Act → World → Prop)
    (start : J (Array.replicate ops.size false) a w.drew)
    (step : ∀ listed a w, J listed a w → ∀ i, i ∈ Region.ready .any ops listed → wpOp P ops Q i (fun a' w' => J (listed.setIfInBounds i true) a' w') a w)
    (done : ∀ listed a w, J listed a w → Region.ready .any ops listed = [] → Q .normal a w) : (Code.region id ops true).wp P Q a w :=
  wp_region_any hm (wpAny_inv J step done ops.size _ a _ (by rw [leftN_none]; exact Nat.le_refl _) start)
end
end
theorem nodup_get {l : List Int} (hn : l.Nodup) {p q : Nat} (hp : p < l.length) (hq : q < l.length) (e : l.getD p 0 = l.getD q 0) : p = q := by
  rw [List.getD_eq_getElem?_getD, List.getElem?_eq_getElem hp, List.getD_eq_getElem?_getD, List.getElem?_eq_getElem hq] at e
  exact (List.getElem_inj hn).1 e
def plcW (es : List Ev) (p : Nat) : List Int := idxB (toE (p : Int)) es
def okP (rows : List Int) (at0 : Nat) (p : List Int) (i : Nat) : Bool := decide (at0 + p.length ≤ rows.length) && (rows.getD at0 0 == (i : Int)) && p.all (fun x => isB ((rows.drop at0).take p.length) x)
def rowsL (es : List Ev) (rows : List Int) : Bool :=
  okP rows 0 (plcW es 0) 0 && okP rows (plcW es 0).length (plcW es 1) 1 && okP rows ((plcW es 0).length + (plcW es 1).length) (plcW es 2) 2 && decide ((plcW es 0).length + (plcW es 1).length + (plcW es 2).length = rows.length)
def rowsB (dss : List (List Dd)) (rows : List Int) : Bool := workB dss && rowsL (eventsB dss) rows
theorem place_in {dss : List (List Dd)} (h : workB dss = true) (j : Nat) (hj : j < (evsW dss dss.length).length) : 0 ≤ ((evsW dss dss.length).getD j zE).2.2.2.1 ∧ ((evsW dss dss.length).getD j zE).2.2.2.1 ≤ 2 := by
  simp only [workB, Bool.and_eq_true, decide_eq_true_eq] at h
  obtain ⟨⟨⟨⟨_, h2⟩, _⟩, _⟩, _⟩ := h
  have hok : ∀ i, i < dss.length → okL (dss.getD i []) = true := fun i hi => all_get [] h2 i hi
  obtain ⟨⟨t, ht⟩, hg⟩ := evs_good hok dss.length (Nat.le_refl _)
  by_cases hj3 : 3 ≤ j
  · exact good_place hok (hg j hj3 hj)
  · obtain ⟨b0, b1, b2⟩ := beg_get ht
    have : j = 0 ∨ j = 1 ∨ j = 2 := by omega
    rcases this with rfl | rfl | rfl
    · rw [b0]; decide
    · rw [b1]; decide
    · rw [b2]; decide
def fwK (n : Nat) (rs f : List Int) : Nat → List Int
  | 0 => List.replicate n 0
  | k + 1 => (fwK n rs f k).set (f.getD k 0).toNat (gAdd ((fwK n rs f k).getD (f.getD k 0).toNat 0) (rs.getD k 0))
def fwL (es : List Ev) (f : List Int) : List Int := fwK es.length (idxB rdE es) f (idxB rdE es).length
theorem fw_line {n : Nat} {rs f : List Int} (hn : n ≤ 12) : ∀ k : Nat, (∀ i, i < k → 0 ≤ rs.getD i 0 ∧ rs.getD i 0 < (n : Int)) → (∀ i, i < k → 0 ≤ f.getD i 0 ∧ f.getD i 0 < (n : Int)) →
    Web n (fwK n rs f k) ∧ ∀ a j : Nat, a < n → (line (fwK n rs f k) a j = true ↔ ∃ i, i < k ∧ f.getD i 0 = (a : Int) ∧ rs.getD i 0 = (j : Int))
  | 0, _, _ => ⟨Web.zero hn, fun a j _ => by rw [fwK, line_zero]; simp⟩
  | k + 1, hr, hf => by
    obtain ⟨h1, h2⟩ := fw_line hn k (fun i hi => hr i (by omega)) (fun i hi => hf i (by omega))
    obtain ⟨a0, ha0⟩ := Int.eq_ofNat_of_zero_le (hf k (by omega)).1
    obtain ⟨j0, hj0⟩ := Int.eq_ofNat_of_zero_le (hr k (by omega)).1
    have ha : a0 < n := by have := (hf k (by omega)).2; omega
    have hj : j0 < n := by have := (hr k (by omega)).2; omega
    rw [fwK, ha0, hj0, Int.toNat_natCast]
    have hg := ok_add (h1.2.2 a0 ha) hj
    refine ⟨h1.set hg.1, fun a j haa => ?_⟩
    unfold line
    rw [getD_set _ _ _ _ (by rw [h1.2.1]; exact ha)]
    by_cases e : a0 = a
    · subst e
      rw [if_pos rfl, hg.2 j, Bool.or_eq_true, decide_eq_true_eq]
      have := h2 a0 j haa
      unfold line at this
      rw [this]
      constructor
      · rintro (⟨i, hi, h⟩ | rfl)
        · exact ⟨i, by omega, h⟩
        · exact ⟨k, by omega, ha0, hj0⟩
      · rintro ⟨i, hi, h3, h4⟩
        by_cases e2 : i = k
        · subst e2; right; rw [hj0] at h4; omega
        · exact .inl ⟨i, by omega, h3, h4⟩
    · rw [if_neg e]
      have := h2 a j haa
      unfold line at this
      rw [this]
      constructor
      · rintro ⟨i, hi, h⟩
        exact ⟨i, by omega, h⟩
      · rintro ⟨i, hi, h3, h4⟩
        by_cases e2 : i = k
        · subst e2; rw [ha0] at h3; omega
        · exact ⟨i, by omega, h3, h4⟩
theorem isB_mem {l : List Int} {n : Int} (h : isB l n = true) : n ∈ l := by
  unfold isB at h
  rw [List.any_eq_true] at h
  obtain ⟨x, hx, e⟩ := h
  rw [beq_iff_eq] at e
  rw [← e]; exact hx
theorem idxK_mem (f : Ev → Bool) (l : List Ev) : ∀ (k : Nat) (x : Int), x ∈ idxK f l k → f (l.getD x.toNat zE) = true
  | 0, x, h => by simp [idxK] at h
  | k + 1, x, h => by
    rw [idxK] at h
    split at h
    · rename_i hf
      rcases List.mem_append.1 h with h | h
      · exact idxK_mem f l k x h
      · simp only [List.mem_cons, List.not_mem_nil, or_false] at h
        rw [h, Int.toNat_natCast]; exact hf
    · exact idxK_mem f l k x h
theorem src_use {es : List Ev} {f : List Int} (hx : es.length ≤ 12) (h : srcB (chcL es) f = true) : (idxB rdE es).length = f.length ∧
    ∀ i, i < (idxB rdE es).length → (0 ≤ f.getD i 0 ∧ f.getD i 0 < (es.length : Int)) ∧ (es.getD (f.getD i 0).toNat zE).2.2.2.1 = plE es ((idxB rdE es).getD i 0) := by
  unfold srcB at h
  rw [Bool.and_eq_true, decide_eq_true_eq] at h
  obtain ⟨h1, h2⟩ := h
  have hc : (chcL es).length = (idxB rdE es).length := chcK_len _ _ _
  refine ⟨by omega, fun i hi => ?_⟩
  have h3 := (srcK_iff (chcL es).length).1 h2 i (by omega)
  unfold chcL at h3
  rw [chcK_get _ _ _ _ hi] at h3
  have h4 := isB_mem h3
  unfold idxB at h4
  rw [if_pos hx] at h4
  have h5 := idxK_lt _ _ _ _ h4
  have h6 := idxK_mem _ _ _ _ h4
  refine ⟨h5, ?_⟩
  unfold toE at h6
  simp only [Bool.and_eq_true, beq_iff_eq] at h6
  rw [h6.2]
  unfold idxB
  rw [if_pos hx]
theorem perm_of : ∀ {p b : List Int}, p.Nodup → (∀ x ∈ p, x ∈ b) → b.length ≤ p.length → p.Perm b
  | [], b, _, _, hl => by
    have : b = [] := List.eq_nil_of_length_eq_zero (by simpa using hl)
    subst this
    exact List.Perm.refl _
  | x :: t, b, hn, hs, hl => by
    have hx := hs x (by simp)
    rw [List.nodup_cons] at hn
    have hb : (b.erase x).length = b.length - 1 := List.length_erase_of_mem hx
    have ih := perm_of (p := t) (b := b.erase x) hn.2 (fun y hy => by
      have h1 := hs y (by simp [hy])
      exact (List.mem_erase_of_ne (fun e => hn.1 (by rw [← e]; exact hy))).2 h1) (by rw [hb]; simp only [List.length_cons] at hl; omega)
    exact (List.Perm.cons x ih).trans (List.perm_cons_erase hx).symm
theorem mem_isB {l : List Int} {n : Int} (h : n ∈ l) : isB l n = true := by
  unfold isB
  rw [List.any_eq_true]
  exact ⟨n, h, by simp⟩
theorem okP_perm {rows p : List Int} {at0 i : Nat} (hn : p.Nodup) (h : okP rows at0 p i = true) : at0 + p.length ≤ rows.length ∧ p.Perm ((rows.drop at0).take p.length) := by
  unfold okP at h
  simp only [Bool.and_eq_true, decide_eq_true_eq, List.all_eq_true] at h
  refine ⟨h.1.1, perm_of hn (fun x hx => isB_mem (h.2 x hx)) ?_⟩
  rw [List.length_take]
  omega
theorem plcW_nodup {es : List Ev} (hx : es.length ≤ 12) (p : Nat) : (plcW es p).Nodup := by
  unfold plcW idxB
  rw [if_pos hx]
  exact (idxK_rises _ _ _).imp (fun h e => by omega)
theorem plcW_mem {es : List Ev} (hx : es.length ≤ 12) {p : Nat} {x : Int} (h : x ∈ plcW es p) : (0 ≤ x ∧ x < (es.length : Int)) ∧ (es.getD x.toNat zE).2.2.2.1 = (p : Int) := by
  unfold plcW idxB at h
  rw [if_pos hx] at h
  have h1 := idxK_lt _ _ _ _ h
  have h2 := idxK_mem _ _ _ _ h
  unfold toE at h2
  simp only [Bool.and_eq_true, beq_iff_eq] at h2
  exact ⟨h1, h2.2⟩
theorem plcW_len {es : List Ev} (hx : es.length ≤ 12) (p : Nat) : (plcW es p).length ≤ 12 := by
  unfold plcW idxB
  rw [if_pos hx]
  have := idxK_len (toE (p : Int)) es es.length
  omega
def allW (es : List Ev) : List Int := plcW es 0 ++ plcW es 1 ++ plcW es 2
theorem allW_nodup {es : List Ev} (hx : es.length ≤ 12) : (allW es).Nodup := by
  have dis : ∀ {p q : Nat}, p ≠ q → ∀ a ∈ plcW es p, ∀ b ∈ plcW es q, a ≠ b := fun {p q} hpq a ha b hb e => by
    have h1 := (plcW_mem hx ha).2
    have h2 := (plcW_mem hx hb).2
    rw [e, h2] at h1
    omega
  unfold allW
  rw [List.nodup_append, List.nodup_append]
  refine ⟨⟨plcW_nodup hx 0, plcW_nodup hx 1, dis (by decide)⟩, plcW_nodup hx 2, fun a ha b hb => ?_⟩
  rcases List.mem_append.1 ha with h | h
  · exact dis (p := 0) (q := 2) (by decide) a h b hb
  · exact dis (p := 1) (q := 2) (by decide) a h b hb
theorem rows_perm {es : List Ev} {rows : List Int} (hx : es.length ≤ 12) (h : rowsL es rows = true) : (allW es).Perm rows := by
  unfold rowsL at h
  simp only [Bool.and_eq_true, decide_eq_true_eq] at h
  obtain ⟨⟨⟨h0, h1⟩, h2⟩, hl⟩ := h
  obtain ⟨l0, p0⟩ := okP_perm (plcW_nodup hx 0) h0
  obtain ⟨l1, p1⟩ := okP_perm (plcW_nodup hx 1) h1
  obtain ⟨l2, p2⟩ := okP_perm (plcW_nodup hx 2) h2
  have e : rows = rows.take (plcW es 0).length ++ (rows.drop (plcW es 0).length).take (plcW es 1).length ++ (rows.drop ((plcW es 0).length + (plcW es 1).length)).take (plcW es 2).length := by
    have t2 : (rows.drop ((plcW es 0).length + (plcW es 1).length)).take (plcW es 2).length = rows.drop ((plcW es 0).length + (plcW es 1).length) := List.take_of_length_le (by rw [List.length_drop]; omega)
    rw [t2, List.append_assoc, ← List.drop_drop, List.take_append_drop, List.take_append_drop]
  rw [List.drop_zero] at p0
  unfold allW
  rw [e]
  exact (p0.append p1).append p2
theorem rows_use {es : List Ev} {rows : List Int} (hx : es.length ≤ 12) (h : rowsL es rows = true) : rows.Nodup ∧ rows.length ≤ 36 ∧ ∀ i, i < rows.length → 0 ≤ rows.getD i 0 ∧ rows.getD i 0 < (es.length : Int) := by
  have hp := rows_perm hx h
  refine ⟨hp.nodup_iff.1 (allW_nodup hx), ?_, fun i hi => ?_⟩
  · rw [← hp.length_eq]
    unfold allW
    rw [List.length_append, List.length_append]
    have := plcW_len hx 0
    have := plcW_len hx 1
    have := plcW_len hx 2
    omega
  · have hm : rows.getD i 0 ∈ rows := by
      rw [List.getD_eq_getElem?_getD, List.getElem?_eq_getElem hi]
      exact List.getElem_mem hi
    have hm := hp.mem_iff.2 hm
    unfold allW at hm
    rcases List.mem_append.1 hm with hm | hm
    · rcases List.mem_append.1 hm with hm | hm
      · exact (plcW_mem hx hm).1
      · exact (plcW_mem hx hm).1
    · exact (plcW_mem hx hm).1
theorem okP_mk {A P C p : List Int} {i : Nat} (hl : P.length = p.length) (hp : P.Perm p) (h0 : 0 < p.length) (hi : P.getD 0 0 = (i : Int)) : okP (A ++ P ++ C) A.length p i = true := by
  unfold okP
  simp only [Bool.and_eq_true, decide_eq_true_eq, beq_iff_eq, List.all_eq_true]
  refine ⟨⟨by rw [List.length_append, List.length_append]; omega, ?_⟩, fun x hx => ?_⟩
  · rw [List.append_assoc, List.getD_eq_getElem?_getD, List.getElem?_append_right (Nat.le_refl _), Nat.sub_self, List.getElem?_append_left (by omega), ← List.getD_eq_getElem?_getD]
    exact hi
  · refine mem_isB ?_
    rw [List.append_assoc, List.drop_left, ← hl, List.take_left]
    exact hp.mem_iff.2 hx
theorem plcW_first {dss : List (List Dd)} (hb : workB dss = true) (p : Nat) (hp : p < 3) : 0 < (plcW (eventsB dss) p).length ∧ (plcW (eventsB dss) p).getD 0 0 = (p : Int) := by
  obtain ⟨h12, _, _, hf, _⟩ := events_law hb
  obtain ⟨r, hr⟩ := hf p hp
  unfold plcW idxB
  rw [eventsB, if_pos hb, if_pos h12, hr]
  exact ⟨by simp, rfl⟩
theorem eventsB_12 (dss : List (List Dd)) : (eventsB dss).length ≤ 12 := by
  unfold eventsB
  split
  · rename_i hb
    exact (events_law hb).1
  · simp
theorem workB_useR {dss : List (List Dd)} (h : workB dss = true) : dss.length ≤ 3 ∧ ∀ i, i < dss.length → okL (dss.getD i []) = true := by
  simp only [workB, Bool.and_eq_true, decide_eq_true_eq] at h
  obtain ⟨⟨⟨⟨h1, h2⟩, _⟩, _⟩, _⟩ := h
  exact ⟨h1.2, fun i hi => all_get [] h2 i hi⟩
theorem evsW_9 {dss : List (List Dd)} (h : workB dss = true) : (evsW dss dss.length).length ≤ 9 := by
  simp only [workB, Bool.and_eq_true, decide_eq_true_eq] at h
  obtain ⟨⟨⟨⟨_, h2⟩, _⟩, h4⟩, _⟩ := h
  have := evsW_len (fun i hi => all_get [] h2 i hi) dss.length (Nat.le_refl _)
  omega
def rwP (es : List Ev) (rows : List Int) (i k : Nat) : Bool := decide (i < k) && (plE es (rows.getD i 0) == plE es (rows.getD k 0))
def rwIn (es : List Ev) (rows : List Int) (i : Nat) (st : List Int) : Nat → List Int
  | 0 => st
  | k + 1 => if rwP es rows i k = true then (rwIn es rows i st k).set (rows.getD i 0).toNat (gAdd ((rwIn es rows i st k).getD (rows.getD i 0).toNat 0) (rows.getD k 0)) else rwIn es rows i st k
def rwAll (es : List Ev) (rows : List Int) : Nat → List Int
  | 0 => List.replicate es.length 0
  | i + 1 => rwIn es rows i (rwAll es rows i) rows.length
def rwL (es : List Ev) (rows : List Int) : List Int := rwAll es rows rows.length
theorem rwIn_hit {es : List Ev} {rows : List Int} {i k : Nat} (st : List Int) (h : rwP es rows i k = true) : rwIn es rows i st (k + 1) = (rwIn es rows i st k).set (rows.getD i 0).toNat (gAdd ((rwIn es rows i st k).getD (rows.getD i 0).toNat 0) (rows.getD k 0)) := if_pos h
theorem rwIn_miss {es : List Ev} {rows : List Int} {i k : Nat} (st : List Int) (h : rwP es rows i k = false) : rwIn es rows i st (k + 1) = rwIn es rows i st k := if_neg (by simp [h])
theorem web_rwIn {es : List Ev} {rows : List Int} {n i : Nat} {st : List Int} (hr : ∀ j, j < rows.length → 0 ≤ rows.getD j 0 ∧ rows.getD j 0 < (n : Int)) (hi : i < rows.length) (hst : Web n st) : ∀ m : Nat, m ≤ rows.length →
    Web n (rwIn es rows i st m) ∧ ∀ a b : Nat, a < n → (line (rwIn es rows i st m) a b = true ↔ line st a b = true ∨ ∃ q, q < m ∧ rwP es rows i q = true ∧ rows.getD i 0 = (a : Int) ∧ rows.getD q 0 = (b : Int))
  | 0, _ => ⟨hst, fun a b _ => by simp [rwIn]⟩
  | m + 1, hm => by
    obtain ⟨h1, h2⟩ := web_rwIn (es := es) hr hi hst m (by omega)
    cases hp : rwP es rows i m with
    | false =>
      rw [rwIn_miss st hp]
      refine ⟨h1, fun a b ha => ?_⟩
      rw [h2 a b ha]
      constructor
      · rintro (h | ⟨q, hq, r⟩)
        · exact .inl h
        · exact .inr ⟨q, by omega, r⟩
      · rintro (h | ⟨q, hq, r⟩)
        · exact .inl h
        · by_cases e : q = m
          · subst e; rw [hp] at r; cases r.1
          · exact .inr ⟨q, by omega, r⟩
    | true =>
      obtain ⟨a0, ha0⟩ := Int.eq_ofNat_of_zero_le (hr i hi).1
      obtain ⟨b0, hb0⟩ := Int.eq_ofNat_of_zero_le (hr m (by omega)).1
      have ha : a0 < n := by have := (hr i hi).2; omega
      have hb : b0 < n := by have := (hr m (by omega)).2; omega
      have e0 : rwIn es rows i st (m + 1) = (rwIn es rows i st m).set a0 (gAdd ((rwIn es rows i st m).getD a0 0) (b0 : Int)) := by rw [rwIn_hit st hp, ha0, hb0, Int.toNat_natCast]
      rw [e0]
      have hadd := ok_add (h1.2.2 a0 ha) hb
      refine ⟨h1.set hadd.1, fun a b haa => ?_⟩
      have e1 := h2 a b haa
      unfold line at e1 ⊢
      rw [getD_set _ _ _ _ (by rw [h1.2.1]; exact ha)]
      by_cases e : a0 = a
      · subst e
        simp only [if_true]
        rw [hadd.2 b, Bool.or_eq_true, e1, decide_eq_true_eq]
        constructor
        · rintro ((h | ⟨q, hq, r1, r2, r3⟩) | h)
          · exact .inl h
          · exact .inr ⟨q, by omega, r1, r2, r3⟩
          · exact .inr ⟨m, by omega, hp, ha0, by rw [hb0, h]⟩
        · rintro (h | ⟨q, hq, r1, r2, r3⟩)
          · exact .inl (.inl h)
          · by_cases eq : q = m
            · subst eq
              right
              rw [hb0] at r3
              omega
            · exact .inl (.inr ⟨q, by omega, r1, r2, r3⟩)
      · simp only [e, if_false]
        rw [e1]
        constructor
        · rintro (h | ⟨q, hq, r1, r2, r3⟩)
          · exact .inl h
          · exact .inr ⟨q, by omega, r1, r2, r3⟩
        · rintro (h | ⟨q, hq, r1, r2, r3⟩)
          · exact .inl h
          · exfalso; rw [ha0] at r2; omega
theorem web_rwAll {es : List Ev} {rows : List Int} (hx : es.length ≤ 12) (hr : ∀ j, j < rows.length → 0 ≤ rows.getD j 0 ∧ rows.getD j 0 < (es.length : Int)) : ∀ m : Nat, m ≤ rows.length →
    Web es.length (rwAll es rows m) ∧ ∀ a b : Nat, a < es.length → (line (rwAll es rows m) a b = true ↔ ∃ i q, i < m ∧ q < rows.length ∧ rwP es rows i q = true ∧ rows.getD i 0 = (a : Int) ∧ rows.getD q 0 = (b : Int))
  | 0, _ => ⟨Web.zero hx, fun a b _ => by unfold rwAll; rw [line_zero]; simp⟩
  | m + 1, hm => by
    obtain ⟨h1, h2⟩ := web_rwAll hx hr m (by omega)
    obtain ⟨g1, g2⟩ := web_rwIn (es := es) hr (show m < rows.length by omega) h1 rows.length (Nat.le_refl _)
    refine ⟨g1, fun a b ha => ?_⟩
    show line (rwIn es rows m (rwAll es rows m) rows.length) a b = true ↔ _
    rw [g2 a b ha, h2 a b ha]
    constructor
    · rintro (⟨i, q, hi, r⟩ | ⟨q, hq, r⟩)
      · exact ⟨i, q, by omega, r⟩
      · exact ⟨m, q, by omega, hq, r⟩
    · rintro ⟨i, q, hi, hq, r⟩
      by_cases e : i = m
      · subst e; exact .inr ⟨q, hq, r⟩
      · exact .inl ⟨i, q, by omega, hq, r⟩
theorem getD_zip (f : Int → Int → Int) {n : Nat} {a b : List Int} (ha : a.length = n) (hb : b.length = n) {i : Nat} (hi : i < n) : (List.zipWith f a b).getD i 0 = f (a.getD i 0) (b.getD i 0) := by
  rw [List.getD_eq_getElem?_getD, List.getElem?_zipWith, List.getD_eq_getElem?_getD, List.getD_eq_getElem?_getD, List.getElem?_eq_getElem (show i < a.length by omega), List.getElem?_eq_getElem (show i < b.length by omega)]
  rfl
theorem web_mix (f : Int → Int → Int) (hf : ∀ {n : Nat} {s t : Int}, okB n s = true → okB n t = true → okB n (f s t) = true) {n : Nat} {a b : List Int} (ha : Web n a) (hb : Web n b) : Web n (List.zipWith f a b) := by
  refine ⟨ha.1, by rw [List.length_zipWith, ha.2.1, hb.2.1]; omega, fun i hi => ?_⟩
  rw [getD_zip f ha.2.1 hb.2.1 hi]
  exact hf (ha.2.2 i hi) (hb.2.2 i hi)
theorem mixL_web (f : Int → Int → Int) {n : Nat} {a b : List Int} (ha : Web n a) (hb : Web n b) : mixL f a b = List.zipWith f a b := by
  unfold mixL
  rw [if_pos (twoB_iff.2 ⟨by rw [ha.2.1, hb.2.1], ha.b, hb.b⟩)]
theorem web_join {n : Nat} {a b : List Int} (ha : Web n a) (hb : Web n b) : Web n (mixL orI a b) ∧ ∀ i j, i < n → line (mixL orI a b) i j = (line a i j || line b i j) := by
  rw [mixL_web _ ha hb]
  refine ⟨web_mix orI (fun h k => (ok_or h k).1) ha hb, fun i j hi => ?_⟩
  unfold line
  rw [getD_zip orI ha.2.1 hb.2.1 hi]
  exact (ok_or (ha.2.2 i hi) (hb.2.2 i hi)).2 j
def inL (a b : List Int) : Bool := decide (a.length = b.length) && (List.range a.length).all fun i => notI (a.getD i 0) (b.getD i 0) == 0
inductive Way (zs : List Int) : Nat → Nat → Prop
  | one {i j : Nat} (h : line zs i j = true) : Way zs i j
  | more {i k j : Nat} (h : Way zs i k) (g : line zs k j = true) : Way zs i j
theorem Way.trans {zs : List Int} {i k j : Nat} (h : Way zs i k) (g : Way zs k j) : Way zs i j := by
  induction g with
  | one g => exact .more h g
  | more _ g ih => exact .more ih g
theorem Way.lt {n : Nat} {zs : List Int} (hz : Web n zs) {i j : Nat} (hi : i < n) (h : Way zs i j) : j < n := by
  induction h with
  | one g => exact hz.lt hi g
  | more _ g ih => exact hz.lt ih g
theorem wayAll_sound {n : Nat} {zs : List Int} (hz : Web n zs) (m : Nat) (hm : m ≤ n) {i : Nat} (hi : i < n) {j : Nat} (h : line (wayAll zs m) i j = true) : Way zs i j := by
  induction m generalizing i j with
  | zero => exact .one h
  | succ m ih =>
    rw [line_wayAll hz m (by omega) hi, Bool.or_eq_true, Bool.and_eq_true] at h
    rcases h with h | ⟨h1, h2⟩
    · exact ih (by omega) hi h
    · exact (ih (by omega) hi h1).trans (ih (by omega) (by omega) h2)
theorem wayAll_mono {n : Nat} {zs : List Int} (hz : Web n zs) (m : Nat) (hm : m < n) {i : Nat} (hi : i < n) {j : Nat} (h : line (wayAll zs m) i j = true) : line (wayAll zs (m + 1)) i j = true := by
  rw [line_wayAll hz m hm hi, h]; rfl
theorem wayAll_meet {n : Nat} {zs : List Int} (hz : Web n zs) (m : Nat) (hm : m ≤ n) {i k j : Nat} (hi : i < n) (hk : k < m) (h1 : line (wayAll zs m) i k = true) (h2 : line (wayAll zs m) k j = true) : line (wayAll zs m) i j = true := by
  induction m generalizing i k j with
  | zero => omega
  | succ m ih =>
    have hmn : m < n := by omega
    have ihm := @ih (by omega)
    rw [line_wayAll hz m hmn hi, Bool.or_eq_true, Bool.and_eq_true] at h1
    rw [line_wayAll hz m hmn (show k < n by omega), Bool.or_eq_true, Bool.and_eq_true] at h2
    rw [line_wayAll hz m hmn hi, Bool.or_eq_true, Bool.and_eq_true]
    by_cases e : k = m
    · subst e
      have h1' : line (wayAll zs k) i k = true := by
        rcases h1 with h | h
        · exact h
        · exact h.1
      have h2' : line (wayAll zs k) k j = true := by
        rcases h2 with h | h
        · exact h
        · exact h.2
      exact .inr ⟨h1', h2'⟩
    · have hkm : k < m := by omega
      rcases h1 with h1 | ⟨h1, h1'⟩ <;> rcases h2 with h2 | ⟨h2, h2'⟩
      · exact .inl (ihm hi hkm h1 h2)
      · exact .inr ⟨ihm hi hkm h1 h2, h2'⟩
      · exact .inr ⟨h1, ihm hmn hkm h1' h2⟩
      · exact .inr ⟨h1, h2'⟩
theorem ways_eq {n : Nat} {zs : List Int} (hz : Web n zs) : waysL zs = wayAll zs n := by
  unfold waysL
  rw [if_pos hz.b, hz.2.1]
theorem wayAll_old {n : Nat} {zs : List Int} (hz : Web n zs) (m : Nat) (hm : m ≤ n) {i : Nat} (hi : i < n) {j : Nat} (h : line zs i j = true) : line (wayAll zs m) i j = true := by
  induction m with
  | zero => exact h
  | succ m ih => exact wayAll_mono hz m (by omega) hi (ih (by omega))
theorem ways_line {n : Nat} {zs : List Int} (hz : Web n zs) {i : Nat} (hi : i < n) {j : Nat} : line (waysL zs) i j = true ↔ Way zs i j := by
  rw [ways_eq hz]
  constructor
  · exact wayAll_sound hz n (Nat.le_refl _) hi
  · intro h
    induction h with
    | one g => exact wayAll_old hz n (Nat.le_refl _) hi g
    | more h g ih =>
      have hk := h.lt hz hi
      exact wayAll_meet hz n (Nat.le_refl _) hi hk ih (wayAll_old hz n (Nat.le_refl _) hk g)
def roundB (zs : List Int) : Bool := webB zs && (List.range zs.length).any fun i => line (waysL zs) i i
theorem round_iff {n : Nat} {zs : List Int} (hz : Web n zs) : roundB zs = true ↔ ∃ i, i < n ∧ Way zs i i := by
  unfold roundB
  rw [hz.b, Bool.true_and, List.any_eq_true, hz.2.1]
  constructor
  · rintro ⟨i, hi, h⟩; exact ⟨i, List.mem_range.1 hi, (ways_line hz (List.mem_range.1 hi)).1 h⟩
  · rintro ⟨i, hi, h⟩; exact ⟨i, List.mem_range.2 hi, (ways_line hz hi).2 h⟩
theorem nodup_sub_len {a b : List Int} (h : a.Nodup) (hs : ∀ x ∈ a, x ∈ b) : a.length ≤ b.length := by
  induction a generalizing b with
  | nil => simp
  | cons x a ih =>
    rw [List.nodup_cons] at h
    have hx := hs x (by simp)
    have := ih (b := b.erase x) h.2 (fun y hy => (List.mem_erase_of_ne (fun e => h.1 (by rw [← e]; exact hy))).2 (hs y (by simp [hy])))
    rw [List.length_erase_of_mem hx] at this
    have := List.length_pos_of_mem hx
    simp; omega
def leads (zs : List Int) (n i : Nat) : Nat := (List.range n).countP fun j => line (waysL zs) j i
theorem idxB_range {f : Ev → Bool} {es : List Ev} (hx : es.length ≤ 12) {i : Nat} (hi : i < (idxB f es).length) : 0 ≤ (idxB f es).getD i 0 ∧ (idxB f es).getD i 0 < (es.length : Int) := by
  have hm : (idxB f es).getD i 0 ∈ idxB f es := by
    rw [List.getD_eq_getElem?_getD, List.getElem?_eq_getElem hi]
    exact List.getElem_mem hi
  unfold idxB at hm ⊢
  rw [if_pos hx] at hm ⊢
  exact idxK_lt f es _ _ hm
theorem rises_nodup : ∀ l : List Int, l.Pairwise (· < ·) → l.Nodup := fun l h => h.imp (fun h e => by omega)
def taleB (dss : List (List Dd)) (f rows : List Int) : Bool := sourceB dss f && rowsB dss rows
def agK (n : Nat) (rs f row : List Int) : Nat → List Int
  | 0 => List.replicate n 0
  | k + 1 => (agK n rs f row k).set (rs.getD k 0).toNat (row.getD (f.getD k 0).toNat 0)
def agL (es : List Ev) (f rows : List Int) : List Int := agK es.length (idxB rdE es) f (rwL es rows) (idxB rdE es).length
theorem web_ag {n : Nat} {rs f row : List Int} (hn : n ≤ 12) (hd : rs.Nodup) (hrow : Web n row) : ∀ k : Nat, k ≤ rs.length → (∀ i, i < k → 0 ≤ rs.getD i 0 ∧ rs.getD i 0 < (n : Int)) → (∀ i, i < k → 0 ≤ f.getD i 0 ∧ f.getD i 0 < (n : Int)) →
    Web n (agK n rs f row k) ∧ ∀ a j : Nat, a < n → (line (agK n rs f row k) a j = true ↔ ∃ i, i < k ∧ rs.getD i 0 = (a : Int) ∧ line row (f.getD i 0).toNat j = true)
  | 0, _, _, _ => ⟨Web.zero hn, fun a j _ => by unfold agK; rw [line_zero]; simp⟩
  | k + 1, hk, hr, hf => by
    obtain ⟨h1, h2⟩ := web_ag hn hd hrow k (by omega) (fun i hi => hr i (by omega)) (fun i hi => hf i (by omega))
    obtain ⟨a0, ha0⟩ := Int.eq_ofNat_of_zero_le (hr k (by omega)).1
    obtain ⟨b0, hb0⟩ := Int.eq_ofNat_of_zero_le (hf k (by omega)).1
    have ha : a0 < n := by have := (hr k (by omega)).2; omega
    have hb : b0 < n := by have := (hf k (by omega)).2; omega
    have e0 : agK n rs f row (k + 1) = (agK n rs f row k).set a0 (row.getD b0 0) := by rw [agK, ha0, hb0, Int.toNat_natCast, Int.toNat_natCast]
    rw [e0]
    refine ⟨h1.set (hrow.2.2 b0 hb), fun a j haa => ?_⟩
    have e1 := h2 a j haa
    unfold line at e1 ⊢
    rw [getD_set _ _ _ _ (by rw [h1.2.1]; exact ha)]
    by_cases e : a0 = a
    · subst e
      simp only [if_true]
      constructor
      · intro h
        refine ⟨k, by omega, ha0, ?_⟩
        rw [hb0, Int.toNat_natCast]
        exact h
      · rintro ⟨i, hi, r1, r2⟩
        have : i = k := nodup_get hd (by omega) (by omega) (by rw [r1, ha0])
        subst this
        rw [hb0, Int.toNat_natCast] at r2
        exact r2
    · simp only [e, if_false]
      rw [e1]
      constructor
      · rintro ⟨i, hi, r⟩
        exact ⟨i, by omega, r⟩
      · rintro ⟨i, hi, r1, r2⟩
        by_cases ei : i = k
        · subst ei; rw [ha0] at r1; omega
        · exact ⟨i, by omega, r1, r2⟩
theorem idxK_has (f : Ev → Bool) (l : List Ev) {i : Nat} (hf : f (l.getD i zE) = true) : ∀ k : Nat, i < k → (i : Int) ∈ idxK f l k
  | 0, h => by omega
  | k + 1, h => by
    rw [idxK]
    by_cases e : i = k
    · subst e
      rw [if_pos hf]
      exact List.mem_append.2 (.inr (by simp))
    · have ih := idxK_has f l hf k (by omega)
      split
      · exact List.mem_append.2 (.inl ih)
      · exact ih
theorem tale_use {dss : List (List Dd)} {f rows : List Int} (h : taleB dss f rows = true) : workB dss = true ∧ srcB (chcL (eventsB dss)) f = true ∧ rowsL (eventsB dss) rows = true := by
  unfold taleB sourceB rowsB at h
  simp only [Bool.and_eq_true] at h
  exact ⟨h.1.1, h.1.2, h.2.2⟩
theorem behP_lt {es : List Ev} {i j : Nat} (h : behP es i j = true) : i < j := by
  apply Classical.byContradiction
  intro hn
  rw [behP_up (by omega)] at h
  cases h
theorem up_way {n : Nat} {zs : List Int} (hz : Web n zs) (μ : Nat → Nat) (h : ∀ i j, i < n → j < n → line zs i j = true → μ i < μ j) {i j : Nat} (hi : i < n) (hw : Way zs i j) : μ i < μ j := by
  induction hw with
  | one g => exact h _ _ hi (hz.lt hi g) g
  | more g l ih => exact Nat.lt_trans ih (h _ _ (g.lt hz hi) (hz.lt (g.lt hz hi) l) l)
theorem up_round {n : Nat} {zs : List Int} (hz : Web n zs) (μ : Nat → Nat) (h : ∀ i j, i < n → j < n → line zs i j = true → μ i < μ j) : roundB zs = false := by
  cases hr : roundB zs with
  | false => rfl
  | true =>
    obtain ⟨i, hi, hw⟩ := (round_iff hz).1 hr
    exact absurd (up_way hz μ h hi hw) (Nat.lt_irrefl _)
def pwL (es : List Ev) (f rows : List Int) : List Int := mixL orI (mixL orI (plcL es) (fwL es f)) (mixL orI (rwL es rows) (agL es f rows))
def owP (es : List Ev) (i k : Nat) : Bool := decide (3 ≤ i) && decide (3 ≤ k) && ((es.getD i zE).1 == (es.getD k zE).1)
def owL (es : List Ev) (f : List Int) : List Int := offAll (owP es) es.length (fwL es f) es.length
def swL (dss : List (List Dd)) (es : List Ev) (f rows : List Int) : List Int := mixL orI (mixL orI (kepL dss es) (owL es f)) (mixL orI (rwL es rows) (agL es f rows))
def xwL (es : List Ev) (f rows : List Int) : List Int := mixL orI (mixL orI (behL es) (fwL es f)) (mixL orI (rwL es rows) (agL es f rows))
theorem rd_in {es : List Ev} (hx : es.length ≤ 12) {i : Nat} (hi : i < (idxB rdE es).length) : 0 ≤ (idxB rdE es).getD i 0 ∧ (idxB rdE es).getD i 0 < (es.length : Int) := idxB_range hx hi
theorem rd_nodup {es : List Ev} (hx : es.length ≤ 12) : (idxB rdE es).Nodup := by
  unfold idxB
  rw [if_pos hx]
  exact rises_nodup _ (idxK_rises rdE es _)
structure Webs (es : List Ev) (f rows : List Int) : Prop where
  fw : Web es.length (fwL es f)
  rw' : Web es.length (rwL es rows)
  ag : Web es.length (agL es f rows)
  fwl : ∀ a j : Nat, a < es.length → (line (fwL es f) a j = true ↔ ∃ i, i < (idxB rdE es).length ∧ f.getD i 0 = (a : Int) ∧ (idxB rdE es).getD i 0 = (j : Int))
  rwl : ∀ a b : Nat, a < es.length → (line (rwL es rows) a b = true ↔ ∃ i q, i < rows.length ∧ q < rows.length ∧ rwP es rows i q = true ∧ rows.getD i 0 = (a : Int) ∧ rows.getD q 0 = (b : Int))
  agl : ∀ a j : Nat, a < es.length → (line (agL es f rows) a j = true ↔ ∃ i, i < (idxB rdE es).length ∧ (idxB rdE es).getD i 0 = (a : Int) ∧ line (rwL es rows) (f.getD i 0).toNat j = true)
theorem webs_of {es : List Ev} {f rows : List Int} (hx : es.length ≤ 12) (hs : srcB (chcL es) f = true) (hr : rowsL es rows = true) : Webs es f rows := by
  obtain ⟨sl, su⟩ := src_use hx hs
  obtain ⟨rn, _, ru⟩ := rows_use hx hr
  have w1 := web_rwAll hx ru rows.length (Nat.le_refl _)
  have w2 := fw_line (n := es.length) (rs := idxB rdE es) (f := f) hx (idxB rdE es).length (fun i hi => rd_in hx hi) (fun i hi => (su i hi).1)
  have w3 := web_ag (n := es.length) (rs := idxB rdE es) (f := f) (row := rwL es rows) hx (rd_nodup hx) w1.1 (idxB rdE es).length (Nat.le_refl _) (fun i hi => rd_in hx hi) (fun i hi => (su i hi).1)
  exact ⟨w2.1, w1.1, w3.1, w2.2, w1.2, w3.2⟩
theorem web_four {n : Nat} {a b c d : List Int} (ha : Web n a) (hb : Web n b) (hc : Web n c) (hd : Web n d) : Web n (mixL orI (mixL orI a b) (mixL orI c d)) ∧
    ∀ i j, i < n → line (mixL orI (mixL orI a b) (mixL orI c d)) i j = (line a i j || line b i j || (line c i j || line d i j)) := by
  obtain ⟨h1, l1⟩ := web_join ha hb
  obtain ⟨h2, l2⟩ := web_join hc hd
  obtain ⟨h3, l3⟩ := web_join h1 h2
  exact ⟨h3, fun i j hi => by rw [l3 i j hi, l1 i j hi, l2 i j hi]⟩
theorem ow_line {es : List Ev} {f rows : List Int} (W : Webs es f rows) : Web es.length (owL es f) ∧ ∀ a j : Nat, a < es.length → line (owL es f) a j = (line (fwL es f) a j && !owP es a j) := by
  obtain ⟨h1, h2⟩ := web_offAll (p := owP es) W.fw es.length (Nat.le_refl _)
  refine ⟨h1, fun a j ha => ?_⟩
  unfold owL
  rw [h2 a j ha]
  cases hl : line (fwL es f) a j with
  | false => rfl
  | true =>
    have hj := W.fw.lt ha hl
    simp [ha, hj]
theorem place_ev {dss : List (List Dd)} (hb : workB dss = true) {j : Nat} (hj : j < (eventsB dss).length) : 0 ≤ ((eventsB dss).getD j zE).2.2.2.1 ∧ ((eventsB dss).getD j zE).2.2.2.1 ≤ 2 := by
  have e1 : eventsB dss = evsW dss dss.length := by rw [eventsB, if_pos hb]
  rw [e1] at hj ⊢
  exact place_in hb j hj
theorem beg_ev {dss : List (List Dd)} (hb : workB dss = true) : 3 ≤ (eventsB dss).length ∧ (eventsB dss).getD 0 zE = (-1, -1, false, 0, 0, 0) ∧ (eventsB dss).getD 1 zE = (-1, -1, false, 1, 0, 1) ∧ (eventsB dss).getD 2 zE = (-1, -1, false, 2, 0, 2) := by
  have e1 : eventsB dss = evsW dss dss.length := by rw [eventsB, if_pos hb]
  obtain ⟨t, ht⟩ := evs_pre dss 0 dss.length (Nat.zero_le _)
  have ht' : evsW dss dss.length = evBeg ++ t := ht
  rw [e1]
  refine ⟨by rw [ht']; simp [evBeg], beg_get ht'⟩
theorem beg_place {dss : List (List Dd)} (hb : workB dss = true) {i : Nat} (hi : i < 3) : ((eventsB dss).getD i zE).2.2.2.1 = (i : Int) ∧ ((eventsB dss).getD i zE).2.2.1 = false ∧ csE ((eventsB dss).getD i zE) = (i : Int) ∧ ((eventsB dss).getD i zE).1 = -1 := by
  obtain ⟨_, h0, h1, h2⟩ := beg_ev hb
  rcases (by omega : i = 0 ∨ i = 1 ∨ i = 2) with rfl | rfl | rfl
  · rw [h0]; exact ⟨rfl, rfl, rfl, rfl⟩
  · rw [h1]; exact ⟨rfl, rfl, rfl, rfl⟩
  · rw [h2]; exact ⟨rfl, rfl, rfl, rfl⟩
structure Told (dss : List (List Dd)) (f rows : List Int) : Prop where
  work : workB dss = true
  twelve : (eventsB dss).length ≤ 12
  webs : Webs (eventsB dss) f rows
  src : srcB (chcL (eventsB dss)) f = true
  rws : rowsL (eventsB dss) rows = true
  pw : Web (eventsB dss).length (pwL (eventsB dss) f rows)
  pwl : ∀ i j, i < (eventsB dss).length → line (pwL (eventsB dss) f rows) i j = (line (plcL (eventsB dss)) i j || line (fwL (eventsB dss) f) i j || (line (rwL (eventsB dss) rows) i j || line (agL (eventsB dss) f rows) i j))
  sw : Web (eventsB dss).length (swL dss (eventsB dss) f rows)
  swl : ∀ i j, i < (eventsB dss).length → line (swL dss (eventsB dss) f rows) i j = (line (kepL dss (eventsB dss)) i j || line (owL (eventsB dss) f) i j || (line (rwL (eventsB dss) rows) i j || line (agL (eventsB dss) f rows) i j))
  xw : Web (eventsB dss).length (xwL (eventsB dss) f rows)
  xwl : ∀ i j, i < (eventsB dss).length → line (xwL (eventsB dss) f rows) i j = (line (behL (eventsB dss)) i j || line (fwL (eventsB dss) f) i j || (line (rwL (eventsB dss) rows) i j || line (agL (eventsB dss) f rows) i j))
  cls : (clsB (eventsB dss)).length = (eventsB dss).length
theorem told_of {dss : List (List Dd)} {f rows : List Int} (h : taleB dss f rows = true) : Told dss f rows := by
  obtain ⟨hb, hs, hr⟩ := tale_use h
  have hx := eventsB_12 dss
  have W := webs_of hx hs hr
  have p := web_four (plc_line hx).1 W.fw W.rw' W.ag
  have s := web_four (kep_line (dss := dss) hx).1 (ow_line W).1 W.rw' W.ag
  have x := web_four (beh_line hx).1 W.fw W.rw' W.ag
  exact ⟨hb, hx, W, hs, hr, p.1, p.2, s.1, s.2, x.1, x.2, by unfold clsB; rw [if_pos hx, List.length_map]⟩
structure Sys where
  n : Nat
  ck : Nat → Int
  pl : Nat → Nat
  rd : Nat → Bool
  cs : Nat → Int
  ex : Nat → Nat → Bool
structure AbsSt where
  X : Nat → Prop
  N : Int → List Nat
  R : Nat → List Nat
  F : Nat → Nat
  τ : Nat → Nat
def AbsSt.L (S : Sys) (s : AbsSt) (c : Int) (p : Nat) : List Nat := s.R p ++ (s.N c).filter (fun x => S.pl x == p)
def AbsSt.D (S : Sys) (s : AbsSt) (j : Nat) : Prop := s.X j ∧ j ∉ s.N (S.ck j)
def AbsSt.v (S : Sys) (s : AbsSt) (i : Nat) : Nat := if S.rd i = true then s.F i else i
abbrev Bef (L : List Nat) (x y : Nat) : Prop := [x, y].Sublist L
structure AInv (S : Sys) (s : AbsSt) (T : Nat) (z : Int) : Prop where
  beg : ∀ j, j < 3 → s.X j ∧ S.rd j = false ∧ S.pl j = j ∧ S.ck j = -1 ∧ s.τ j = 0 ∧ S.cs j = j
  lt : ∀ j, s.X j → j < S.n
  down : ∀ i j, s.X j → 3 ≤ i → i < j → S.ck i = S.ck j → s.X i
  note : ∀ c x, x ∈ s.N c → s.X x ∧ 3 ≤ x ∧ S.ck x = c ∧ S.rd x = false
  nord : ∀ c, (s.N c).Pairwise (· < ·)
  pend : ∀ c x j, x ∈ s.N c → s.X j → x < j → S.ck j = c → (S.rd j = true ∧ S.ex x j = true) ∨ j ∈ s.N c
  rows : ∀ p x, x ∈ s.R p ↔ s.D S x ∧ S.rd x = false ∧ S.pl x = p
  rnod : ∀ p, (s.R p).Nodup
  rord : ∀ p, (s.R p).Pairwise (fun x y => s.τ x ≤ s.τ y)
  tle : ∀ j, s.D S j → s.τ j ≤ T
  tpos : ∀ j, s.D S j → 3 ≤ j → 1 ≤ s.τ j
  same : ∀ i j, s.D S i → s.D S j → 3 ≤ i → 3 ≤ j → s.τ i = s.τ j → S.cs i = S.cs j
  mate : ∀ i j, s.D S i → s.D S j → 3 ≤ i → 3 ≤ j → S.cs i = S.cs j → s.τ i = s.τ j
  now : ∀ i, s.D S i → 3 ≤ i → (s.τ i = T ↔ S.cs i = z)
  kept : ∀ i j, s.D S i → s.D S j → 3 ≤ i → i < j → S.ck i = S.ck j → S.cs i ≠ S.cs j → S.ex i j = false → s.τ i < s.τ j
  src : ∀ r, s.X r → S.rd r = true → s.X (s.F r) ∧ S.rd (s.F r) = false ∧ S.pl (s.F r) = S.pl r ∧ ((3 ≤ s.F r ∧ S.ck (s.F r) = S.ck r) ∨ (s.D S (s.F r) ∧ s.τ (s.F r) ≤ s.τ r))
  agst : ∀ r w p, s.X r → S.rd r = true → Bef (s.R p) (s.F r) w → s.τ r ≤ s.τ w
  inL : ∀ i, s.X i → 3 ≤ i → s.v S i ∈ s.L S (S.ck i) (S.pl i)
  coh : ∀ i j, s.X i → s.X j → 3 ≤ i → i < j → S.ck i = S.ck j → S.pl i = S.pl j → s.v S i = s.v S j ∨ Bef (s.L S (S.ck i) (S.pl i)) (s.v S i) (s.v S j)
  cohw : ∀ i j, s.X i → s.X j → 3 ≤ i → i < j → S.ck i = S.ck j → S.pl i = S.pl j → S.rd i = true → S.rd j = false → s.F i ≠ j
structure Nxt (S : Sys) (s : AbsSt) (j : Nat) : Prop where
  three : 3 ≤ j
  lt : j < S.n
  new : ¬ s.X j
  all : ∀ i, 3 ≤ i → i < j → S.ck i = S.ck j → s.X i
  last : ∀ i, s.X i → 3 ≤ i → S.ck i = S.ck j → i < j
theorem bef_mem {L : List Nat} {x y : Nat} (h : Bef L x y) : x ∈ L ∧ y ∈ L := ⟨h.subset (by simp), h.subset (by simp)⟩
theorem bef_snoc {L : List Nat} {x w : Nat} (h : x ∈ L) : Bef (L ++ [w]) x w := by
  have h1 : [x].Sublist L := List.singleton_sublist.2 h
  exact h1.append (List.Sublist.refl [w])
theorem bef_last {L : List Nat} {x y : Nat} (hn : (L ++ [x]).Nodup) (h : Bef (L ++ [x]) x y) : False := by
  have h2 : ¬ x ∈ L := by
    rw [List.nodup_append] at hn
    intro hx
    exact hn.2.2 x hx x (by simp) rfl
  obtain ⟨l1, l2, e, s1, s2⟩ := List.sublist_append_iff.1 h
  cases l1 with
  | nil =>
    simp only [List.nil_append] at e
    rw [← e] at s2
    have := s2.length_le
    simp at this
  | cons a l1 =>
    simp only [List.cons_append, List.cons.injEq] at e
    rw [← e.1] at s1
    exact h2 (s1.subset (by simp))
theorem bef_snoc_old {L : List Nat} {x y w : Nat} (h : Bef (L ++ [w]) x y) (hy : y ≠ w) : Bef L x y := by
  obtain ⟨l1, l2, e, s1, s2⟩ := List.sublist_append_iff.1 h
  have hl2 : l2 = [] := by
    cases l2 with
    | nil => rfl
    | cons a l2 =>
      have hl := s2.length_le
      simp at hl
      subst hl
      have ha : a = w := by simpa using s2
      have : y = a := by
        have := congrArg List.getLast? e
        simpa using this
      exact absurd (this.trans ha) hy
  subst hl2
  rw [List.append_nil] at e
  rw [← e] at s1
  exact s1
theorem bef_of_last {L : List Nat} {x : Nat} (hx : x ∈ L) {l : Nat} (hl : L.getLast? = some l) : x = l ∨ Bef L x l := by
  obtain ⟨L', rfl⟩ := List.getLast?_eq_some_iff.1 hl
  rw [List.mem_append] at hx
  rcases hx with hx | hx
  · exact .inr (bef_snoc hx)
  · exact .inl (by simpa using hx)
end Go.Proofs.YtbmghnibngjicaaGreat
