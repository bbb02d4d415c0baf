/- Gathered texts. -/
import Derived.Test.YtgakfkjjkobpiaaMA
import Derived.Maps.AppendAt
import Derived.Laws.OwnMore
import Derived.OwnWalk
import Derived.Deep.RegionHeld3
set_option maxRecDepth 100000
set_option maxHeartbeats 8000000
namespace Go.Proofs.Ytgakfkjjkobpiaa
open Go
open Go.ChangeShapes Go.WideShapes Go.ChangeAt Go.RowKit
open Go.RowKit
abbrev dAt (dss : List (List Dd)) (c k : Nat) : Dd := (dss.getD c []).getD k zD
def offN (dss : List (List Dd)) (c k : Nat) : Nat := (clkE c (dss.getD c []) (evsW dss c) k).1.length
def numD (d : Dd) : Nat := if d.1 = 4 then 0 else if d.1 = 3 then 2 else 1
theorem oneE_num (i k : Nat) (d : Dd) (c : Int) : (oneE i k d c).length = numD d := by
  unfold oneE numD
  split
  · rfl
  · split
    · rfl
    · split <;> rfl
def clsD (dss : List (List Dd)) (c k : Nat) : Int := clsE (dAt dss c k).2.2.2 (offN dss c k) (clkE c (dss.getD c []) (evsW dss c) k).2
theorem clk_step (dss : List (List Dd)) (c k : Nat) : (clkE c (dss.getD c []) (evsW dss c) (k + 1)).1 = (clkE c (dss.getD c []) (evsW dss c) k).1 ++ oneE c k (dAt dss c k) (clsD dss c k) := by
  rw [clkE, stepE]
  split
  · rename_i h
    have e : oneE c k (dAt dss c k) (clsD dss c k) = [] := by unfold oneE; rw [if_pos h]
    rw [e, List.append_nil]
  · rfl
theorem off_succ (dss : List (List Dd)) (c k : Nat) : offN dss c (k + 1) = offN dss c k + numD (dAt dss c k) := by
  unfold offN
  rw [clk_step, List.length_append, oneE_num]
theorem off_zero (dss : List (List Dd)) (c : Nat) : offN dss c 0 = (evsW dss c).length := rfl
theorem off_end (dss : List (List Dd)) (c : Nat) : (evsW dss (c + 1)).length = offN dss c (dss.getD c []).length := rfl
theorem clk_pre (dss : List (List Dd)) (c k : Nat) : ∀ n : Nat, k ≤ n → ∃ t, (clkE c (dss.getD c []) (evsW dss c) n).1 = (clkE c (dss.getD c []) (evsW dss c) k).1 ++ t
  | 0, h => by
    obtain rfl : k = 0 := by omega
    exact ⟨[], by simp⟩
  | n + 1, h => by
    by_cases e : k = n + 1
    · subst e; exact ⟨[], by simp⟩
    · obtain ⟨t, ht⟩ := clk_pre dss c k n (by omega)
      exact ⟨t ++ oneE c n (dAt dss c n) (clsD dss c n), by rw [clk_step, ht, List.append_assoc]⟩
theorem evs_pre (dss : List (List Dd)) (c : Nat) : ∀ n : Nat, c ≤ n → ∃ t, evsW dss n = evsW dss c ++ t
  | 0, h => by
    obtain rfl : c = 0 := by omega
    exact ⟨[], by simp⟩
  | n + 1, h => by
    by_cases e : c = n + 1
    · subst e; exact ⟨[], by simp⟩
    · obtain ⟨t, ht⟩ := evs_pre dss c n (by omega)
      obtain ⟨t2, h2⟩ := clk_pre dss n 0 (dss.getD n []).length (Nat.zero_le _)
      refine ⟨t ++ t2, ?_⟩
      show (clkE n (dss.getD n []) (evsW dss n) (dss.getD n []).length).1 = _
      rw [h2]
      show evsW dss n ++ t2 = _
      rw [ht, List.append_assoc]
theorem es_at {dss : List (List Dd)} {c k n : Nat} (hc : c < n) (hk : k < (dss.getD c []).length) {i : Nat} {e : Ev} (h : (oneE c k (dAt dss c k) (clsD dss c k))[i]? = some e) : (evsW dss n)[offN dss c k + i]? = some e := by
  obtain ⟨t1, h1⟩ := evs_pre dss (c + 1) n hc
  obtain ⟨t2, h2⟩ := clk_pre dss c (k + 1) (dss.getD c []).length hk
  rw [h1]
  refine at_left t1 ?_
  show (clkE c (dss.getD c []) (evsW dss c) (dss.getD c []).length).1[offN dss c k + i]? = some e
  rw [h2]
  refine at_left t2 ?_
  rw [clk_step, List.getElem?_append_right (by unfold offN; omega)]
  show (oneE c k (dAt dss c k) (clsD dss c k))[offN dss c k + i - offN dss c k]? = some e
  rw [show offN dss c k + i - offN dss c k = i by omega]
  exact h
theorem clk_dec (dss : List (List Dd)) (c : Nat) {j : Nat} (h0 : offN dss c 0 ≤ j) : ∀ k : Nat, j < offN dss c k → ∃ k' i, k' < k ∧ i < numD (dAt dss c k') ∧ j = offN dss c k' + i
  | 0, h => by omega
  | k + 1, h => by
    by_cases hj : j < offN dss c k
    · obtain ⟨k', i, h1, h2, h3⟩ := clk_dec dss c h0 k hj
      exact ⟨k', i, by omega, h2, h3⟩
    · rw [off_succ] at h
      exact ⟨k, j - offN dss c k, by omega, by omega, by omega⟩
theorem es_dec (dss : List (List Dd)) {j : Nat} (h3 : 3 ≤ j) : ∀ n : Nat, j < (evsW dss n).length → ∃ c k i, c < n ∧ k < (dss.getD c []).length ∧ i < numD (dAt dss c k) ∧ j = offN dss c k + i
  | 0, h => by simp [evsW, evBeg] at h; omega
  | n + 1, h => by
    by_cases hj : j < (evsW dss n).length
    · obtain ⟨c, k, i, h1, h2⟩ := es_dec dss h3 n hj
      exact ⟨c, k, i, by omega, h2⟩
    · rw [off_end] at h
      obtain ⟨k, i, h1, h2⟩ := clk_dec dss n (by rw [off_zero]; omega) _ h
      exact ⟨n, k, i, by omega, h1, h2⟩
theorem off_le (dss : List (List Dd)) (c : Nat) {k k' : Nat} (h : k ≤ k') : offN dss c k ≤ offN dss c k' := by
  obtain ⟨t, ht⟩ := clk_pre dss c k k' h
  unfold offN
  rw [ht, List.length_append]
  omega
theorem off_lt {dss : List (List Dd)} {c c' k k' : Nat} (hk : k < (dss.getD c []).length) (h : c < c' ∨ (c = c' ∧ k < k')) : offN dss c k + numD (dAt dss c k) ≤ offN dss c' k' := by
  rcases h with h | ⟨rfl, h⟩
  · have h1 := off_le dss c (k := k + 1) (k' := (dss.getD c []).length) hk
    rw [off_succ] at h1
    obtain ⟨t, ht⟩ := evs_pre dss (c + 1) c' h
    have h2 := off_le dss c' (Nat.zero_le k')
    rw [off_zero, ht, List.length_append, off_end] at h2
    omega
  · have h1 := off_le dss c (k := k + 1) (k' := k') h
    rw [off_succ] at h1
    exact h1
theorem off_three (dss : List (List Dd)) (c k : Nat) : 3 ≤ offN dss c k := by
  obtain ⟨t, ht⟩ := evs_pre dss 0 c (Nat.zero_le _)
  have h := off_le dss c (Nat.zero_le k)
  rw [off_zero, ht, List.length_append] at h
  simp [evsW, evBeg] at h
  omega
abbrev gAt (dss : List (List Dd)) (c k : Nat) : Int := (dAt dss c k).2.2.2
def OkC (dss : List (List Dd)) (c : Nat) : Prop := ∀ k, k < (dss.getD c []).length → okD (dAt dss c k) = true
theorem okC_of {dss : List (List Dd)} (h : workB dss = true) {c : Nat} (hc : c < dss.length) : OkC dss c := by
  simp only [workB, Bool.and_eq_true, decide_eq_true_eq] at h
  obtain ⟨⟨⟨⟨_, h2⟩, _⟩, _⟩, _⟩ := h
  have h3 := all_get [] h2 c hc
  unfold okL at h3
  rw [Bool.and_eq_true] at h3
  exact fun k hk => all_get zD h3.1 k hk
theorem g_in {dss : List (List Dd)} {c k : Nat} (h : OkC dss c) (hk : k < (dss.getD c []).length) : 0 ≤ gAt dss c k ∧ gAt dss c k ≤ 9 ∧ (2 < (dAt dss c k).1 → gAt dss c k = 0) :=
  ⟨(okD_restE (h k hk)).2.2.1, (okD_restE (h k hk)).2.2.2.1, (okD_restE (h k hk)).2.2.2.2⟩
theorem fst_len (dss : List (List Dd)) (c : Nat) : ∀ k : Nat, (clkE c (dss.getD c []) (evsW dss c) k).2.length = 10
  | 0 => by simp [clkE]
  | k + 1 => by
    have ih := fst_len dss c k
    rw [clkE, stepE]
    split
    · exact ih
    · show (fstE _ _ _).length = 10
      unfold fstE
      split
      · rw [List.length_set]; exact ih
      · exact ih
theorem fst_at {dss : List (List Dd)} {c : Nat} (hok : OkC dss c) {g : Nat} (h0 : 0 < g) (h9 : g ≤ 9) : ∀ k : Nat, k ≤ (dss.getD c []).length →
    ((clkE c (dss.getD c []) (evsW dss c) k).2.getD g 0 = 0 ∧ ∀ j, j < k → gAt dss c j ≠ g) ∨
    ∃ j, j < k ∧ gAt dss c j = g ∧ (∀ i, i < j → gAt dss c i ≠ g) ∧ (clkE c (dss.getD c []) (evsW dss c) k).2.getD g 0 = (offN dss c j : Int)
  | 0, _ => .inl ⟨by
      show (List.replicate 10 (0 : Int)).getD g 0 = 0
      rw [List.getD_eq_getElem?_getD, List.getElem?_replicate]
      split <;> rfl, fun j hj => by omega⟩
  | k + 1, hk => by
    have ih := fst_at hok h0 h9 k (by omega)
    have hl := fst_len dss c k
    have hd := g_in hok (k := k) (by omega)
    have hkk := okD_kindE (hok k (by omega))
    by_cases h4 : (dAt dss c k).1 = 4
    · have e : (clkE c (dss.getD c []) (evsW dss c) (k + 1)).2 = (clkE c (dss.getD c []) (evsW dss c) k).2 := by
        rw [clkE, stepE, if_pos h4]
      have hg : gAt dss c k = 0 := hd.2.2 (by omega)
      rw [e]
      rcases ih with ⟨h1, h2⟩ | ⟨j, h1, h2, h3, h5⟩
      · refine .inl ⟨h1, fun j hj => ?_⟩
        by_cases e : j = k
        · subst e; omega
        · exact h2 j (by omega)
      · exact .inr ⟨j, by omega, h2, h3, h5⟩
    · have e : (clkE c (dss.getD c []) (evsW dss c) (k + 1)).2 = fstE (gAt dss c k) (offN dss c k) (clkE c (dss.getD c []) (evsW dss c) k).2 := by
        rw [clkE, stepE, if_neg h4]
        rfl
      rw [e]
      by_cases hg : gAt dss c k = (g : Int)
      · rcases ih with ⟨h1, h2⟩ | ⟨j, h1, h2, h3, h5⟩
        · refine .inr ⟨k, by omega, hg, h2, ?_⟩
          unfold fstE
          rw [hg, Int.toNat_natCast, if_pos ⟨by omega, h1⟩, getD_setE _ _ _ _ (by omega), if_pos rfl]
        · refine .inr ⟨j, by omega, h2, h3, ?_⟩
          have h6 := off_three dss c j
          unfold fstE
          rw [hg, Int.toNat_natCast, if_neg (by rw [h5]; omega)]
          exact h5
      · have e2 : (fstE (gAt dss c k) (offN dss c k) (clkE c (dss.getD c []) (evsW dss c) k).2).getD g 0 = (clkE c (dss.getD c []) (evsW dss c) k).2.getD g 0 := by
          unfold fstE
          split
          · rename_i hp
            have hx : (gAt dss c k).toNat ≤ 9 := by have := hd.2.1; omega
            rw [getD_setE _ _ _ _ (by omega), if_neg (by omega)]
          · rfl
        rw [e2]
        rcases ih with ⟨h1, h2⟩ | ⟨j, h1, h2, h3, h5⟩
        · refine .inl ⟨h1, fun j hj => ?_⟩
          by_cases e : j = k
          · subst e; exact hg
          · exact h2 j (by omega)
        · exact .inr ⟨j, by omega, h2, h3, h5⟩
theorem cls_at {dss : List (List Dd)} {c k : Nat} (hok : OkC dss c) (hk : k < (dss.getD c []).length) (h4 : (dAt dss c k).1 ≠ 4) :
    (gAt dss c k = 0 ∧ clsD dss c k = (offN dss c k : Int)) ∨ (gAt dss c k ≠ 0 ∧ ∃ j, j ≤ k ∧ gAt dss c j = gAt dss c k ∧ (∀ i, i < j → gAt dss c i ≠ gAt dss c k) ∧ clsD dss c k = (offN dss c j : Int)) := by
  have hd := g_in hok hk
  by_cases hg : gAt dss c k = 0
  · refine .inl ⟨hg, ?_⟩
    unfold clsD clsE
    rw [if_neg (by have : (dAt dss c k).2.2.2 = 0 := hg; omega)]
  · obtain ⟨g, hgg⟩ := Int.eq_ofNat_of_zero_le hd.1
    have hgg' : gAt dss c k = (g : Int) := hgg
    have h9 : g ≤ 9 := by have := hd.2.1; omega
    refine .inr ⟨hg, ?_⟩
    have h1 := fst_at hok (g := g) (by omega) h9 (k + 1) hk
    have e : (clkE c (dss.getD c []) (evsW dss c) (k + 1)).2 = fstE (gAt dss c k) (offN dss c k) (clkE c (dss.getD c []) (evsW dss c) k).2 := by
      rw [clkE, stepE, if_neg h4]
      rfl
    rw [e] at h1
    rcases h1 with ⟨_, h2⟩ | ⟨j, h1, h2, h3, h5⟩
    · exact absurd hgg' (h2 k (by omega))
    · refine ⟨j, by omega, by rw [hgg']; exact h2, fun i hi => by rw [hgg']; exact h3 i hi, ?_⟩
      unfold clsD clsE
      rw [if_pos (by have : (dAt dss c k).2.2.2 = (g : Int) := hgg'; omega)]
      have hq : (dAt dss c k).2.2.2.toNat = g := by have : (dAt dss c k).2.2.2 = (g : Int) := hgg'; omega
      rw [hq]
      exact h5
theorem off_inj {dss : List (List Dd)} {c c' k k' : Nat} (hk : k < (dss.getD c []).length) (hk' : k' < (dss.getD c' []).length) (h1 : 0 < numD (dAt dss c k)) (h2 : 0 < numD (dAt dss c' k')) (e : offN dss c k = offN dss c' k') : c = c' ∧ k = k' := by
  by_cases hc : c < c'
  · have := off_lt (k' := k') hk (.inl hc); omega
  by_cases hc' : c' < c
  · have := off_lt (k' := k) hk' (.inl hc'); omega
  obtain rfl : c = c' := by omega
  refine ⟨rfl, ?_⟩
  by_cases hkk : k < k'
  · have := off_lt (c' := c) (k' := k') hk (.inr ⟨rfl, hkk⟩); omega
  by_cases hkk' : k' < k
  · have := off_lt (c' := c) (k' := k) hk' (.inr ⟨rfl, hkk'⟩); omega
  omega
theorem num_grp {dss : List (List Dd)} {c k : Nat} (hok : OkC dss c) (hk : k < (dss.getD c []).length) (hg : gAt dss c k ≠ 0) : (dAt dss c k).1 ≠ 4 ∧ (dAt dss c k).1 ≠ 3 ∧ 0 < numD (dAt dss c k) := by
  have hd := g_in hok hk
  have hkk := okD_kindE (hok k hk)
  have h3 : ¬ 2 < (dAt dss c k).1 := fun h => hg (hd.2.2 h)
  refine ⟨by omega, by omega, ?_⟩
  unfold numD
  rw [if_neg (by omega), if_neg (by omega)]
  omega
theorem num_pos {d : Dd} (h : d.1 ≠ 4) : 0 < numD d := by
  unfold numD
  rw [if_neg h]
  split <;> omega
theorem cls_iff {dss : List (List Dd)} {c c' k k' : Nat} (hok : OkC dss c) (hok' : OkC dss c') (hk : k < (dss.getD c []).length) (hk' : k' < (dss.getD c' []).length) (h4 : (dAt dss c k).1 ≠ 4) (h4' : (dAt dss c' k').1 ≠ 4) :
    clsD dss c k = clsD dss c' k' ↔ c = c' ∧ (k = k' ∨ (gAt dss c k ≠ 0 ∧ gAt dss c k = gAt dss c' k')) := by
  constructor
  · intro e
    rcases cls_at hok hk h4 with ⟨g1, e1⟩ | ⟨g1, j, j1, j2, j3, e1⟩
    · rcases cls_at hok' hk' h4' with ⟨g2, e2⟩ | ⟨g2, j', l1, l2, l3, e2⟩
      · rw [e1, e2] at e
        obtain ⟨rfl, rfl⟩ := off_inj hk hk' (num_pos h4) (num_pos h4') (by omega)
        exact ⟨rfl, .inl rfl⟩
      · rw [e1, e2] at e
        obtain ⟨rfl, rfl⟩ := off_inj (k' := j') hk (by omega) (num_pos h4) (num_grp (k := j') hok' (by omega) (by rw [l2]; exact g2)).2.2 (by omega)
        exact absurd (l2.symm.trans g1) g2
    · rcases cls_at hok' hk' h4' with ⟨g2, e2⟩ | ⟨g2, j', l1, l2, l3, e2⟩
      · rw [e1, e2] at e
        obtain ⟨rfl, rfl⟩ := off_inj (k := j) (by omega) hk' (num_grp (k := j) hok (by omega) (by rw [j2]; exact g1)).2.2 (num_pos h4') (by omega)
        exact absurd (j2.symm.trans g2) g1
      · rw [e1, e2] at e
        obtain ⟨rfl, rfl⟩ := off_inj (k := j) (k' := j') (by omega) (by omega) (num_grp (k := j) hok (by omega) (by rw [j2]; exact g1)).2.2 (num_grp (k := j') hok' (by omega) (by rw [l2]; exact g2)).2.2 (by omega)
        exact ⟨rfl, .inr ⟨g1, by rw [← j2, l2]⟩⟩
  · rintro ⟨rfl, rfl | ⟨g1, g2⟩⟩
    · rfl
    · rcases cls_at hok hk h4 with ⟨g0, _⟩ | ⟨_, j, j1, j2, j3, e1⟩
      · exact absurd g0 g1
      rcases cls_at hok' hk' h4' with ⟨g0, _⟩ | ⟨_, j', l1, l2, l3, e2⟩
      · rw [g0] at g2; exact absurd g2 g1
      rw [e1, e2]
      have : j = j' := by
        by_cases a : j < j'
        · exact absurd (by rw [j2, g2]) (l3 j a)
        by_cases a' : j' < j
        · exact absurd (by rw [l2, g2]) (j3 j' a')
        omega
      rw [this]
def rdI (d : Dd) (i : Nat) : Bool := decide (d.1 ≠ 2) && decide (i = 0)
def vlI (d : Dd) (i : Nat) : Int := if rdI d i = true then 0 else d.2.2.1
theorem oneE_at {c k : Nat} {d : Dd} {z : Int} (hd : d.1 = 1 ∨ d.1 = 2 ∨ d.1 = 3 ∨ d.1 = 4) {i : Nat} (hi : i < numD d) : (oneE c k d z)[i]? = some ((c : Int), (k : Int), rdI d i, d.2.1, vlI d i, z) := by
  unfold numD at hi
  unfold oneE vlI rdI
  rcases hd with h | h | h | h
  · rw [if_neg (by omega), if_neg (by omega)] at hi
    rw [if_neg (by omega), if_neg (by omega), if_neg (by omega)]
    obtain rfl : i = 0 := by omega
    simp [h]
  · rw [if_neg (by omega), if_neg (by omega)] at hi
    rw [if_neg (by omega), if_neg (by omega), if_pos h]
    obtain rfl : i = 0 := by omega
    simp [h]
  · rw [if_neg (by omega), if_pos h] at hi
    rw [if_neg (by omega), if_pos h]
    rcases (by omega : i = 0 ∨ i = 1) with rfl | rfl
    · simp [h]
    · simp
  · rw [if_pos h] at hi
    omega
structure EvIs (dss : List (List Dd)) (j c k i : Nat) : Prop where
  hc : c < dss.length
  hk : k < (dss.getD c []).length
  hi : i < numD (dAt dss c k)
  hj : j = offN dss c k + i
theorem EvIs.kind {dss : List (List Dd)} {j c k i : Nat} (h : EvIs dss j c k i) : (dAt dss c k).1 ≠ 4 := by
  intro e
  have := h.hi
  unfold numD at this
  rw [if_pos e] at this
  omega
theorem ev_dec {dss : List (List Dd)} (hb : workB dss = true) {j : Nat} (h3 : 3 ≤ j) (hj : j < (eventsB dss).length) : ∃ c k i, EvIs dss j c k i := by
  rw [eventsB, if_pos hb] at hj
  obtain ⟨c, k, i, h1, h2, h4, h5⟩ := es_dec dss h3 dss.length hj
  exact ⟨c, k, i, h1, h2, h4, h5⟩
theorem EvIs.at {dss : List (List Dd)} (hb : workB dss = true) {j c k i : Nat} (h : EvIs dss j c k i) : (eventsB dss).getD j zE = ((c : Int), (k : Int), rdI (dAt dss c k) i, (dAt dss c k).2.1, vlI (dAt dss c k) i, clsD dss c k) := by
  have hd := okD_kindE (okC_of hb h.hc k h.hk)
  rw [eventsB, if_pos hb, List.getD_eq_getElem?_getD, h.hj, es_at h.hc h.hk (oneE_at hd h.hi)]
  rfl
theorem EvIs.lt {dss : List (List Dd)} (hb : workB dss = true) {j c k i : Nat} (h : EvIs dss j c k i) : 3 ≤ j ∧ j < (eventsB dss).length := by
  have hd := okD_kindE (okC_of hb h.hc k h.hk)
  have h1 := es_at (n := dss.length) h.hc h.hk (oneE_at (z := clsD dss c k) (c := c) (k := k) hd h.hi)
  have h2 := off_three dss c k
  rw [eventsB, if_pos hb, h.hj]
  exact ⟨by omega, (List.getElem?_eq_some_iff.1 h1).1⟩
theorem EvIs.ord {dss : List (List Dd)} {j c k i j' c' k' i' : Nat} (h : EvIs dss j c k i) (h' : EvIs dss j' c' k' i') : j < j' ↔ c < c' ∨ (c = c' ∧ (k < k' ∨ (k = k' ∧ i < i'))) := by
  have e1 := h.hj
  have e2 := h'.hj
  have l1 := h.hi
  have l2 := h'.hi
  constructor
  · intro hlt
    by_cases a : c < c'
    · exact .inl a
    by_cases b : c' < c
    · have := off_lt (k' := k) h'.hk (.inl b); omega
    obtain rfl : c = c' := by omega
    refine .inr ⟨rfl, ?_⟩
    by_cases a : k < k'
    · exact .inl a
    by_cases b : k' < k
    · have := off_lt (c' := c) (k' := k) h'.hk (.inr ⟨rfl, b⟩); omega
    obtain rfl : k = k' := by omega
    exact .inr ⟨rfl, by omega⟩
  · rintro (a | ⟨rfl, a | ⟨rfl, a⟩⟩)
    · have := off_lt (k' := k') h.hk (.inl a); omega
    · have := off_lt (c' := c) (k' := k') h.hk (.inr ⟨rfl, a⟩); omega
    · omega
theorem EvIs.one {dss : List (List Dd)} {j c k i c' k' i' : Nat} (h : EvIs dss j c k i) (h' : EvIs dss j c' k' i') : c = c' ∧ k = k' ∧ i = i' := by
  have a := h.ord h'
  have b := h'.ord h
  by_cases hc : c = c'
  · subst hc
    by_cases hk : k = k'
    · subst hk
      exact ⟨rfl, rfl, by have := h.hj; have := h'.hj; omega⟩
    · by_cases hlt : k < k'
      · have := a.2 (.inr ⟨rfl, .inl hlt⟩); omega
      · have := b.2 (.inr ⟨rfl, .inl (by omega)⟩); omega
  · by_cases hlt : c < c'
    · have := a.2 (.inl hlt); omega
    · have := b.2 (.inl (by omega)); omega
theorem tog_between {ds : List Dd} (ht : Tog ds) {j k : Nat} (hk : k < ds.length) (hg : (ds.getD k zD).2.2.2 ≠ 0) (e : (ds.getD j zD).2.2.2 = (ds.getD k zD).2.2.2) : ∀ m : Nat, j + m < k → (ds.getD (k - 1 - m) zD).2.2.2 = (ds.getD k zD).2.2.2
  | 0, h => ht k j hk (by omega) hg e
  | m + 1, h => by
    have ih := tog_between ht hk hg e m (by omega)
    have h2 := ht (k - 1 - m) j (by omega) (by omega) (by rw [ih]; exact hg) (by rw [ih]; exact e)
    rw [show k - 1 - (m + 1) = k - 1 - m - 1 by omega, h2, ih]
theorem grp_between {dss : List (List Dd)} (hb : workB dss = true) {c j k l : Nat} (hc : c < dss.length) (h1 : j ≤ k) (h2 : k ≤ l) (hl : l < (dss.getD c []).length) (hg : gAt dss c l ≠ 0) (e : gAt dss c j = gAt dss c l) : gAt dss c k = gAt dss c l := by
  by_cases a : k = l
  · rw [a]
  by_cases b : k = j
  · rw [b]; exact e
  have := tog_between (work_tog hb c hc) hl hg e (l - 1 - k) (by omega)
  rw [show l - 1 - (l - 1 - k) = k by omega] at this
  exact this
def plE (es : List Ev) (r : Int) : Int := (es.getD r.toNat zE).2.2.2.1
def chcK (es : List Ev) (rs : List Int) : Nat → List (List Int)
  | 0 => []
  | k + 1 => chcK es rs k ++ [idxB (toE (plE es (rs.getD k 0))) es]
def chcL (es : List Ev) : List (List Int) := chcK es (idxB rdE es) (idxB rdE es).length
theorem chcK_len (es : List Ev) (rs : List Int) : ∀ k : Nat, (chcK es rs k).length = k
  | 0 => rfl
  | k + 1 => by rw [chcK, List.length_append, chcK_len es rs k]; rfl
theorem chcK_get (es : List Ev) (rs : List Int) : ∀ (k i : Nat), i < k → (chcK es rs k).getD i [] = idxB (toE (plE es (rs.getD i 0))) es
  | 0, i, h => by omega
  | k + 1, i, h => by
    rw [chcK]
    by_cases hi : i < k
    · rw [List.getD_eq_getElem?_getD, List.getElem?_append_left (by rw [chcK_len]; exact hi), ← List.getD_eq_getElem?_getD, chcK_get es rs k i hi]
    · obtain rfl : i = k := by omega
      rw [List.getD_eq_getElem?_getD, List.getElem?_append_right (by rw [chcK_len]; exact Nat.le_refl _), chcK_len]
      simp
def isB (l : List Int) (n : Int) : Bool := l.any (· == n)
def srcK (c : List (List Int)) (from' : List Int) : Nat → Bool
  | 0 => true
  | k + 1 => srcK c from' k && isB (c.getD k []) (from'.getD k 0)
def srcB (c : List (List Int)) (from' : List Int) : Bool := decide (c.length = from'.length) && srcK c from' c.length
def sourceB (dss : List (List Dd)) (from' : List Int) : Bool := workB dss && srcB (chcL (eventsB dss)) from'
theorem srcK_iff {c : List (List Int)} {f : List Int} : ∀ k : Nat, srcK c f k = true ↔ ∀ i, i < k → isB (c.getD i []) (f.getD i 0) = true
  | 0 => by simp [srcK]
  | k + 1 => by
    rw [srcK, Bool.and_eq_true, srcK_iff k]
    constructor
    · rintro ⟨h1, h2⟩ i hi
      by_cases e : i = k
      · subst e; exact h2
      · exact h1 i (by omega)
    · intro h
      exact ⟨fun i hi => h i (by omega), h k (by omega)⟩
abbrev Nt := Int × Int × Int
structure Bd where
  plc : List Int
  lst : List Int
  nts : List (List Nt)
  nxt : List Int
  sn : List Int
  fr : List Int
  rws : List (List Int)
def newM (dss : List (List Dd)) : Bd :=
  { plc := [0, 0, 0], lst := [0, 1, 2], nts := List.replicate dss.length [], nxt := List.replicate dss.length 0, sn := List.replicate (idxB rdE (eventsB dss)).length (-1), fr := List.replicate (idxB rdE (eventsB dss)).length (-1), rws := [[0], [1], [2]] }
def rdgM (b : Bd) (c p : Nat) : Int × Int :=
  match (b.nts.getD c []).reverse.find? (fun x => x.1 == (p : Int)) with
  | some x => x.2
  | none => (b.plc.getD p 0, b.lst.getD p 0)
def setR (rs : List Int) (ev v : Int) (l : List Int) : List Int := List.zipWith (fun r x => if r = ev then v else x) rs l
def seeM (rs : List Int) (b : Bd) (ev v f : Int) : Bd := { b with sn := setR rs ev v b.sn, fr := setR rs ev f b.fr }
def inkM (b : Bd) (p : Nat) (v ev : Int) : Bd := { b with plc := b.plc.set p v, lst := b.lst.set p ev, rws := b.rws.set p (b.rws.getD p [] ++ [ev]) }
def evM (es : List Ev) (c k : Nat) : Int :=
  match (List.range es.length).find? (fun i => decide (3 ≤ i) && ((es.getD i zE).1 == (c : Int)) && ((es.getD i zE).2.1 == (k : Int))) with
  | some i => (i : Int)
  | none => -1
def deedM (dss : List (List Dd)) (es : List Ev) (b : Bd) (c k : Nat) : Bd :=
  if (dAt dss c k).1 = 1 then seeM (idxB rdE es) b (evM es c k) (rdgM b c (dAt dss c k).2.1.toNat).1 (rdgM b c (dAt dss c k).2.1.toNat).2
  else if (dAt dss c k).1 = 3 then
    inkM (seeM (idxB rdE es) b (evM es c k) (b.plc.getD (dAt dss c k).2.1.toNat 0) (b.lst.getD (dAt dss c k).2.1.toNat 0)) (dAt dss c k).2.1.toNat (dAt dss c k).2.2.1 (evM es c k + 1)
  else if (dAt dss c k).1 = 2 ∧ 0 < gAt dss c k then inkM b (dAt dss c k).2.1.toNat (dAt dss c k).2.2.1 (evM es c k)
  else if (dAt dss c k).1 = 2 then { b with nts := b.nts.set c (b.nts.getD c [] ++ [((dAt dss c k).2.1, (dAt dss c k).2.2.1, evM es c k)]) }
  else b
def nxN (b : Bd) (c : Nat) : Nat := (b.nxt.getD c 0).toNat
def oneM (dss : List (List Dd)) (es : List Ev) (b : Bd) (c : Nat) : Bd :=
  { deedM dss es b c (nxN b c) with nxt := b.nxt.set c (b.nxt.getD c 0 + 1) }
def goM (dss : List (List Dd)) (es : List Ev) (g : Int) (c : Nat) : Nat → Bd → Bd
  | 0, b => b
  | m + 1, b =>
    if g = 0 ∨ nxN (oneM dss es b c) c = (dss.getD c []).length ∨ gAt dss c (nxN (oneM dss es b c) c) ≠ g then oneM dss es b c else goM dss es g c m (oneM dss es b c)
def flushM (b : Bd) (c : Nat) : Bd :=
  match b.nts.getD c [] with
  | [] => b
  | x :: r => inkM { b with nts := b.nts.set c r } x.1.toNat x.2.1 x.2.2
def stepM (dss : List (List Dd)) (es : List Ev) (b : Bd) (s : Int) : Bd :=
  if 10 ≤ s then flushM b (s - 10).toNat else goM dss es (gAt dss s.toNat (nxN b s.toNat)) s.toNat (dss.getD s.toNat []).length b
def canM (dss : List (List Dd)) (b : Bd) (c : Nat) : Bool :=
  decide (nxN b c < (dss.getD c []).length) && ((decide ((dAt dss c (nxN b c)).1 ≤ 2) && decide (gAt dss c (nxN b c) = 0)) || (b.nts.getD c []).isEmpty)
def possM (dss : List (List Dd)) (b : Bd) : List Int :=
  ((List.range dss.length).filter (canM dss b)).map (fun c : Nat => (c : Int)) ++ ((List.range dss.length).filter (fun c => !(b.nts.getD c []).isEmpty)).map (fun c : Nat => 10 + (c : Int))
def runM (dss : List (List Dd)) (es : List Ev) (b : Bd) : List Int → Bd
  | [] => b
  | s :: r => runM dss es (if isB (possM dss b) s = true then stepM dss es b s else b) r
def allB (l : List Int) (lo hi : Int) (most : Nat) : Bool := l.all (fun x => decide (lo ≤ x) && decide (x ≤ hi)) && decide (l.length ≤ most)
def ntB (n : Int) (x : Nt) : Bool := (decide (0 ≤ x.1) && decide (x.1 ≤ 2)) && ((decide (0 ≤ x.2.1) && decide (x.2.1 ≤ 9)) && (decide (0 ≤ x.2.2) && decide (x.2.2 ≤ n - 1)))
def ntsB (n : Int) (l : List Nt) : Bool := l.all (ntB n)
def ckB (dss : List (List Dd)) (n : Int) (b : Bd) (i : Nat) : Bool :=
  (decide (0 ≤ b.nxt.getD i 0) && decide (b.nxt.getD i 0 ≤ ((dss.getD i []).length : Int))) && (decide ((b.nts.getD i []).length ≤ 8) && ntsB n (b.nts.getD i []))
def shapeB (dss : List (List Dd)) (b : Bd) : Bool :=
  workB dss && (decide (b.plc.length = 3) && (decide (b.lst.length = 3) && (decide (b.rws.length = 3) && (decide (b.nts.length = dss.length) && decide (b.nxt.length = dss.length)))))
def fillB (n : Int) (r : Nat) (b : Bd) : Bool :=
  decide (b.sn.length = r) && (decide (b.fr.length = r) && (allB b.plc 0 9 3 && (allB b.lst 0 (n - 1) 3 && (allB b.sn (-1) 9 12 && allB b.fr (-1) (n - 1) 12))))
def rowsBd (n : Int) (b : Bd) : Bool := (List.range 3).all (fun i => allB (b.rws.getD i []) 0 (n - 1) 20)
def boardB (dss : List (List Dd)) (b : Bd) : Bool :=
  shapeB dss b && (fillB ((eventsB dss).length : Int) (idxB rdE (eventsB dss)).length b && (rowsBd ((eventsB dss).length : Int) b && (List.range dss.length).all (fun i => ckB dss ((eventsB dss).length : Int) b i)))
theorem allB_far {l : List Int} {lo hi : Int} {most k : Nat} (hk : k < l.length) (h : (decide (lo ≤ l.getD k 0) && decide (l.getD k 0 ≤ hi)) = false) : allB l lo hi most = false := by
  have : l.all (fun x => decide (lo ≤ x) && decide (x ≤ hi)) = false := by
    rw [List.all_eq_false]
    refine ⟨l.getD k 0, ?_, by rw [h]; simp⟩
    rw [List.getD_eq_getElem?_getD, List.getElem?_eq_getElem hk]
    exact List.getElem_mem hk
  unfold allB
  rw [this]
  rfl
theorem allB_done {l : List Int} {lo hi : Int} {most : Nat} (h : ∀ k, k < l.length → (decide (lo ≤ l.getD k 0) && decide (l.getD k 0 ≤ hi)) = true) : allB l lo hi most = decide (l.length ≤ most) := by
  have : l.all (fun x => decide (lo ≤ x) && decide (x ≤ hi)) = true := by
    rw [List.all_eq_true]
    intro x hx
    obtain ⟨i, hi, e⟩ := List.getElem_of_mem hx
    have := h i hi
    rw [List.getD_eq_getElem?_getD, List.getElem?_eq_getElem hi] at this
    simp only [Option.getD_some] at this
    rw [e] at this
    exact this
  unfold allB
  rw [this]
  rfl
theorem all_range_false {n k : Nat} {f : Nat → Bool} (hk : k < n) (h : f k = false) : (List.range n).all f = false := by
  rw [List.all_eq_false]
  exact ⟨k, List.mem_range.2 hk, by rw [h]; simp⟩
theorem all_range_true {n : Nat} {f : Nat → Bool} (h : ∀ k, k < n → f k = true) : (List.range n).all f = true := by
  rw [List.all_eq_true]
  exact fun k hk => h k (List.mem_range.1 hk)
theorem ntsB_false {n : Int} {l : List Nt} {k : Nat} (hk : k < l.length) (h : ntB n (l.getD k (0, 0, 0)) = false) : ntsB n l = false := by
  unfold ntsB
  rw [List.all_eq_false]
  refine ⟨l.getD k (0, 0, 0), ?_, by rw [h]; simp⟩
  rw [List.getD_eq_getElem?_getD, List.getElem?_eq_getElem hk]
  exact List.getElem_mem hk
theorem ntsB_true {n : Int} {l : List Nt} (h : ∀ k, k < l.length → ntB n (l.getD k (0, 0, 0)) = true) : ntsB n l = true := by
  unfold ntsB
  rw [List.all_eq_true]
  intro x hx
  obtain ⟨i, hi, e⟩ := List.getElem_of_mem hx
  have := h i hi
  rw [List.getD_eq_getElem?_getD, List.getElem?_eq_getElem hi] at this
  simp only [Option.getD_some] at this
  rw [e] at this
  exact this
def inAll (l : List Int) (lo hi : Int) : Bool := l.all (fun x => inB x lo hi)
def numP (l : List Int) (n lo hi : Int) : Bool := decide ((l.length : Int) = n) && inAll l lo hi
def rowP (last : Int) (l : List Int) : Bool := decide (l.length ≤ 20) && numP l l.length 0 last
def ntP (last : Int) (x : Nt) : Bool := inB x.1 0 2 && (inB x.2.1 0 9 && inB x.2.2 0 last)
def ntsP (last : Int) (l : List Nt) : Bool := decide (l.length ≤ 8) && l.all (ntP last)
def standP (last : Int) (b : Bd) : Bool := numP b.plc 3 0 9 && (numP b.lst 3 0 last && (decide (b.rws.length = 3) && b.rws.all (rowP last)))
def ckP (last : Int) (dss : List (List Dd)) (b : Bd) (i : Nat) : Bool := inB (b.nxt.getD i 0) 0 ((dss.getD i []).length : Int) && ntsP last (b.nts.getD i [])
def clksP (last : Int) (dss : List (List Dd)) (b : Bd) : Bool := decide (b.nts.length = dss.length) && (decide (b.nxt.length = dss.length) && (List.range dss.length).all (ckP last dss b))
def boardP (dss : List (List Dd)) (b : Bd) : Bool :=
  workB dss && (standP (((eventsB dss).length : Int) - 1) b && (clksP (((eventsB dss).length : Int) - 1) dss b && (numP b.sn (idxB rdE (eventsB dss)).length (-1) 9 && numP b.fr (idxB rdE (eventsB dss)).length (-1) (((eventsB dss).length : Int) - 1))))
theorem inB_and (x lo hi : Int) : (decide (lo ≤ x) && decide (x ≤ hi)) = inB x lo hi := by
  rw [Bool.eq_iff_iff]; unfold inB; simp
theorem allB_in (l : List Int) (lo hi : Int) (m : Nat) : allB l lo hi m = (inAll l lo hi && decide (l.length ≤ m)) := by
  unfold allB inAll
  congr 2
  funext x
  exact inB_and x lo hi
theorem ntB_in (n : Int) (x : Nt) : ntB n x = ntP (n - 1) x := by
  unfold ntB ntP
  rw [inB_and, inB_and, inB_and]
theorem ckB_in (dss : List (List Dd)) (n : Int) (b : Bd) (i : Nat) : ckB dss n b i = ckP (n - 1) dss b i := by
  unfold ckB ckP ntsP ntsB
  rw [inB_and]
  congr 3
  funext x
  exact ntB_in n x
theorem rowP_in (last : Int) (l : List Int) : rowP last l = allB l 0 last 20 := by
  rw [allB_in]
  unfold rowP numP
  simp [Bool.and_comm]
theorem rows_three (last : Int) (b : Bd) (h : b.rws.length = 3) : b.rws.all (rowP last) = rowsBd (last + 1) b := by
  obtain ⟨x, y, z, e⟩ : ∃ x y z, b.rws = [x, y, z] := by
    match hr : b.rws, h with
    | [x, y, z], _ => exact ⟨x, y, z, rfl⟩
  unfold rowsBd
  rw [e]
  have e1 : last + 1 - 1 = last := by omega
  rw [e1]
  simp [List.range, List.range.loop, rowP_in]
theorem boardP_same (dss : List (List Dd)) (b : Bd) (hl : (idxB rdE (eventsB dss)).length ≤ 12) : boardP dss b = boardB dss b := by
  generalize hr : (idxB rdE (eventsB dss)).length = r at hl
  generalize hn : ((eventsB dss).length : Int) = n
  rw [Bool.eq_iff_iff]
  unfold boardP boardB shapeB fillB standP clksP numP
  rw [hr, hn]
  have ec : (fun i => ckB dss n b i) = ckP (n - 1) dss b := by funext i; exact ckB_in dss n b i
  rw [ec]
  simp only [allB_in, Bool.and_eq_true, decide_eq_true_eq]
  have e1 : n - 1 + 1 = n := by omega
  constructor
  · rintro ⟨h1, ⟨⟨p1, p2⟩, ⟨l1, l2⟩, r1, r2⟩, ⟨c1, c2, c3⟩, ⟨s1, s2⟩, f1, f2⟩
    rw [rows_three _ _ r1, e1] at r2
    exact ⟨⟨h1, by omega, by omega, r1, c1, c2⟩, ⟨by omega, by omega, ⟨p2, by omega⟩, ⟨l2, by omega⟩, ⟨s2, by omega⟩, f2, by omega⟩, r2, c3⟩
  · rintro ⟨⟨h1, p1, l1, r1, c1, c2⟩, ⟨s1, f1, ⟨p2, _⟩, ⟨l2, _⟩, ⟨s2, _⟩, f2, _⟩, r2, c3⟩
    refine ⟨h1, ⟨⟨by omega, p2⟩, ⟨by omega, l2⟩, r1, ?_⟩, ⟨c1, c2, c3⟩, ⟨by omega, s2⟩, by omega, f2⟩
    rw [rows_three _ _ r1, e1]
    exact r2
theorem inAll_false {l : List Int} {lo hi : Int} {k : Nat} (hk : k < l.length) (h : inB (l.getD k 0) lo hi = false) : inAll l lo hi = false := by
  unfold inAll
  rw [List.all_eq_false]
  refine ⟨l.getD k 0, ?_, by rw [h]; simp⟩
  rw [List.getD_eq_getElem?_getD, List.getElem?_eq_getElem hk]
  exact List.getElem_mem hk
theorem all_getD_true {α : Type} {l : List α} {f : α → Bool} (z : α) (h : ∀ k, k < l.length → f (l.getD k z) = true) : l.all f = true := by
  rw [List.all_eq_true]
  intro x hx
  obtain ⟨i, hi, e⟩ := List.getElem_of_mem hx
  have := h i hi
  rw [List.getD_eq_getElem?_getD, List.getElem?_eq_getElem hi] at this
  simp only [Option.getD_some] at this
  rw [e] at this
  exact this
theorem all_getD_false {α : Type} {l : List α} {f : α → Bool} (z : α) {k : Nat} (hk : k < l.length) (h : f (l.getD k z) = false) : l.all f = false := by
  rw [List.all_eq_false]
  refine ⟨l.getD k z, ?_, by rw [h]; simp⟩
  rw [List.getD_eq_getElem?_getD, List.getElem?_eq_getElem hk]
  exact List.getElem_mem hk
def RowAt (w : World) (g : Nat) (zs : List Int) : Prop :=
  ∃ (cur : Array Value) (e : TypeId), w.heap[g]? = some (.cells cur e (0, 0)) ∧ cur.toList.take zs.length = zs.map (Value.int .i64)
theorem RowAt.lt {w : World} {g : Nat} {zs : List Int} (h : RowAt w g zs) : g < w.heap.size := by
  obtain ⟨cur, e, hh, _⟩ := h
  exact (Array.getElem?_eq_some_iff.1 hh).1
theorem RowAt.cell {w : World} {g : Nat} {zs : List Int} (h : RowAt w g zs) {j : Nat} (hj : j < zs.length) : w.cell? ⟨g, j, none⟩ = some (.int .i64 (zs.getD j 0)) := by
  obtain ⟨cur, e, hh, ht⟩ := h
  rw [cell_of_row w g j cur e (0, 0) hh]
  have h1 : (cur.toList.take zs.length)[j]? = (zs.map (Value.int .i64))[j]? := by rw [ht]
  rw [List.getElem?_take, if_pos hj, List.getElem?_map, List.getElem?_eq_getElem hj] at h1
  rw [List.getD_eq_getElem?_getD, List.getElem?_eq_getElem hj]
  simpa using h1
theorem RowAt.free {w : World} {g : Nat} {zs : List Int} (h : RowAt w g zs) (j : Nat) : w.frozen? ⟨g, j, none⟩ = false := by
  obtain ⟨cur, e, hh, _⟩ := h
  exact frozen_of_row w g j _ _ hh
theorem RowAt.kept {w w' : World} {g : Nat} {zs : List Int} {row : Option Nat} (h : RowAt w g zs) (hg : w.grownBy w' row) (hne : row ≠ some g) : RowAt w' g zs := by
  have hlt := h.lt
  obtain ⟨cur, e, hh, ht⟩ := h
  exact ⟨cur, e, by rw [hg.block g hlt (fun e => hne e.symm)]; exact hh, ht⟩
theorem RowAt.keep {w w' : World} {g : Nat} {zs : List Int} (h : RowAt w g zs) (k : Keep w w') : RowAt w' g zs := h.kept k.grownBy (by simp)
theorem grown_set (w : World) (g j : Nat) (v : Value) : w.grownBy (w.setCell ⟨g, j, none⟩ v) (some g) :=
  ⟨rfl, rfl, rfl, by simp, fun k _ hk => heap_setCell_other w ⟨g, j, none⟩ k v (fun e => hk (by simp [e]))⟩
theorem grown_draw (w : World) (n : Nat) (row : Option Nat) : w.grownBy (w.drewN n) row := ⟨rfl, rfl, rfl, Nat.le_refl _, fun _ _ _ => rfl⟩
theorem grown_drew (w : World) (row : Option Nat) : w.grownBy w.drew row := ⟨rfl, rfl, rfl, Nat.le_refl _, fun _ _ _ => rfl⟩
theorem RowAt.drewN {w : World} {g : Nat} {zs : List Int} (h : RowAt w g zs) (n : Nat) : RowAt (w.drewN n) g zs := h.kept (row := none) (grown_draw w n none) (by simp)
theorem RowAt.drew {w : World} {g : Nat} {zs : List Int} (h : RowAt w g zs) : RowAt w.drew g zs := h.kept (row := none) (grown_drew w none) (by simp)
theorem take_set_val (l : List Value) (zs : List Int) (j : Nat) (x : Int) (h : l.take zs.length = zs.map (Value.int .i64)) :
    (l.set j (.int .i64 x)).take (zs.set j x).length = (zs.set j x).map (Value.int .i64) := by
  rw [List.length_set, List.take_set, h, List.map_set]
theorem RowAt.set {w : World} {g : Nat} {zs : List Int} (h : RowAt w g zs) (j : Nat) (x : Int) : RowAt (w.setCell ⟨g, j, none⟩ (.int .i64 x)) g (zs.set j x) := by
  obtain ⟨cur, e, hh, ht⟩ := h
  refine ⟨cur.setIfInBounds j (.int .i64 x), e, ?_, ?_⟩
  · rw [heap_setCell_same w g j _ _ _ hh]
  · rw [Array.toList_setIfInBounds]
    exact take_set_val _ zs j x ht
def Row (w : World) (base : Nat) (v : Value) (zs : List Int) : Prop :=
  (v = .slice none 0 0 ∧ zs = []) ∨ ∃ g cap, v = .slice (some ⟨g, 0, none⟩) zs.length cap ∧ base ≤ g ∧ RowAt w g zs
theorem Own.row {w : World} {base : Nat} {v : Value} {zs : List Int} (h : Own w base v zs) : Row w base v zs := by
  rcases h.2 with ⟨rfl, hn⟩ | ⟨g, cap, cur, rfl, hb, hg, _, _, _, ht⟩
  · exact .inl ⟨rfl, List.eq_nil_of_length_eq_zero hn⟩
  · exact .inr ⟨g, cap, rfl, hb, cur, _, hg, by rw [Nat.mul_one] at ht; exact ht⟩
theorem Row.lt {w : World} {base : Nat} {v : Value} {zs : List Int} (h : Row w base v zs) : ∀ k, v.ownBlock = some k → base ≤ k ∧ k < w.heap.size := by
  intro k hk
  rcases h with ⟨rfl, _⟩ | ⟨g, cap, rfl, hb, hr⟩
  · simp [Value.ownBlock] at hk
  · simp [Value.ownBlock] at hk; subst hk; exact ⟨hb, hr.lt⟩
theorem Row.ge {w : World} {base : Nat} {v : Value} {zs : List Int} (h : Row w base v zs) : ∀ k, v.ownBlock = some k → base ≤ k := fun k hk => (h.lt k hk).1
theorem Row.kept {w w' : World} {base : Nat} {v : Value} {zs : List Int} {row : Option Nat} (h : Row w base v zs) (hg : w.grownBy w' row) (hne : v.ownBlock = none ∨ v.ownBlock ≠ row) : Row w' base v zs := by
  rcases h with h | ⟨g, cap, rfl, hb, hr⟩
  · exact .inl h
  · refine .inr ⟨g, cap, rfl, hb, hr.kept hg ?_⟩
    simp [Value.ownBlock] at hne
    exact fun e => hne e.symm
theorem Row.keep {w w' : World} {base : Nat} {v : Value} {zs : List Int} (h : Row w base v zs) (k : Keep w w') : Row w' base v zs :=
  h.kept k.grownBy (by cases v.ownBlock <;> simp)
theorem Row.rd {w : World} {base : Nat} {v : Value} {zs : List Int} (h : Row w base v zs) : Rd w v zs := by
  rcases h with ⟨rfl, rfl⟩ | ⟨g, cap, rfl, hb, hr⟩
  · exact ⟨none, 0, rfl, .inl rfl⟩
  · exact ⟨some ⟨g, 0, none⟩, cap, rfl, .inr ⟨g, 0, rfl, hr.lt, fun i hi => by rw [Nat.zero_add]; exact hr.cell hi⟩⟩
theorem Row.base_le {w : World} {base base' : Nat} {v : Value} {zs : List Int} (h : Row w base v zs) (hb : base' ≤ base) : Row w base' v zs := by
  rcases h with h | ⟨g, cap, hv, hg, hr⟩
  · exact .inl h
  · exact .inr ⟨g, cap, hv, Nat.le_trans hb hg, hr⟩
theorem Row.apart {w w' : World} {base : Nat} {v v' : Value} {zs zs' : List Int} (h : Row w base v zs) (h' : Row w' w.heap.size v' zs') : v.ownBlock = none ∨ v.ownBlock ≠ v'.ownBlock := by
  cases hv : v.ownBlock with
  | none => exact .inl rfl
  | some k =>
    refine .inr fun e => ?_
    have h1 := (h.lt k hv).2
    have h2 := h'.ge k e.symm
    omega
section
structure Rw where
  e : TypeId
  size : Nat
  v : Value
  n : Nat
  xs : List Value
def Rw.own (w : World) (m : Nat) (r : Rw) : Prop := w.ownsRow m r.e r.size r.v r.n r.xs
def upd {ι : Type} [DecidableEq ι] (R : ι → Rw) (i : ι) (r : Rw) : ι → Rw := fun j => if j = i then r else R j
theorem upd_same {ι : Type} [DecidableEq ι] (R : ι → Rw) (i : ι) (r : Rw) : upd R i r i = r := if_pos rfl
theorem upd_other {ι : Type} [DecidableEq ι] (R : ι → Rw) {i j : ι} (r : Rw) (h : j ≠ i) : upd R i r j = R j := if_neg h
structure Fam {ι : Type} (w : World) (m : Nat) (live : ι → Prop) (R : ι → Rw) : Prop where
  own : ∀ i, live i → (R i).own w m
  apart : ∀ i j, live i → live j → i ≠ j → (R i).v.ownBlock = none ∨ (R i).v.ownBlock ≠ (R j).v.ownBlock
section
variable {ι : Type} {w w' : World} {m : Nat} {live : ι → Prop} {R : ι → Rw}
theorem Fam.lt (h : Fam w m live R) {i : ι} (hi : live i) : ∀ k, (R i).v.ownBlock = some k → m ≤ k ∧ k < w.heap.size := World.ownsRow.lt (h.own i hi)
theorem Fam.keep (h : Fam w m live R) (k : Keep w w') : Fam w' m live R :=
  ⟨fun i hi => World.ownsRow.kept (h.own i hi) k.grownBy (by cases (R i).v.ownBlock <;> simp), h.apart⟩
theorem Fam.far (h : Fam w m live R) {row : Option Nat} (hg : w.grownBy w' row) (hr : ∀ i, live i → (R i).v.ownBlock = none ∨ (R i).v.ownBlock ≠ row) : Fam w' m live R :=
  ⟨fun i hi => World.ownsRow.kept (h.own i hi) hg (hr i hi), h.apart⟩
theorem Fam.congr (h : Fam w m live R) {live' : ι → Prop} {R' : ι → Rw} (hl : ∀ i, live' i → live i) (hr : ∀ i, live' i → R' i = R i) : Fam w m live' R' :=
  ⟨fun i hi => by rw [hr i hi]; exact h.own i (hl i hi), fun i j hi hj hij => by rw [hr i hi, hr j hj]; exact h.apart i j (hl i hi) (hl j hj) hij⟩
variable [DecidableEq ι]
theorem Fam.set (h : Fam w m live R) {i : ι} (hi : live i) {r : Rw} (hg : w.grownBy w' (R i).v.ownBlock) (hb : r.v.ownBlock = (R i).v.ownBlock ∨ r.v.ownBlock = some w.heap.size ∨ r.v.ownBlock = none) (ho : r.own w' m) : Fam w' m live (upd R i r) := by
  refine ⟨fun j hj => ?_, fun j k hj hk hjk => ?_⟩
  · by_cases e : j = i
    · subst e; rw [upd_same]; exact ho
    · rw [upd_other R r e]
      exact World.ownsRow.kept (h.own j hj) hg (h.apart j i hj hi e)
  · have new : ∀ j, live j → j ≠ i → (R j).v.ownBlock = none ∨ (R j).v.ownBlock ≠ some w.heap.size := fun j hj _ => by
      cases e : (R j).v.ownBlock with
      | none => exact .inl rfl
      | some b => exact .inr (fun e' => by have := (h.lt hj b e).2; have := Option.some.inj e'; omega)
    by_cases ej : j = i
    · subst ej
      have ek : k ≠ j := fun e => hjk e.symm
      rw [upd_same, upd_other R r ek]
      rcases hb with hb | hb | hb
      · rw [hb]; exact h.apart j k hj hk hjk
      · rw [hb]
        right
        intro e
        rcases new k hk ek with h1 | h1
        · rw [h1] at e; cases e
        · exact h1 e.symm
      · exact .inl hb
    · rw [upd_other R r ej]
      by_cases ek : k = i
      · subst ek
        rw [upd_same]
        rcases hb with hb | hb | hb
        · rw [hb]; exact h.apart j k hj hk hjk
        · rw [hb]; exact new j hj ej
        · rw [hb]
          cases (R j).v.ownBlock with
          | none => exact .inl rfl
          | some b => exact .inr (by simp)
      · rw [upd_other R r ek]
        exact h.apart j k hj hk hjk
theorem Fam.add (h : Fam w m live R) {i : ι} (hi : ¬ live i) {r : Rw} {s : Nat} (hs : s = w.heap.size) (k : Keep w w') (ho : r.own w' m) (hn : ∀ b, r.v.ownBlock = some b → s ≤ b) : Fam w' m (fun j => live j ∨ j = i) (upd R i r) := by
  have hk := h.keep k
  have new : ∀ j, live j → (R j).v.ownBlock = none ∨ (R j).v.ownBlock ≠ r.v.ownBlock := fun j hj => by
    cases e : (R j).v.ownBlock with
    | none => exact .inl rfl
    | some b => exact .inr (fun e' => by have := (h.lt hj b e).2; have := hn b e'.symm; omega)
  have ne : ∀ j, live j → j ≠ i := fun j hj e => hi (e ▸ hj)
  refine ⟨fun j hj => ?_, fun j l hj hl hjl => ?_⟩
  · rcases hj with hj | rfl
    · rw [upd_other R r (ne j hj)]; exact hk.own j hj
    · rw [upd_same]; exact ho
  · rcases hj with hj | rfl
    · rw [upd_other R r (ne j hj)]
      rcases hl with hl | rfl
      · rw [upd_other R r (ne l hl)]; exact h.apart j l hj hl hjl
      · rw [upd_same]; exact new j hj
    · rw [upd_same]
      rcases hl with hl | rfl
      · rw [upd_other R r (ne l hl)]
        rcases new l hl with h1 | h1
        · rw [h1]
          cases r.v.ownBlock with
          | none => exact .inl rfl
          | some b => exact .inr (by simp)
        · exact .inr (fun e => h1 e.symm)
      · exact absurd rfl hjl
end
theorem Rw.cell {w : World} {m : Nat} {r : Rw} (h : r.own w m) {g cap k : Nat} (hv : r.v = .slice (some ⟨g, 0, none⟩) r.n cap) (hk : k < r.n * r.size) : w.cell? ⟨g, k, none⟩ = r.xs[k]? := by
  unfold Rw.own at h
  rw [hv] at h
  exact World.ownsRow.cellAt h k hk
theorem Rw.put {w : World} {m : Nat} {r : Rw} (h : r.own w m) {g cap k : Nat} (hv : r.v = .slice (some ⟨g, 0, none⟩) r.n cap) (x : Value) : Rw.own (w.setCell ⟨g, k, none⟩ x) m { r with xs := r.xs.set k x } ∧ w.grownBy (w.setCell ⟨g, k, none⟩ x) r.v.ownBlock ∧ w.frozen? ⟨g, k, none⟩ = false := by
  unfold Rw.own at h ⊢
  rcases h.2 with ⟨h1, _⟩ | ⟨g', cap', cur, h1, hb, hg, hn, hm, hs, ht⟩
  · rw [hv] at h1; simp at h1
  · rw [hv] at h1
    simp only [Value.slice.injEq, Option.some.injEq, Addr.mk.injEq, and_true, true_and] at h1
    obtain ⟨rfl, rfl⟩ := h1
    refine ⟨⟨by simpa using h.1, .inr ⟨g, cap, cur.setIfInBounds k x, hv, hb, heap_setCell_same w g k _ _ _ hg, hn, hm, by simpa using hs, ?_⟩⟩, ?_, frozen_of_row w g k _ _ hg⟩
    · rw [Array.toList_setIfInBounds, List.take_set, ht]
    · rw [hv]
      exact grown_set w g k x
end
def grD (d : Dd) : Int := d.2.2.2
def gK (ds : List Dd) : Nat → Int
  | 0 => 0
  | k + 1 => if grD (ds.getD k zD) = 0 then gK ds k else gAdd (gK ds k) (grD (ds.getD k zD))
def gC (ds : List Dd) : Int := gK ds ds.length
def partK (ds : List Dd) (k : Nat) : Bool := decide (0 < k) && (grD (ds.getD k zD) != grD (ds.getD (k - 1) zD)) && inSetB (gK ds k) (grD (ds.getD k zD))
def togK (ds : List Dd) : Nat → Bool
  | 0 => true
  | k + 1 => togK ds k && !partK ds k
def takW (dss : List (List Dd)) : Nat → Int
  | 0 => 0
  | i + 1 => bits .or .i64 (takW dss i) (gC (dss.getD i []))
def rightB (ds : List Dd) (t : Int) : Bool := decide (ds.length ≤ 5) && ds.all okD && togK ds ds.length && (bits .and .i64 (gC ds) t == 0)
def rightsW (dss : List (List Dd)) : Nat → Bool
  | 0 => true
  | i + 1 => rightsW dss i && rightB (dss.getD i []) (takW dss i)
theorem take_getD {α : Type} (l : List α) (i k : Nat) (z : α) (h : k < i) : (l.take i).getD k z = l.getD k z := by
  rw [List.getD_eq_getElem?_getD, List.getElem?_take, if_pos h, List.getD_eq_getElem?_getD]
theorem gK_take (ds : List Dd) (i : Nat) : ∀ k : Nat, k ≤ i → gK (ds.take i) k = gK ds k
  | 0, _ => rfl
  | k + 1, h => by rw [gK, gK, gK_take ds i k (by omega), take_getD ds i k zD (by omega)]
theorem gC_take (ds : List Dd) (i : Nat) (h : i ≤ ds.length) : gC (ds.take i) = gK ds i := by
  rw [gC, List.length_take, Nat.min_eq_left h, gK_take ds i i (Nat.le_refl _)]
theorem togK_false {ds : List Dd} {k : Nat} (h : togK ds k = false) : ∀ n : Nat, k ≤ n → togK ds n = false
  | 0, hn => by
    obtain rfl : k = 0 := by omega
    exact h
  | n + 1, hn => by
    by_cases e : k = n + 1
    · rw [← e]; exact h
    · rw [togK, togK_false h n (by omega)]; rfl
theorem rightsW_false {dss : List (List Dd)} {k : Nat} (h : rightsW dss k = false) : ∀ n : Nat, k ≤ n → rightsW dss n = false
  | 0, hn => by
    obtain rfl : k = 0 := by omega
    exact h
  | n + 1, hn => by
    by_cases e : k = n + 1
    · rw [← e]; exact h
    · rw [rightsW, rightsW_false h n (by omega)]; rfl
def Dis (a b : Nat) : Prop := ∀ k, a.testBit k = true → b.testBit k = false
theorem dis_iff (a b : Nat) : Dis a b ↔ a &&& b = 0 := by
  constructor
  · intro h
    apply Nat.eq_of_testBit_eq
    intro k
    rw [Nat.testBit_and, Nat.zero_testBit]
    cases ha : a.testBit k
    · rfl
    · rw [h k ha]; rfl
  · intro h k ha
    have h1 : (a &&& b).testBit k = false := by rw [h, Nat.zero_testBit]
    rw [Nat.testBit_and, ha] at h1
    simpa using h1
theorem or_bit (a g k : Nat) : (a ||| 2 ^ g).testBit k = (a.testBit k || decide (g = k)) := by
  rw [Nat.testBit_or, Nat.testBit_two_pow]
theorem set_getD (o : List Int) (g : Nat) (x : Int) (j : Nat) (hg : g < o.length) : (o.set g x).getD j 0 = if g = j then x else o.getD j 0 := by
  rw [List.getD_eq_getElem?_getD, List.getElem?_set]
  by_cases e : g = j
  · subst e; rw [if_pos rfl, if_pos hg, if_pos rfl]; rfl
  · rw [if_neg e, if_neg e, List.getD_eq_getElem?_getD]
theorem okD_grp {d : Dd} (h : okD d = true) : 0 ≤ grD d ∧ grD d ≤ 9 := by
  simp [okD, deedB] at h
  unfold grD
  omega
theorem clerk_same {i : Nat} {own : List Int} {T : Nat} {ds : List Dd} (hl : own.length = 10) (hT : ∀ g, g < 10 → (own.getD g 0 ≠ 0 ↔ T.testBit g = true)) (hi : ∀ g, g < 10 → own.getD g 0 ≠ (i : Int) + 1) (hT0 : T.testBit 0 = false) :
    ∀ k : Nat, (∀ j, j < k → okD (ds.getD j zD) = true) → ∃ G : Nat, G < 4096 ∧ gK ds k = (G : Int) ∧ G.testBit 0 = false ∧ (k = 0 → G = 0) ∧
      (grpK i own ds k = none → togK ds k = false ∨ ¬ Dis G T) ∧
      ∀ o, grpK i own ds k = some o → togK ds k = true ∧ Dis G T ∧ o.length = 10 ∧ ∀ g, g < 10 → o.getD g 0 = if G.testBit g = true then (i : Int) + 1 else own.getD g 0
  | 0, _ => ⟨0, by omega, rfl, by simp, fun _ => rfl, by simp [grpK], by
      intro o ho
      simp only [grpK, Option.some.injEq] at ho
      subst ho
      exact ⟨rfl, fun k hk => by simp at hk, hl, by simp⟩⟩
  | k + 1, hok => by
    obtain ⟨G, hG, hgK, hG0, hz, hN, hS⟩ := clerk_same hl hT hi hT0 k (fun j hj => hok j (by omega))
    obtain ⟨h0, h9⟩ := okD_grp (hok k (by omega))
    obtain ⟨g, hg⟩ := Int.eq_ofNat_of_zero_le h0
    have hgg : (ds.getD k zD).2.2.2 = (g : Int) := hg
    by_cases hg0 : g = 0
    · subst hg0
      have hz0 : (ds.getD k zD).2.2.2 = 0 := hgg
      have e1 : gK ds (k + 1) = (G : Int) := by rw [gK, hg, if_pos (by simp), hgK]
      have e2 : partK ds k = false := by
        have : inSetB (gK ds k) (grD (ds.getD k zD)) = false := by rw [hgK, hg, inSetB_nat G 0 hG (by omega), hG0]
        rw [partK, this, Bool.and_false]
      have e3 : togK ds (k + 1) = togK ds k := by rw [togK, e2]; simp
      have e4 : grpK i own ds (k + 1) = grpK i own ds k := by
        rw [grpK]
        cases hq : grpK i own ds k with
        | none => rfl
        | some o => simp only; rw [if_pos hz0]
      refine ⟨G, hG, e1, hG0, by omega, ?_, ?_⟩
      · rw [e3, e4]; exact hN
      · rw [e3, e4]; exact hS
    · have hgne : (ds.getD k zD).2.2.2 ≠ 0 := by rw [hgg]; omega
      have g9 : g ≤ 9 := by rw [hg] at h9; omega
      have e1 : gK ds (k + 1) = ((G ||| 2 ^ g : Nat) : Int) := by
        rw [gK, hg, if_neg (by omega), hgK, gAdd_nat G g hG (by omega)]
      have e0 : (G ||| 2 ^ g).testBit 0 = false := by rw [or_bit, hG0]; simp [hg0]
      have inS : inSetB (gK ds k) (grD (ds.getD k zD)) = G.testBit g := by rw [hgK, hg, inSetB_nat G g hG (by omega)]
      refine ⟨G ||| 2 ^ g, or_lt G g hG (by omega), e1, e0, by omega, ?_, ?_⟩
      · intro hn
        rw [grpK] at hn
        cases hq : grpK i own ds k with
        | none =>
          rcases hN hq with h | h
          · left; rw [togK, h]; rfl
          · right
            intro hd
            refine h (fun b hb => hd b ?_)
            rw [or_bit, hb]; rfl
        | some o =>
          rw [hq] at hn
          simp only at hn
          rw [if_neg hgne, hgg, Int.toNat_natCast] at hn
          obtain ⟨ht, hd, hlen, ho⟩ := hS o hq
          split at hn
          · rename_i hc
            cases hTg : T.testBit g with
            | true =>
              right
              intro hd2
              have := hd2 g (by rw [or_bit]; simp)
              rw [hTg] at this
              cases this
            | false =>
              left
              have hown : own.getD g 0 = 0 := by
                apply Classical.byContradiction
                intro hne
                rw [(hT g (by omega)).1 hne] at hTg
                cases hTg
              cases hGg : G.testBit g with
              | false =>
                exfalso
                have := ho g (by omega)
                rw [hGg, hown] at this
                exact hc.1 (by simpa using this)
              | true =>
                have hk0 : k ≠ 0 := by
                  intro hk
                  rw [hz hk] at hGg
                  simp at hGg
                have hog := ho g (by omega)
                rw [hGg, if_pos rfl] at hog
                have hp : (ds.getD (k - 1) zD).2.2.2 ≠ (g : Int) := by
                  rcases hc.2 with h | h | h
                  · exact absurd hog h
                  · exact absurd h hk0
                  · exact h
                have : partK ds k = true := by
                  rw [partK, inS, hGg, hg]
                  have hp' : ((g : Int) != grD (ds.getD (k - 1) zD)) = true := by
                    rw [bne_iff_ne]; exact fun e => hp e.symm
                  rw [hp']
                  simp; omega
                rw [togK, this]; simp
          · cases hn
      · intro o' hn
        rw [grpK] at hn
        cases hq : grpK i own ds k with
        | none => rw [hq] at hn; cases hn
        | some o =>
          rw [hq] at hn
          simp only at hn
          rw [if_neg hgne, hgg, Int.toNat_natCast] at hn
          obtain ⟨ht, hd, hlen, ho⟩ := hS o hq
          split at hn
          · cases hn
          · rename_i hc
            simp only [Option.some.injEq] at hn
            subst hn
            have hog := ho g (by omega)
            have hTg : T.testBit g = false := by
              cases hTg : T.testBit g with
              | false => rfl
              | true =>
                exfalso
                have hGg : G.testBit g = false := by
                  cases hGg : G.testBit g with
                  | false => rfl
                  | true => rw [hd g hGg] at hTg; cases hTg
                rw [hGg] at hog
                simp only [Bool.false_eq_true, if_false] at hog
                exact hc ⟨by rw [hog]; exact (hT g (by omega)).2 hTg, .inl (by rw [hog]; exact hi g (by omega))⟩
            refine ⟨?_, ?_, by rw [List.length_set]; exact hlen, ?_⟩
            · have : partK ds k = false := by
                cases hp : partK ds k with
                | false => rfl
                | true =>
                  exfalso
                  rw [partK, inS, hg, Bool.and_eq_true, Bool.and_eq_true, decide_eq_true_eq, bne_iff_ne] at hp
                  obtain ⟨⟨hk, hne⟩, hGg⟩ := hp
                  rw [hGg, if_pos rfl] at hog
                  exact hc ⟨by rw [hog]; omega, .inr (.inr (fun e => hne e.symm))⟩
              rw [togK, ht, this]; rfl
            · intro b hb
              rw [or_bit, Bool.or_eq_true, decide_eq_true_eq] at hb
              rcases hb with hb | rfl
              · exact hd b hb
              · exact hTg
            · intro j hj
              rw [set_getD o g _ j (by omega), or_bit]
              by_cases e : g = j
              · subst e; simp
              · rw [if_neg e, ho j hj]; simp [e]
theorem work_same {dss : List (List Dd)} : ∀ n : Nat, (∀ i, i < n → okL (dss.getD i []) = true) → ∃ T : Nat, T < 4096 ∧ takW dss n = (T : Int) ∧ T.testBit 0 = false ∧
      (grpW dss n = none → rightsW dss n = false) ∧
      ∀ o, grpW dss n = some o → rightsW dss n = true ∧ o.length = 10 ∧ (∀ g, g < 10 → (o.getD g 0 ≠ 0 ↔ T.testBit g = true)) ∧ ∀ g, g < 10 → 0 ≤ o.getD g 0 ∧ o.getD g 0 ≤ (n : Int)
  | 0, _ => ⟨0, by omega, rfl, by simp, by simp [grpW], by
      intro o ho
      simp only [grpW, Option.some.injEq] at ho
      subst ho
      refine ⟨rfl, by simp, fun g hg => ?_, fun g hg => ?_⟩
      · rw [List.getD_eq_getElem?_getD, List.getElem?_replicate, if_pos hg]; simp
      · rw [List.getD_eq_getElem?_getD, List.getElem?_replicate, if_pos hg]; simp⟩
  | n + 1, hok => by
    obtain ⟨T, hT, htk, hT0, hN, hS⟩ := work_same n (fun i hi => hok i (by omega))
    have okn := hok n (by omega)
    simp only [okL, Bool.and_eq_true, decide_eq_true_eq] at okn
    have hall := okn.1
    have hok2 : ∀ j, j < (dss.getD n []).length → okD ((dss.getD n []).getD j zD) = true := fun j hj => all_get zD hall j hj
    obtain ⟨G0, hG0, hgK0, hG00, -⟩ := clerk_same (i := 0) (own := List.replicate 10 0) (T := 0) (ds := dss.getD n []) (by simp) (fun g hg => by rw [List.getD_eq_getElem?_getD, List.getElem?_replicate, if_pos hg]; simp) (fun g hg => by rw [List.getD_eq_getElem?_getD, List.getElem?_replicate, if_pos hg]; simp) (by simp) (dss.getD n []).length hok2
    have hor : takW dss (n + 1) = ((T ||| G0 : Nat) : Int) := by
      rw [takW, htk, gC, hgK0, i64_or_nat T G0 (by omega) (by omega)]
    have hand : bits .and .i64 (gC (dss.getD n [])) (takW dss n) = ((G0 &&& T : Nat) : Int) := by
      rw [gC, hgK0, htk, i64_and_nat G0 T (by omega) (by omega)]
    have hR : rightB (dss.getD n []) (takW dss n) = (togK (dss.getD n []) (dss.getD n []).length && decide (G0 &&& T = 0)) := by
      rw [rightB, hall, decide_eq_true okn.2, hand]
      simp only [Bool.true_and]
      congr 1
      rw [Bool.eq_iff_iff, beq_iff_eq, decide_eq_true_eq]
      omega
    refine ⟨T ||| G0, Nat.or_lt_two_pow (n := 12) hT hG0, hor, by rw [Nat.testBit_or, hT0, hG00]; rfl, ?_, ?_⟩
    · intro hn
      rw [grpW] at hn
      cases hq : grpW dss n with
      | none => rw [rightsW, hN hq]; rfl
      | some o =>
        rw [hq] at hn
        simp only at hn
        obtain ⟨hr, hl, hb, hle⟩ := hS o hq
        obtain ⟨G, hG, hgK, -, -, hN2, -⟩ := clerk_same (i := n) (own := o) (T := T) (ds := dss.getD n []) hl hb (fun g hg => by have := hle g hg; omega) hT0 (dss.getD n []).length hok2
        obtain rfl : G = G0 := by rw [hgK0] at hgK; omega
        rw [rightsW, hr, hR]
        rcases hN2 hn with h | h
        · rw [h]; rfl
        · rw [decide_eq_false (fun e => h ((dis_iff _ _).2 e))]; simp
    · intro o' hn
      rw [grpW] at hn
      cases hq : grpW dss n with
      | none => rw [hq] at hn; cases hn
      | some o =>
        rw [hq] at hn
        simp only at hn
        obtain ⟨hr, hl, hb, hle⟩ := hS o hq
        obtain ⟨G, hG, hgK, -, -, -, hS2⟩ := clerk_same (i := n) (own := o) (T := T) (ds := dss.getD n []) hl hb (fun g hg => by have := hle g hg; omega) hT0 (dss.getD n []).length hok2
        obtain rfl : G = G0 := by rw [hgK0] at hgK; omega
        obtain ⟨h1, h2, h3, h4⟩ := hS2 o' hn
        refine ⟨by rw [rightsW, hr, hR, h1, decide_eq_true ((dis_iff _ _).1 h2)]; rfl, h3, fun g hg => ?_, fun g hg => ?_⟩
        · rw [h4 g hg, Nat.testBit_or, Bool.or_eq_true]
          cases hGg : G.testBit g
          · simp only [Bool.false_eq_true, if_false, or_false]; exact hb g hg
          · simp only [if_true, or_true, iff_true]; omega
        · rw [h4 g hg]
          have := hle g hg
          split <;> omega
theorem rights_same {dss : List (List Dd)} (h : dss.all okL = true) : rightsW dss dss.length = grpB dss := by
  obtain ⟨T, -, -, -, hN, hS⟩ := work_same (dss := dss) dss.length (fun i hi => all_get [] h i hi)
  rw [grpB]
  cases hq : grpW dss dss.length with
  | none => rw [hN hq]; rfl
  | some o => rw [(hS o hq).1]; rfl
theorem rights_okL {dss : List (List Dd)} (h : rightsW dss dss.length = true) : dss.all okL = true := by
  refine all_of [] (fun i hi => ?_)
  cases hb : rightsW dss (i + 1) with
  | false => rw [rightsW_false hb _ hi] at h; cases h
  | true =>
    rw [rightsW, Bool.and_eq_true] at hb
    have := hb.2
    simp only [rightB, Bool.and_eq_true] at this
    rw [okL, this.1.1.2, Bool.true_and]
    exact this.1.1.1
theorem work_rights (dss : List (List Dd)) : workB dss = (decide (1 ≤ dss.length ∧ dss.length ≤ 3) && rightsW dss dss.length && decide (lenW dss ≤ 12) && decide (evW dss dss.length ≤ 6)) := by
  rw [workB]
  cases h : dss.all okL with
  | true =>
    rw [rights_same h]
    cases grpB dss <;> simp
  | false =>
    cases hr : rightsW dss dss.length with
    | false => simp
    | true => rw [rights_okL hr] at h; cases h
section
section
variable {P : Program} {md : Region.Mode} {ops : Array Oper} {Q : Exit → Act → World → Prop} {S : World → Prop}
theorem takeH (i d : Nat) {oi : Oper} {v : Value} {fuel : Nat} {listed : Array Bool} {a : Act} {w : World} (hi : ops[i]? = some oi) (hd : oi.dst = some d)
    (hs : Region.noSelect ops = true) (hf : Region.free md ops listed i = true) (hr : (Region.ready md ops listed).contains i = true)
    (hQ : ∀ c a w, Q (.panic c) (a.put (some d) v) w → Q (.panic c) a w) (hw : Region.wanted oi (yielded ops a.tmps) = true) (hy : ∀ w, S w → (execOp a.eval oi).run P w = .ok (.value v) w) (hS : S w)
    (h : wpAnyH P md ops Q S fuel (listed.setIfInBounds i true) (a.put (some d) v) w) : wpAnyH P md ops Q S (fuel + 1) listed a w := by
  rw [← hd] at hQ h
  exact wpAnyH_take hi hs hf hr hQ (Or.inl ⟨hw, hy⟩) hS h
theorem takeQ (i d : Nat) {oi : Oper} {v : Value} {fuel : Nat} {listed : Array Bool} {a : Act} {w : World}
    (hy : ∀ w, S w → (execOp a.eval oi).run P w = .ok (.value v) w) (h : wpAnyH P md ops Q S fuel (listed.setIfInBounds i true) (a.put (some d) v) w)
    (hi : ops[i]? = some oi := by rfl) (hd : oi.dst = some d := by rfl)
    (hs : Region.noSelect ops = true := by kernel_rfl) (hf : Region.free md ops listed i = true := by kernel_rfl) (hr : (Region.ready md ops listed).contains i = true := by kernel_rfl)
    (hQ : ∀ c a w, Q (.panic c) (a.put (some d) v) w → Q (.panic c) a w := by exact fun _ _ _ h => h) (hw : Region.wanted oi (yielded ops a.tmps) = true := by rfl) (hS : S w := by assumption) : wpAnyH P md ops Q S (fuel + 1) listed a w :=
  takeH i d hi hd hs hf hr hQ hw hy hS h
theorem skipH (i d : Nat) {oi : Oper} {fuel : Nat} {listed : Array Bool} {a : Act} {w : World} (hi : ops[i]? = some oi) (hd : oi.dst = some d)
    (hs : Region.noSelect ops = true) (hf : Region.free md ops listed i = true) (hr : (Region.ready md ops listed).contains i = true)
    (hQ : ∀ c a w, Q (.panic c) (a.put (some d) undef) w → Q (.panic c) a w) (hw : Region.wanted oi (yielded ops a.tmps) = false) (hS : S w)
    (h : wpAnyH P md ops Q S fuel (listed.setIfInBounds i true) (a.put (some d) undef) w) : wpAnyH P md ops Q S (fuel + 1) listed a w := by
  rw [← hd] at hQ h
  exact wpAnyH_take hi hs hf hr hQ (Or.inr ⟨hw, rfl⟩) hS h
end
end
def cE (e : Ev) : List Value := [.int .i64 e.1, .int .i64 e.2.1, .bool e.2.2.1, .int .i64 e.2.2.2.1, .int .i64 e.2.2.2.2.1, .int .i64 e.2.2.2.2.2]
theorem cE_len (e : Ev) : (cE e).length = 6 := rfl
theorem Try.infoE : (Try.prog.info? 104).map (fun i => (i.zero, i.size, i.bytes)) = some (some (.agg #[.int .i64 0, .int .i64 0, .bool false, .int .i64 0, .int .i64 0, .int .i64 0]), 6, 48) := by kernel_rfl
abbrev RdE (w : World) (v : Value) (es : List Ev) : Prop := RdT cE 6 w v es
abbrev AppE (w : World) (base : Nat) (v : Value) (es : List Ev) : Prop := AppT cE 104 6 w base v es
theorem atE {w : World} {b o : Nat} {x0 x1 : Int} {r : Bool} {x3 x4 x5 : Int} (h : AtT cE w b o (x0, x1, r, x3, x4, x5)) :
    w.cell? ⟨b, o, none⟩ = some (.int .i64 x0) ∧ w.cell? ⟨b, o + 1, none⟩ = some (.int .i64 x1) ∧ w.cell? ⟨b, o + 2, none⟩ = some (.bool r) ∧ w.cell? ⟨b, o + 3, none⟩ = some (.int .i64 x3) ∧ w.cell? ⟨b, o + 4, none⟩ = some (.int .i64 x4) ∧ w.cell? ⟨b, o + 5, none⟩ = some (.int .i64 x5) :=
  ⟨h 0 _ rfl, h 1 _ rfl, h 2 _ rfl, h 3 _ rfl, h 4 _ rfl, h 5 _ rfl⟩
theorem AppE.rd {w : World} {base : Nat} {v : Value} {es : List Ev} (h : AppE w base v es) : RdE w v es := AppT.rd cE_len h
theorem evs_get {es : List Ev} {i : Nat} (h : i < es.length) : es[i]? = some (es.getD i zE) := by
  rw [List.getD_eq_getElem?_getD, List.getElem?_eq_getElem h]; rfl
structure LP (w0 wr : World) (x : Value) (es : List Ev) (P : List (Nat × Obj)) : Prop where
  app : AppE wr w0.heap.size x es
  keep : Keep w0 wr
  held : ∀ n o, (n, o) ∈ P → x.ownBlock ≠ some n ∧ wr.heap[n]? = some o
theorem LP.more {w0 wr wr' : World} {x : Value} {es : List Ev} {P : List (Nat × Obj)} (h : LP w0 wr x es P) (k : Keep wr wr') : LP w0 wr' x es P :=
  ⟨h.app.keep k, h.keep.trans k, fun n o hn => ⟨(h.held n o hn).1, (Below.block k n (Array.getElem?_eq_some_iff.1 (h.held n o hn).2).1).trans (h.held n o hn).2⟩⟩
theorem LP.add {w0 wr : World} {x : Value} {es : List Ev} {P : List (Nat × Obj)} (h : LP w0 wr x es P) (n : Nat) (o : Obj) (hx : x.ownBlock ≠ some n) (ho : wr.heap[n]? = some o) : LP w0 wr x es ((n, o) :: P) :=
  ⟨h.app, h.keep, fun m q hm => by
    rcases List.mem_cons.1 hm with e | e
    · injection e with e1 e2; subst e1 e2; exact ⟨hx, ho⟩
    · exact h.held m q e⟩
theorem LP.new {w0 wr : World} {x : Value} {es : List Ev} {P : List (Nat × Obj)} (h : LP w0 wr x es P) (o : Obj) : LP w0 (wr.alloc o) x es ((wr.heap.size, o) :: P) :=
  (h.more ((Keep.refl wr).alloc o)).add _ _ (fun e => by have := (h.app.lt _ e).2; omega) (heap_alloc_new wr o)
theorem LP.later {w0 wr wr' : World} {x : Value} {es : List Ev} {P : List (Nat × Obj)} (h : LP w0 wr x es P) (k : Keep wr wr') {B : Nat} {o : Obj} (hB : wr.heap.size ≤ B) (ho : wr'.heap[B]? = some o) : LP w0 wr' x es ((B, o) :: P) :=
  (h.more k).add _ _ (fun e => by have := (h.app.lt _ e).2; omega) ho
theorem LP.less {w0 wr : World} {x : Value} {es : List Ev} {P Q : List (Nat × Obj)} (h : LP w0 wr x es P) (hs : ∀ y, y ∈ Q → y ∈ P) : LP w0 wr x es Q :=
  ⟨h.app, h.keep, fun n o hn => h.held n o (hs _ hn)⟩
theorem LP.hit {w0 wr w' : World} {x v' : Value} {es : List Ev} {P : List (Nat × Obj)} (h : LP w0 wr x es P) (e : Ev)
    (ho : w'.ownsRow w0.heap.size 104 6 v' (es.length + 1) (es.flatMap cE ++ cE e)) (hg : wr.grownBy w' x.ownBlock) (hb : v'.ownBlock = x.ownBlock ∨ v'.ownBlock = some wr.heap.size) : LP w0 w' v' (es ++ [e]) P := by
  refine ⟨appT_hit ho, h.keep.grown hg h.app.ge, fun n o hn => ?_⟩
  obtain ⟨h1, h2⟩ := h.held n o hn
  have hlt := (Array.getElem?_eq_some_iff.1 h2).1
  refine ⟨fun e => ?_, (hg.block n hlt (fun e => h1 e.symm)).trans h2⟩
  rcases hb with hb | hb
  · exact h1 (hb ▸ e)
  · rw [hb] at e; have := Option.some.inj e; omega
theorem LP.lt {w0 wr : World} {x : Value} {es : List Ev} {P : List (Nat × Obj)} (h : LP w0 wr x es P) {n : Nat} {o : Obj} (hn : (n, o) ∈ P) : n < wr.heap.size := (Array.getElem?_eq_some_iff.1 (h.held n o hn).2).1
theorem LP.cell {w0 wr : World} {x : Value} {es : List Ev} {P : List (Nat × Obj)} (h : LP w0 wr x es P) {n : Nat} {cs : Array Value} {t : TypeId} (hn : (n, .cells cs t) ∈ P) (i : Nat) : wr.cell? ⟨n, i, none⟩ = cs[i]? :=
  cell_of_row wr n i cs t (0, 0) (h.held n _ hn).2
theorem app_base {w : World} {base base' : Nat} {v : Value} {es : List Ev} (h : AppE w base v es) (hb : base' ≤ base) : AppE w base' v es := by
  refine ⟨h.1, ?_⟩
  rcases h.2 with h | ⟨g, cap, cur, hv, hg, rest⟩
  · exact .inl h
  · exact .inr ⟨g, cap, cur, hv, Nat.le_trans hb hg, rest⟩
abbrev eO (i k : Int) (r : Bool) (p v c : Int) : Obj := .cells #[.int .i64 i, .int .i64 k, .bool r, .int .i64 p, .int .i64 v, .int .i64 c] 104
theorem cE_oneP (e : Ev) : ∀ u ∈ cE e, u.oneCell' = true := by
  intro u hu
  simp only [cE, List.mem_cons, List.not_mem_nil, or_false] at hu
  rcases hu with rfl | rfl | rfl | rfl | rfl | rfl <;> rfl
theorem cE_newP (w : World) (n : Nat) (hn : w.heap.size = n) (i q : Int) (r : Bool) (pl vl c : Int) : ∀ j u, (cE (i, q, r, pl, vl, c))[j]? = some u → (w.alloc (eO i q r pl vl c)).cell? ((⟨n, 0, none⟩ : Addr).add j) = some u := by
  subst hn
  intro j u hj
  match j, hj with
  | 0, hj => simp [cE] at hj; subst hj; simp [Addr.add]
  | 1, hj => simp [cE] at hj; subst hj; simp [Addr.add]
  | 2, hj => simp [cE] at hj; subst hj; simp [Addr.add]
  | 3, hj => simp [cE] at hj; subst hj; simp [Addr.add]
  | 4, hj => simp [cE] at hj; subst hj; simp [Addr.add]
  | 5, hj => simp [cE] at hj; subst hj; simp [Addr.add]
def tstE (f : Ev → Bool) (es : List Ev) (k : Nat) : Bool := decide (k < es.length) && f (es.getD k zE)
def chK (f : Ev → Bool) (es : List Ev) : Nat → List Int
  | 0 => []
  | k + 1 => if tstE f es k = true then chK f es k ++ [(k : Int)] else chK f es k
theorem chK_min (f : Ev → Bool) (es : List Ev) : ∀ k, chK f es k = idxK f es (min k es.length)
  | 0 => by simp [chK, idxK]
  | k + 1 => by
    rw [chK, chK_min f es k]
    by_cases h : k < es.length
    · rw [show min (k + 1) es.length = k + 1 by omega, show min k es.length = k by omega, idxK]
      simp [tstE, h]
    · rw [show min (k + 1) es.length = min k es.length by omega]
      simp [tstE, h]
theorem chK_all (f : Ev → Bool) (es : List Ev) (k : Nat) (h : es.length ≤ k) : chK f es k = idxK f es es.length := by
  rw [chK_min, Nat.min_eq_right h]
theorem chK_len (f : Ev → Bool) (es : List Ev) (k : Nat) : (chK f es k).length ≤ k := by
  rw [chK_min]
  have := idxK_len f es (min k es.length)
  omega
theorem idxB_len (f : Ev → Bool) (es : List Ev) : (idxB f es).length ≤ 12 := by
  unfold idxB
  split
  · have := idxK_len f es es.length; omega
  · simp
structure Sys where
  n : Nat
  ck : Nat → Int
  pl : Nat → Nat
  rd : Nat → Bool
  cs : Nat → Int
  ex : Nat → Nat → Bool
structure AbsSt where
  X : Nat → Prop
  N : Int → List Nat
  R : Nat → List Nat
  F : Nat → Nat
  τ : Nat → Nat
def AbsSt.L (S : Sys) (s : AbsSt) (c : Int) (p : Nat) : List Nat := s.R p ++ (s.N c).filter (fun x => S.pl x == p)
def AbsSt.D (S : Sys) (s : AbsSt) (j : Nat) : Prop := s.X j ∧ j ∉ s.N (S.ck j)
def AbsSt.v (S : Sys) (s : AbsSt) (i : Nat) : Nat := if S.rd i = true then s.F i else i
abbrev Bef (L : List Nat) (x y : Nat) : Prop := [x, y].Sublist L
structure AInv (S : Sys) (s : AbsSt) (T : Nat) (z : Int) : Prop where
  beg : ∀ j, j < 3 → s.X j ∧ S.rd j = false ∧ S.pl j = j ∧ S.ck j = -1 ∧ s.τ j = 0 ∧ S.cs j = j
  lt : ∀ j, s.X j → j < S.n
  down : ∀ i j, s.X j → 3 ≤ i → i < j → S.ck i = S.ck j → s.X i
  note : ∀ c x, x ∈ s.N c → s.X x ∧ 3 ≤ x ∧ S.ck x = c ∧ S.rd x = false
  nord : ∀ c, (s.N c).Pairwise (· < ·)
  pend : ∀ c x j, x ∈ s.N c → s.X j → x < j → S.ck j = c → (S.rd j = true ∧ S.ex x j = true) ∨ j ∈ s.N c
  rows : ∀ p x, x ∈ s.R p ↔ s.D S x ∧ S.rd x = false ∧ S.pl x = p
  rnod : ∀ p, (s.R p).Nodup
  rord : ∀ p, (s.R p).Pairwise (fun x y => s.τ x ≤ s.τ y)
  tle : ∀ j, s.D S j → s.τ j ≤ T
  tpos : ∀ j, s.D S j → 3 ≤ j → 1 ≤ s.τ j
  same : ∀ i j, s.D S i → s.D S j → 3 ≤ i → 3 ≤ j → s.τ i = s.τ j → S.cs i = S.cs j
  mate : ∀ i j, s.D S i → s.D S j → 3 ≤ i → 3 ≤ j → S.cs i = S.cs j → s.τ i = s.τ j
  now : ∀ i, s.D S i → 3 ≤ i → (s.τ i = T ↔ S.cs i = z)
  kept : ∀ i j, s.D S i → s.D S j → 3 ≤ i → i < j → S.ck i = S.ck j → S.cs i ≠ S.cs j → S.ex i j = false → s.τ i < s.τ j
  src : ∀ r, s.X r → S.rd r = true → s.X (s.F r) ∧ S.rd (s.F r) = false ∧ S.pl (s.F r) = S.pl r ∧ ((3 ≤ s.F r ∧ S.ck (s.F r) = S.ck r) ∨ (s.D S (s.F r) ∧ s.τ (s.F r) ≤ s.τ r))
  agst : ∀ r w p, s.X r → S.rd r = true → Bef (s.R p) (s.F r) w → s.τ r ≤ s.τ w
  inL : ∀ i, s.X i → 3 ≤ i → s.v S i ∈ s.L S (S.ck i) (S.pl i)
  coh : ∀ i j, s.X i → s.X j → 3 ≤ i → i < j → S.ck i = S.ck j → S.pl i = S.pl j → s.v S i = s.v S j ∨ Bef (s.L S (S.ck i) (S.pl i)) (s.v S i) (s.v S j)
  cohw : ∀ i j, s.X i → s.X j → 3 ≤ i → i < j → S.ck i = S.ck j → S.pl i = S.pl j → S.rd i = true → S.rd j = false → s.F i ≠ j
structure Nxt (S : Sys) (s : AbsSt) (j : Nat) : Prop where
  three : 3 ≤ j
  lt : j < S.n
  new : ¬ s.X j
  all : ∀ i, 3 ≤ i → i < j → S.ck i = S.ck j → s.X i
  last : ∀ i, s.X i → 3 ≤ i → S.ck i = S.ck j → i < j
theorem bef_mem {L : List Nat} {x y : Nat} (h : Bef L x y) : x ∈ L ∧ y ∈ L := ⟨h.subset (by simp), h.subset (by simp)⟩
theorem bef_snoc {L : List Nat} {x w : Nat} (h : x ∈ L) : Bef (L ++ [w]) x w := by
  have h1 : [x].Sublist L := List.singleton_sublist.2 h
  exact h1.append (List.Sublist.refl [w])
theorem bef_last {L : List Nat} {x y : Nat} (hn : (L ++ [x]).Nodup) (h : Bef (L ++ [x]) x y) : False := by
  have h2 : ¬ x ∈ L := by
    rw [List.nodup_append] at hn
    intro hx
    exact hn.2.2 x hx x (by simp) rfl
  obtain ⟨l1, l2, e, s1, s2⟩ := List.sublist_append_iff.1 h
  cases l1 with
  | nil =>
    simp only [List.nil_append] at e
    rw [← e] at s2
    have := s2.length_le
    simp at this
  | cons a l1 =>
    simp only [List.cons_append, List.cons.injEq] at e
    rw [← e.1] at s1
    exact h2 (s1.subset (by simp))
theorem bef_snoc_old {L : List Nat} {x y w : Nat} (h : Bef (L ++ [w]) x y) (hy : y ≠ w) : Bef L x y := by
  obtain ⟨l1, l2, e, s1, s2⟩ := List.sublist_append_iff.1 h
  have hl2 : l2 = [] := by
    cases l2 with
    | nil => rfl
    | cons a l2 =>
      have hl := s2.length_le
      simp at hl
      subst hl
      have ha : a = w := by simpa using s2
      have : y = a := by
        have := congrArg List.getLast? e
        simpa using this
      exact absurd (this.trans ha) hy
  subst hl2
  rw [List.append_nil] at e
  rw [← e] at s1
  exact s1
theorem bef_of_last {L : List Nat} {x : Nat} (hx : x ∈ L) {l : Nat} (hl : L.getLast? = some l) : x = l ∨ Bef L x l := by
  obtain ⟨L', rfl⟩ := List.getLast?_eq_some_iff.1 hl
  rw [List.mem_append] at hx
  rcases hx with hx | hx
  · exact .inr (bef_snoc hx)
  · exact .inl (by simpa using hx)
end Go.Proofs.Ytgakfkjjkobpiaa
