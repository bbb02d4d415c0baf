/- Plain mathematics of events: their numbers by a test, rising; each one is a read or a write to one of three places. -/
import Derived.Test.YtabafnfadophhaaEventPlain
namespace Go.Proofs.Ytabafnfadophhaa

def rdE (e : Ev) : Bool := e.2.2.1
def toE (p : Int) (e : Ev) : Bool := !e.2.2.1 && (e.2.2.2.1 == p)
/-- The numbers of those of the first k that pass the test. -/
def idxK (f : Ev → Bool) (l : List Ev) : Nat → List Int
  | 0 => []
  | k + 1 => if f (l.getD k zE) = true then idxK f l k ++ [(k : Int)] else idxK f l k
def idxB (f : Ev → Bool) (l : List Ev) : List Int := if l.length ≤ 12 then idxK f l l.length else []
def clsB (l : List Ev) : List Int := if l.length ≤ 12 then l.map csE else []
theorem idxK_len (f : Ev → Bool) (l : List Ev) : ∀ k : Nat, (idxK f l k).length ≤ k
  | 0 => by simp [idxK]
  | k + 1 => by
    have ih := idxK_len f l k
    rw [idxK]
    split
    · simp; omega
    · omega
theorem idxK_lt (f : Ev → Bool) (l : List Ev) : ∀ (k : Nat) (x : Int), x ∈ idxK f l k → 0 ≤ x ∧ x < (k : Int)
  | 0, x, h => by simp [idxK] at h
  | k + 1, x, h => by
    rw [idxK] at h
    split at h
    · rcases List.mem_append.1 h with h | h
      · have := idxK_lt f l k x h; omega
      · simp at h; omega
    · have := idxK_lt f l k x h; omega
theorem idxK_rises (f : Ev → Bool) (l : List Ev) : ∀ k : Nat, (idxK f l k).Pairwise (· < ·)
  | 0 => by simp [idxK]
  | k + 1 => by
    have ih := idxK_rises f l k
    rw [idxK]
    split
    · rw [List.pairwise_append]
      refine ⟨ih, by simp, fun a ha b hb => ?_⟩
      simp at hb
      have := idxK_lt f l k a ha
      omega
    · exact ih
theorem idxK_pre (f : Ev → Bool) (l : List Ev) (k : Nat) : ∀ n : Nat, k ≤ n → ∃ t, idxK f l n = idxK f l k ++ t
  | 0, h => by
    obtain rfl : k = 0 := by omega
    exact ⟨[], by simp⟩
  | n + 1, h => by
    by_cases e : k = n + 1
    · subst e; exact ⟨[], by simp⟩
    · obtain ⟨t, ht⟩ := idxK_pre f l k n (by omega)
      rw [idxK]
      split
      · exact ⟨t ++ [(n : Int)], by rw [ht, List.append_assoc]⟩
      · exact ⟨t, ht⟩
/-- Each is a read or a write to one of the three places. -/
theorem idx_sum {l : List Ev} : ∀ k : Nat, (∀ j, j < k → 0 ≤ (l.getD j zE).2.2.2.1 ∧ (l.getD j zE).2.2.2.1 ≤ 2) → (idxK rdE l k).length + (idxK (toE 0) l k).length + (idxK (toE 1) l k).length + (idxK (toE 2) l k).length = k
  | 0, _ => by simp [idxK]
  | k + 1, h => by
    have ih := idx_sum (l := l) k (fun j hj => h j (by omega))
    have hp := h k (by omega)
    obtain ⟨e, he⟩ : ∃ e, e = l.getD k zE := ⟨_, rfl⟩
    rw [← he] at hp
    simp only [idxK, ← he]
    clear he
    obtain ⟨a, b, r, p, v, c⟩ := e
    simp only at hp
    cases r
    · have hr : rdE (a, b, false, p, v, c) = false := rfl
      have : p = 0 ∨ p = 1 ∨ p = 2 := by omega
      rcases this with rfl | rfl | rfl
      · have t0 : toE 0 (a, b, false, 0, v, c) = true := rfl
        have t1 : toE 1 (a, b, false, 0, v, c) = false := rfl
        have t2 : toE 2 (a, b, false, 0, v, c) = false := rfl
        simp only [hr, t0, t1, t2, if_true, Bool.false_eq_true, if_false, List.length_append, List.length_cons, List.length_nil]
        omega
      · have t0 : toE 0 (a, b, false, 1, v, c) = false := rfl
        have t1 : toE 1 (a, b, false, 1, v, c) = true := rfl
        have t2 : toE 2 (a, b, false, 1, v, c) = false := rfl
        simp only [hr, t0, t1, t2, if_true, Bool.false_eq_true, if_false, List.length_append, List.length_cons, List.length_nil]
        omega
      · have t0 : toE 0 (a, b, false, 2, v, c) = false := rfl
        have t1 : toE 1 (a, b, false, 2, v, c) = false := rfl
        have t2 : toE 2 (a, b, false, 2, v, c) = true := rfl
        simp only [hr, t0, t1, t2, if_true, Bool.false_eq_true, if_false, List.length_append, List.length_cons, List.length_nil]
        omega
    · have hr : rdE (a, b, true, p, v, c) = true := rfl
      have t : ∀ q, toE q (a, b, true, p, v, c) = false := fun _ => rfl
      simp only [hr, t, if_true, Bool.false_eq_true, if_false, List.length_append, List.length_cons, List.length_nil]
      omega
theorem beg_get {l t : List Ev} (h : l = evBeg ++ t) : l.getD 0 zE = (-1, -1, false, 0, 0, 0) ∧ l.getD 1 zE = (-1, -1, false, 1, 0, 1) ∧ l.getD 2 zE = (-1, -1, false, 2, 0, 2) := by
  subst h
  exact ⟨rfl, rfl, rfl⟩
theorem idx_first {l t : List Ev} (h : l = evBeg ++ t) (p : Nat) (hp : p < 3) : ∃ r, idxK (toE (p : Int)) l l.length = (p : Int) :: r := by
  obtain ⟨h0, h1, h2⟩ := beg_get h
  have hl : 3 ≤ l.length := by rw [h]; simp [evBeg]
  obtain ⟨r, hr⟩ := idxK_pre (toE (p : Int)) l 3 l.length hl
  have e : ∃ q, idxK (toE (p : Int)) l 3 = (p : Int) :: q := by
    have : p = 0 ∨ p = 1 ∨ p = 2 := by omega
    simp only [idxK, h0, h1, h2, toE]
    rcases this with rfl | rfl | rfl
    · exact ⟨[], by simp⟩
    · exact ⟨[], by simp⟩
    · exact ⟨[], by simp⟩
  obtain ⟨q, hq⟩ := e
  exact ⟨q ++ r, by rw [hr, hq]; rfl⟩
theorem good_place {dss : List (List Dd)} {out : List Ev} {j : Nat} (hok : ∀ i, i < dss.length → okL (dss.getD i []) = true) (h : GoodE dss out j) : 0 ≤ (out.getD j zE).2.2.2.1 ∧ (out.getD j zE).2.2.2.1 ≤ 2 := by
  obtain ⟨i, k, c, rd, vl, h1, h2, h3, _⟩ := h
  have hi := hok i h2
  simp only [okL, Bool.and_eq_true, decide_eq_true_eq] at hi
  have := okD_restE (all_get zD hi.1 k h3)
  rw [List.getD_eq_getElem?_getD, h1]
  exact ⟨this.1, this.2.1⟩
/-- All that the law on events asks of a work, in numbers. -/
theorem events_law {dss : List (List Dd)} (h : workB dss = true) : (evsW dss dss.length).length ≤ 12 ∧ ((evsW dss dss.length).length : Int) = 3 + evW dss dss.length ∧
    (idxK rdE (evsW dss dss.length) (evsW dss dss.length).length).length + (idxK (toE 0) (evsW dss dss.length) (evsW dss dss.length).length).length + (idxK (toE 1) (evsW dss dss.length) (evsW dss dss.length).length).length + (idxK (toE 2) (evsW dss dss.length) (evsW dss dss.length).length).length = (evsW dss dss.length).length ∧
    (∀ p : Nat, p < 3 → ∃ r, idxK (toE (p : Int)) (evsW dss dss.length) (evsW dss dss.length).length = (p : Int) :: r) ∧ ∀ j, 3 ≤ j → j < (evsW dss dss.length).length → GoodE dss (evsW dss dss.length) j := by
  simp only [workB, Bool.and_eq_true, decide_eq_true_eq] at h
  obtain ⟨⟨⟨⟨h1, h2⟩, h3⟩, h4⟩, _⟩ := h
  have hok : ∀ i, i < dss.length → okL (dss.getD i []) = true := fun i hi => all_get [] h2 i hi
  have hl := evsW_len hok dss.length (Nat.le_refl _)
  obtain ⟨⟨t, ht⟩, hg⟩ := evs_good hok dss.length (Nat.le_refl _)
  refine ⟨by omega, hl, idx_sum _ (fun j hj => ?_), fun p hp => idx_first ht p hp, hg⟩
  by_cases hj3 : 3 ≤ j
  · exact good_place hok (hg j hj3 hj)
  · obtain ⟨b0, b1, b2⟩ := beg_get ht
    have : j = 0 ∨ j = 1 ∨ j = 2 := by omega
    rcases this with rfl | rfl | rfl
    · rw [b0]; decide
    · rw [b1]; decide
    · rw [b2]; decide
end Go.Proofs.Ytabafnfadophhaa
