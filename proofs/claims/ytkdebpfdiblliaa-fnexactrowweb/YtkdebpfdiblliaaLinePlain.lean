/- Plain mathematics of webs that are filled, or thinned, line by line by a test; the lines behind one another, and those at one place. -/
import Derived.Test.YtkdebpfdiblliaaMA
namespace Go.Proofs.Ytkdebpfdiblliaa
open Go.RowKit

def addIn (p : Nat → Nat → Bool) (i : Nat) (st : List Int) : Nat → List Int
  | 0 => st
  | k + 1 => if p i k = true then (addIn p i st k).set i (gAdd ((addIn p i st k).getD i 0) k) else addIn p i st k
def addAll (p : Nat → Nat → Bool) (n : Nat) : Nat → List Int
  | 0 => List.replicate n 0
  | i + 1 => addIn p i (addAll p n i) n
def bitI (k : Nat) : Int := wrap64 (2 ^ (k : Int).toNat)
def offIn (p : Nat → Nat → Bool) (i : Nat) (st : List Int) : Nat → List Int
  | 0 => st
  | k + 1 => if p i k = true then (offIn p i st k).set i (notI ((offIn p i st k).getD i 0) (bitI k)) else offIn p i st k
def offAll (p : Nat → Nat → Bool) (n : Nat) (st : List Int) : Nat → List Int
  | 0 => st
  | i + 1 => offIn p i (offAll p n st i) n
theorem addIn_hit {p : Nat → Nat → Bool} {i k : Nat} (st : List Int) (h : p i k = true) : addIn p i st (k + 1) = (addIn p i st k).set i (gAdd ((addIn p i st k).getD i 0) k) := if_pos h
theorem addIn_miss {p : Nat → Nat → Bool} {i k : Nat} (st : List Int) (h : p i k = false) : addIn p i st (k + 1) = addIn p i st k := if_neg (by simp [h])
theorem offIn_hit {p : Nat → Nat → Bool} {i k : Nat} (st : List Int) (h : p i k = true) : offIn p i st (k + 1) = (offIn p i st k).set i (notI ((offIn p i st k).getD i 0) (bitI k)) := if_pos h
theorem offIn_miss {p : Nat → Nat → Bool} {i k : Nat} (st : List Int) (h : p i k = false) : offIn p i st (k + 1) = offIn p i st k := if_neg (by simp [h])
/-- As long as the test says no, nothing is filled. -/
theorem addIn_none {p : Nat → Nat → Bool} {i : Nat} (st : List Int) : ∀ k : Nat, (∀ j, j < k → p i j = false) → addIn p i st k = st
  | 0, _ => rfl
  | k + 1, h => by rw [addIn_miss st (h k (by omega))]; exact addIn_none st k (fun j hj => h j (by omega))
theorem offIn_none {p : Nat → Nat → Bool} {i : Nat} (st : List Int) : ∀ k : Nat, (∀ j, j < k → p i j = false) → offIn p i st k = st
  | 0, _ => rfl
  | k + 1, h => by rw [offIn_miss st (h k (by omega))]; exact offIn_none st k (fun j hj => h j (by omega))
theorem bitI_add : ∀ k : Nat, k < 12 → bitI k = gAdd 0 k := by decide +kernel
theorem ok_bit {n k : Nat} (hn : n ≤ 12) (hk : k < n) : okB n (bitI k) = true ∧ ∀ j : Nat, inSetB (bitI k) j = decide (k = j) := by
  rw [bitI_add k (by omega)]
  have h := ok_add (ok_zero hn) hk
  exact ⟨h.1, fun j => by rw [h.2 j, zero_bit]; simp⟩
theorem web_addIn {p : Nat → Nat → Bool} {n i : Nat} {st : List Int} (hi : i < n) (hst : Web n st) : ∀ m : Nat, m ≤ n →
    Web n (addIn p i st m) ∧ ∀ a j : Nat, a < n → line (addIn p i st m) a j = (line st a j || (decide (i = a) && decide (j < m) && p i j))
  | 0, _ => ⟨hst, fun a j _ => by simp [addIn]⟩
  | m + 1, hm => by
    have ih := web_addIn hi hst m (by omega) (p := p)
    cases hp : p i m with
    | false =>
      rw [addIn_miss st hp]
      refine ⟨ih.1, fun a j ha => ?_⟩
      rw [ih.2 a j ha]
      by_cases e : j = m
      · subst e; simp [hp]
      · have d : decide (j < m + 1) = decide (j < m) := decide_eq_decide.2 (by omega)
        rw [d]
    | true =>
      rw [addIn_hit st hp]
      have ha := ok_add (ih.1.2.2 i hi) (show m < n by omega)
      refine ⟨ih.1.set ha.1, fun a j haa => ?_⟩
      have e1 := ih.2 a j haa
      unfold line at e1 ⊢
      rw [getD_set _ _ _ _ (by rw [ih.1.2.1]; exact hi)]
      by_cases e : i = a
      · subst e
        simp only [if_true]
        rw [ha.2 j, e1]
        by_cases e2 : m = j
        · subst e2; simp [hp]
        · have d : decide (j < m + 1) = decide (j < m) := decide_eq_decide.2 (by omega)
          rw [d]; simp [e2]
      · simp only [e, if_false]; rw [e1]; simp [e]
theorem web_addAll {p : Nat → Nat → Bool} {n : Nat} (hn : n ≤ 12) : ∀ m : Nat, m ≤ n →
    Web n (addAll p n m) ∧ ∀ a j : Nat, a < n → line (addAll p n m) a j = (decide (a < m) && decide (j < n) && p a j)
  | 0, _ => ⟨Web.zero hn, fun a j _ => by unfold addAll; rw [line_zero]; simp⟩
  | m + 1, hm => by
    have ih := web_addAll hn m (by omega) (p := p)
    have h1 := web_addIn (p := p) (show m < n by omega) ih.1 n (Nat.le_refl _)
    refine ⟨h1.1, fun a j ha => ?_⟩
    show line (addIn p m (addAll p n m) n) a j = _
    rw [h1.2 a j ha, ih.2 a j ha]
    by_cases e : m = a
    · subst e; simp
    · have d : decide (a < m + 1) = decide (a < m) := decide_eq_decide.2 (by omega)
      rw [d]; simp [e]
theorem web_offIn {p : Nat → Nat → Bool} {n i : Nat} {st : List Int} (hi : i < n) (hst : Web n st) : ∀ m : Nat, m ≤ n →
    Web n (offIn p i st m) ∧ ∀ a j : Nat, a < n → line (offIn p i st m) a j = (line st a j && !(decide (i = a) && decide (j < m) && p i j))
  | 0, _ => ⟨hst, fun a j _ => by simp [offIn]⟩
  | m + 1, hm => by
    have ih := web_offIn hi hst m (by omega) (p := p)
    cases hp : p i m with
    | false =>
      rw [offIn_miss st hp]
      refine ⟨ih.1, fun a j ha => ?_⟩
      rw [ih.2 a j ha]
      by_cases e : j = m
      · subst e; simp [hp]
      · have d : decide (j < m + 1) = decide (j < m) := decide_eq_decide.2 (by omega)
        rw [d]
    | true =>
      rw [offIn_hit st hp]
      have hb := ok_bit hst.1 (show m < n by omega)
      have ha := ok_not (ih.1.2.2 i hi) hb.1
      refine ⟨ih.1.set ha.1, fun a j haa => ?_⟩
      have e1 := ih.2 a j haa
      unfold line at e1 ⊢
      rw [getD_set _ _ _ _ (by rw [ih.1.2.1]; exact hi)]
      by_cases e : i = a
      · subst e
        simp only [if_true]
        rw [ha.2 j, e1, hb.2 j]
        by_cases e2 : m = j
        · subst e2; simp [hp]
        · have d : decide (j < m + 1) = decide (j < m) := decide_eq_decide.2 (by omega)
          rw [d]; simp [e2]
      · simp only [e, if_false]; rw [e1]; simp [e]
theorem web_offAll {p : Nat → Nat → Bool} {n : Nat} {st : List Int} (hst : Web n st) : ∀ m : Nat, m ≤ n →
    Web n (offAll p n st m) ∧ ∀ a j : Nat, a < n → line (offAll p n st m) a j = (line st a j && !(decide (a < m) && decide (j < n) && p a j))
  | 0, _ => ⟨hst, fun a j _ => by simp [offAll]⟩
  | m + 1, hm => by
    have ih := web_offAll hst m (by omega) (p := p)
    have h1 := web_offIn (p := p) (show m < n by omega) ih.1 n (Nat.le_refl _)
    refine ⟨h1.1, fun a j ha => ?_⟩
    show line (offIn p m (offAll p n st m) n) a j = _
    rw [h1.2 a j ha, ih.2 a j ha]
    by_cases e : m = a
    · subst e; simp
    · have d : decide (a < m + 1) = decide (a < m) := decide_eq_decide.2 (by omega)
      rw [d]; simp [e]
/-- Does event k stand behind event i? -/
def behP (es : List Ev) (i k : Nat) : Bool := decide (i < k) && ((decide (i < 3) && decide (3 ≤ k)) || (decide (3 ≤ i) && ((es.getD i zE).1 == (es.getD k zE).1)))
def behL (es : List Ev) : List Int := addAll (behP es) es.length es.length
/-- Are they at two places? -/
def plcP (es : List Ev) (i k : Nat) : Bool := (es.getD i zE).2.2.2.1 != (es.getD k zE).2.2.2.1
def plcL (es : List Ev) : List Int := offAll (plcP es) es.length (behL es) es.length
theorem behP_up {es : List Ev} {i j : Nat} (h : j ≤ i) : behP es i j = false := by unfold behP; simp; omega
theorem beh_line {es : List Ev} (h : es.length ≤ 12) : Web es.length (behL es) ∧ ∀ a j : Nat, a < es.length → line (behL es) a j = (decide (j < es.length) && behP es a j) := by
  have h1 := web_addAll (p := behP es) h es.length (Nat.le_refl _)
  exact ⟨h1.1, fun a j ha => by unfold behL; rw [h1.2 a j ha]; simp [ha]⟩
theorem plc_line {es : List Ev} (h : es.length ≤ 12) : Web es.length (plcL es) ∧ ∀ a j : Nat, a < es.length → line (plcL es) a j = (decide (j < es.length) && behP es a j && !plcP es a j) := by
  have h1 := beh_line h
  have h2 := web_offAll (p := plcP es) h1.1 es.length (Nat.le_refl _)
  refine ⟨h2.1, fun a j ha => ?_⟩
  unfold plcL
  rw [h2.2 a j ha, h1.2 a j ha]
  by_cases hj : j < es.length
  · simp [ha, hj]
  · simp [hj]
end Go.Proofs.Ytkdebpfdiblliaa
