/- Plain facts on a heap that is kept in a list: what goes up, what goes down, that the least stands first; and how those that may stand next wait in one (the program's way of sorting). Nothing of the program. -/
import Derived.Test.YtgclnfhkjnomaaaOrderPlain
namespace Go.Proofs.Ytgclnfhkjnomaaa
open Go.RowKit

def swapL (xs : List Int) (i j : Nat) : List Int := (xs.set i (xs.getD j 0)).set j (xs.getD i 0)
theorem swap_len (xs : List Int) (i j : Nat) : (swapL xs i j).length = xs.length := by simp [swapL]
theorem getD_swap {xs : List Int} {i j : Nat} (hi : i < xs.length) (hj : j < xs.length) (k : Nat) : (swapL xs i j).getD k 0 = if j = k then xs.getD i 0 else if i = k then xs.getD j 0 else xs.getD k 0 := by
  unfold swapL
  rw [getD_set _ j k _ (by simpa using hj), getD_set _ i k _ hi]
theorem swap_perm {xs : List Int} {i j : Nat} (hi : i < xs.length) (hj : j < xs.length) : (swapL xs i j).Perm xs := by
  have e1 : xs.getD i 0 = xs[i] := by rw [List.getD_eq_getElem?_getD, List.getElem?_eq_getElem hi]; rfl
  have e2 : xs.getD j 0 = xs[j] := by rw [List.getD_eq_getElem?_getD, List.getElem?_eq_getElem hj]; rfl
  unfold swapL
  rw [e1, e2]
  exact List.set_set_perm hi hj
/-- Of the first n none is less than the one above it. -/
def HeapN (ys : List Int) (n : Nat) : Prop := ∀ k, 0 < k → k < n → ys.getD ((k - 1) / 2) 0 ≤ ys.getD k 0
/-- The same, but for the one at j, which may be less than the one above it. -/
def UpAt (ys : List Int) (n j : Nat) : Prop := (∀ k, 0 < k → k < n → k ≠ j → ys.getD ((k - 1) / 2) 0 ≤ ys.getD k 0) ∧ ∀ c, 0 < c → c < n → (c - 1) / 2 = j → 0 < j → ys.getD ((j - 1) / 2) 0 ≤ ys.getD c 0
/-- The same, but for the one at i, which may be more than those below it. -/
def DownAt (ys : List Int) (n i : Nat) : Prop := (∀ k, 0 < k → k < n → (k - 1) / 2 ≠ i → ys.getD ((k - 1) / 2) 0 ≤ ys.getD k 0) ∧ ∀ c, 0 < c → c < n → (c - 1) / 2 = i → 0 < i → ys.getD ((i - 1) / 2) 0 ≤ ys.getD c 0
theorem up_stop {ys : List Int} {n j : Nat} (h : UpAt ys n j) (hs : 0 < j → ys.getD ((j - 1) / 2) 0 ≤ ys.getD j 0) : HeapN ys n := by
  intro k h0 hk
  by_cases e : k = j
  · subst e; exact hs h0
  · exact h.1 k h0 hk e
theorem up_step {ys : List Int} {j : Nat} (h : UpAt ys ys.length j) (h0 : 0 < j) (hj : j < ys.length) (hlt : ys.getD j 0 < ys.getD ((j - 1) / 2) 0) : UpAt (swapL ys ((j - 1) / 2) j) ys.length ((j - 1) / 2) := by
  have hp : (j - 1) / 2 < j := by omega
  have g := getD_swap (xs := ys) (i := (j - 1) / 2) (j := j) (by omega) hj
  refine ⟨fun k k0 kn kp => ?_, fun c c0 cn cp p0 => ?_⟩
  · rw [g, g]
    by_cases e : j = k
    · subst e
      rw [if_neg (by omega), if_pos rfl, if_pos rfl]; omega
    · by_cases e2 : (k - 1) / 2 = j
      · rw [if_pos e2.symm, if_neg e, if_neg (by omega)]
        exact h.2 k k0 kn e2 h0
      · by_cases e3 : (k - 1) / 2 = (j - 1) / 2
        · rw [if_neg (by omega), if_pos e3.symm, if_neg e, if_neg (by omega)]
          have := h.1 k k0 kn (by omega)
          rw [e3] at this; omega
        · rw [if_neg (by omega), if_neg (by omega), if_neg e, if_neg (by omega)]
          exact h.1 k k0 kn (by omega)
  · rw [g, g]
    have h1 := h.1 ((j - 1) / 2) p0 (by omega) (by omega)
    rw [if_neg (by omega), if_neg (by omega)]
    by_cases e : j = c
    · rw [if_pos e]; exact h1
    · rw [if_neg e, if_neg (by omega)]
      have := h.1 c c0 cn (by omega)
      rw [cp] at this; omega
theorem up_start {xs : List Int} (h : HeapN xs xs.length) (x : Int) : UpAt (xs ++ [x]) (xs ++ [x]).length xs.length := by
  have g : ∀ k, k < xs.length → (xs ++ [x]).getD k 0 = xs.getD k 0 := fun k hk => by
    rw [List.getD_eq_getElem?_getD, List.getElem?_append_left hk, ← List.getD_eq_getElem?_getD]
  refine ⟨fun k k0 kn kp => ?_, fun c c0 cn cp p0 => ?_⟩
  · rw [List.length_append, List.length_singleton] at kn
    rw [g k (by omega), g _ (by omega)]
    exact h k k0 (by omega)
  · rw [List.length_append, List.length_singleton] at cn
    omega
theorem down_step {ys : List Int} {n i j : Nat} (hn : n ≤ ys.length) (h : DownAt ys n i) (h0 : 0 < j) (hj : j < n) (hp : (j - 1) / 2 = i) (hlt : ys.getD j 0 < ys.getD i 0)
    (hl : ∀ c, 0 < c → c < n → (c - 1) / 2 = i → ys.getD j 0 ≤ ys.getD c 0) : DownAt (swapL ys i j) n j := by
  have g := getD_swap (xs := ys) (i := i) (j := j) (by omega) (by omega)
  refine ⟨fun k k0 kn kp => ?_, fun c c0 cn cp p0 => ?_⟩
  · rw [g, g]
    by_cases e : (k - 1) / 2 = i
    · rw [if_neg (by omega), if_pos e.symm]
      by_cases e2 : j = k
      · rw [if_pos e2]; omega
      · rw [if_neg e2, if_neg (by omega)]
        exact hl k k0 kn e
    · rw [if_neg (by omega), if_neg (by omega), if_neg (by omega)]
      by_cases e2 : i = k
      · rw [if_pos e2]
        subst e2
        exact h.2 j h0 hj hp k0
      · rw [if_neg e2]
        exact h.1 k k0 kn e
  · rw [g, g, hp, if_neg (by omega), if_pos rfl, if_neg (by omega), if_neg (by omega)]
    have := h.1 c c0 cn (by omega)
    rw [cp] at this; exact this
theorem down_stop {ys : List Int} {n i : Nat} (h : DownAt ys n i) (hl : ∀ c, 0 < c → c < n → (c - 1) / 2 = i → ys.getD i 0 ≤ ys.getD c 0) : HeapN ys n := by
  intro k h0 hk
  by_cases e : (k - 1) / 2 = i
  · rw [e]; exact hl k h0 hk e
  · exact h.1 k h0 hk e
theorem down_start {xs : List Int} {n : Nat} (hn : xs.length = n + 1) (h : HeapN xs xs.length) : DownAt (swapL xs 0 n) n 0 := by
  have g := getD_swap (xs := xs) (i := 0) (j := n) (by omega) (by omega)
  refine ⟨fun k k0 kn kp => ?_, fun c c0 cn cp p0 => by omega⟩
  rw [g, g, if_neg (by omega), if_neg (by omega), if_neg (by omega), if_neg (by omega)]
  exact h k k0 (by omega)
theorem heap_least {xs : List Int} (h : HeapN xs xs.length) (k : Nat) (hk : k < xs.length) : xs.getD 0 0 ≤ xs.getD k 0 := by
  induction k using Nat.strongRecOn with
  | ind k ih =>
    by_cases e : k = 0
    · subst e; omega
    · have := ih ((k - 1) / 2) (by omega) (by omega)
      have := h k (by omega) hk
      omega
/-- What a heap is when its first one has been taken: the last one in its place, gone down. -/
theorem heap_taken {xs ys : List Int} {n : Nat} (hn : xs.length = n + 1) (hy : ys.Perm (swapL xs 0 n)) (hl : ys.getD n 0 = xs.getD 0 0) (h : HeapN ys n) :
    HeapN (ys.take n) (ys.take n).length ∧ (ys.take n ++ [xs.getD 0 0]).Perm xs ∧ (ys.take n).length = n := by
  have hp := hy.trans (swap_perm (xs := xs) (i := 0) (j := n) (by omega) (by omega))
  have hlen : ys.length = n + 1 := by rw [hp.length_eq, hn]
  have e : ys = ys.take n ++ [xs.getD 0 0] := by
    rw [← hl, ← take_snoc ys n (by omega), ← hlen, List.take_length]
  have hlt : (ys.take n).length = n := by rw [List.length_take]; omega
  refine ⟨?_, ?_, hlt⟩
  · rw [hlt]
    intro k h0 hk
    have g : ∀ k, k < n → (ys.take n).getD k 0 = ys.getD k 0 := fun k hk => by
      rw [List.getD_eq_getElem?_getD, List.getElem?_take, if_pos hk, ← List.getD_eq_getElem?_getD]
    rw [g k hk, g _ (by omega)]
    exact h k h0 hk
  · rw [← e]; exact hp

/-! How the program sorts. -/
/-- Those that wait in q: each once, all below n, just those of which p holds. -/
structure Wait (n : Nat) (q : List Int) (p : Nat → Prop) : Prop where
  heap : HeapN q q.length
  once : q.Nodup
  low : ∀ x ∈ q, ∃ j : Nat, x = j ∧ j < n
  mem : ∀ j : Nat, j < n → ((j : Int) ∈ q ↔ p j)
theorem Wait.congr {n : Nat} {q : List Int} {p p' : Nat → Prop} (h : Wait n q p) (e : ∀ j, j < n → (p j ↔ p' j)) : Wait n q p' :=
  ⟨h.heap, h.once, h.low, fun j hj => (h.mem j hj).trans (e j hj)⟩
theorem Wait.nil (n : Nat) : Wait n [] (fun _ => False) :=
  ⟨fun k h0 hk => by simp at hk, List.nodup_nil, by simp, fun j _ => by simp⟩
theorem Wait.len {n : Nat} {q : List Int} {p : Nat → Prop} (h : Wait n q p) : q.length ≤ n := by
  have hsub : ∀ x ∈ q, x ∈ (List.range n).map (fun k : Nat => (k : Int)) := by
    intro x hx
    obtain ⟨k, rfl, hk⟩ := h.low x hx
    exact List.mem_map.2 ⟨k, List.mem_range.2 hk, rfl⟩
  have := nodup_sub_len h.once hsub
  rw [List.length_map, List.length_range] at this
  exact this
/-- One more is let in. -/
theorem Wait.letIn {n : Nat} {q q' : List Int} {p : Nat → Prop} (h : Wait n q p) {i : Nat} (hi : i < n) (hno : ¬ p i) (hh : HeapN q' q'.length) (hp : q'.Perm (q ++ [(i : Int)])) : Wait n q' (fun j => p j ∨ j = i) := by
  refine ⟨hh, ?_, fun x hx => ?_, fun j hj => ?_⟩
  · rw [hp.nodup_iff, List.nodup_append]
    refine ⟨h.once, by simp, fun a ha b hb => ?_⟩
    rw [List.mem_singleton] at hb
    subst hb
    intro e
    subst e
    exact hno ((h.mem i hi).1 ha)
  · rw [hp.mem_iff, List.mem_append, List.mem_singleton] at hx
    rcases hx with hx | hx
    · exact h.low x hx
    · exact ⟨i, hx, hi⟩
  · rw [hp.mem_iff, List.mem_append, List.mem_singleton, h.mem j hj]
    constructor
    · rintro (h | h)
      · exact .inl h
      · exact .inr (by omega)
    · rintro (h | h)
      · exact .inl h
      · exact .inr (by rw [h])
/-- The least is taken. -/
theorem Wait.least {n : Nat} {q q' : List Int} {p : Nat → Prop} (h : Wait n q p) (hq : 0 < q.length) (hh : HeapN q' q'.length) (hp : (q' ++ [q.getD 0 0]).Perm q) :
    ∃ i : Nat, i < n ∧ q.getD 0 0 = (i : Int) ∧ p i ∧ (∀ j, j < i → ¬ p j) ∧ Wait n q' (fun j => p j ∧ j ≠ i) := by
  obtain ⟨i, ei, hi⟩ := h.low _ (getD_mem hq)
  have hmi : p i := (h.mem i hi).1 (by rw [← ei]; exact getD_mem hq)
  refine ⟨i, hi, ei, hmi, fun j hj hpj => ?_, hh, ?_, fun x hx => ?_, fun j hj => ?_⟩
  · obtain ⟨k, hk, ek⟩ := at_of_mem ((h.mem j (by omega)).2 hpj)
    have := heap_least h.heap k hk
    rw [ek, ei] at this
    omega
  · have := (hp.nodup_iff).2 h.once
    rw [List.nodup_append] at this
    exact this.1
  · exact h.low x ((hp.mem_iff).1 (List.mem_append.2 (.inl hx)))
  · have hn := (hp.nodup_iff).2 h.once
    rw [List.nodup_append] at hn
    rw [ei] at hn hp
    have hm : (j : Int) ∈ q' ++ [(i : Int)] ↔ p j := (hp.mem_iff).trans (h.mem j hj)
    rw [List.mem_append, List.mem_singleton] at hm
    constructor
    · intro hj'
      refine ⟨hm.1 (.inl hj'), fun e => ?_⟩
      subst e
      exact hn.2.2 _ hj' _ (by simp) rfl
    · rintro ⟨h1, h2⟩
      rcases hm.2 h1 with h3 | h3
      · exact h3
      · exact absurd (by omega) h2
/-- What the program's sorting holds between two rounds. -/
structure Sorts (zs : List Int) (n k : Nat) (l : List Int) (d : Int) (q : List Int) : Prop where
  got : sortK zs k = some (l, d)
  wait : Wait n q (fun j => mayB zs d j = true)
theorem not_zero {n : Nat} {s : Int} (hs : okB n s = true) (hn : n ≤ 12) : notI s 0 = s := by
  have h := ok_not hs (ok_zero hn)
  exact ok_ext h.1 hs fun j _ => by rw [h.2 j, zero_bit]; cases inSetB s j <;> rfl
/-- The first that may stand are those to which no line goes. -/
theorem may_first {n : Nat} {zs : List Int} (hz : Web n zs) {j : Nat} (hj : j < n) : mayB zs 0 j = true ↔ (backL zs).getD j 0 = 0 := by
  unfold mayB
  rw [zero_bit, not_zero ((web_back hz).1.2.2 j hj) hz.1]
  simp
theorem sorts_pick {n : Nat} {zs : List Int} (hz : Web n zs) {d : Int} {i : Nat} (hi : i < n) (hm : mayB zs d i = true) (hl : ∀ j, j < i → ¬ mayB zs d j = true) : pick zs d zs.length = (i : Int) := by
  rcases pick_spec zs d zs.length with ⟨_, h⟩ | ⟨a, ha, e, hma, hla⟩
  · have := h i (by rw [hz.2.1]; exact hi)
    rw [this] at hm; cases hm
  · by_cases h1 : a < i
    · exact absurd hma (hl a h1)
    · by_cases h2 : i < a
      · rw [hla i h2] at hm; cases hm
      · rw [e, show a = i by omega]
theorem sorts_next {n k : Nat} {zs : List Int} (hz : Web n zs) {l : List Int} {d : Int} (h : sortK zs k = some (l, d)) {i : Nat} (hi : i < n) (hm : mayB zs d i = true) (hl : ∀ j, j < i → ¬ mayB zs d j = true) : sortK zs (k + 1) = some (l ++ [(i : Int)], gAdd d i) := by
  unfold sortK
  rw [h]
  simp only
  rw [sorts_pick hz hi hm hl, if_neg (by omega)]
/-- Who may stand when i stands, too: who could ahead of it, and those to which a line goes from it and whose others stand. -/
theorem may_next {n k : Nat} {zs : List Int} (hz : Web n zs) (hr : roundB zs = false) {l : List Int} {d : Int} (h : sortK zs k = some (l, d)) {i : Nat} (hi : i < n) (hm : mayB zs d i = true) {j : Nat} (hj : j < n) :
    mayB zs (gAdd d i) j = true ↔ (mayB zs d j = true ∧ j ≠ i) ∨ (line zs i j = true ∧ notI ((backL zs).getD j 0) (gAdd d i) = 0) := by
  have S := sort_stands hz k h
  have ha := ok_add S.ok hi
  have hmi := (may_iff hz S.ok hi).1 hm
  have hb : inSetB (gAdd d i) j = false → (notI ((backL zs).getD j 0) (gAdd d i) = 0 ↔ mayB zs (gAdd d i) j = true) := fun h => by
    unfold mayB; rw [h]; simp
  have out : line zs i j = true → inSetB (gAdd d i) j = false := fun hl => by
    rw [ha.2 j]
    have h1 : decide (i = j) = false := by
      rw [decide_eq_false_iff_not]
      intro e
      subst e
      have := (round_iff hz).2 ⟨i, hi, .one hl⟩
      rw [hr] at this; cases this
    rw [h1, Bool.or_false]
    cases hd : inSetB d j with
    | false => rfl
    | true =>
      exfalso
      obtain ⟨p, hp, e⟩ := at_of_mem ((S.mem j hj).1 hd)
      obtain ⟨q, _, h2, h3⟩ := at_take (S.ahead p hp j i e hi hl)
      have : inSetB d i = true := (S.mem i hi).2 (by rw [← h3]; exact getD_mem h2)
      rw [hmi.1] at this; cases this
  constructor
  · intro hj'
    have h1 := (may_iff hz ha.1 hj).1 hj'
    by_cases hl : line zs i j = true
    · exact .inr ⟨hl, (hb h1.1).2 hj'⟩
    · have h2 := h1.1
      rw [ha.2 j] at h2
      have hne : j ≠ i := by
        intro e
        subst e
        simp at h2
      refine .inl ⟨(may_iff hz S.ok hj).2 ⟨?_, fun a hA hla => ?_⟩, hne⟩
      · cases h3 : inSetB d j with
        | false => rfl
        | true => rw [h3] at h2; cases h2
      · have h3 := h1.2 a hA hla
        rw [ha.2 a, Bool.or_eq_true, decide_eq_true_eq] at h3
        rcases h3 with h3 | h3
        · exact h3
        · subst h3; exact absurd hla hl
  · rintro (⟨hj', hne⟩ | ⟨hl, h0⟩)
    · have h1 := (may_iff hz S.ok hj).1 hj'
      refine (may_iff hz ha.1 hj).2 ⟨?_, fun a hA hla => ?_⟩
      · rw [ha.2 j, h1.1, Bool.false_or, decide_eq_false_iff_not]
        exact fun e => hne e.symm
      · rw [ha.2 a, h1.2 a hA hla]; rfl
    · exact (hb (out hl)).1 h0
/-- To whom a line goes from i, which may stand, may not stand yet. -/
theorem may_not {n k : Nat} {zs : List Int} (hz : Web n zs) {l : List Int} {d : Int} (h : sortK zs k = some (l, d)) {i : Nat} (hi : i < n) (hm : mayB zs d i = true) {j : Nat} (hj : j < n) (hl : line zs i j = true) : ¬ mayB zs d j = true := by
  have S := sort_stands hz k h
  intro hmj
  have h1 := ((may_iff hz S.ok hj).1 hmj).2 i hi hl
  rw [((may_iff hz S.ok hi).1 hm).1] at h1; cases h1
/-- Who waits when the first m of those to which a line goes from i have been asked. -/
def nextP (zs : List Int) (d : Int) (i m : Nat) (j : Nat) : Prop := (mayB zs d j = true ∧ j ≠ i) ∨ ((j : Int) ∈ (mem (zs.getD i 0) 12).take m ∧ notI ((backL zs).getD j 0) (gAdd d i) = 0)
theorem nextP_step {zs : List Int} {d : Int} {i m : Nat} (hm : m < (mem (zs.getD i 0) 12).length) {a : Nat} (ea : (mem (zs.getD i 0) 12).getD m 0 = (a : Int)) (h0 : notI ((backL zs).getD a 0) (gAdd d i) = 0) (j : Nat) : (nextP zs d i m j ∨ j = a) ↔ nextP zs d i (m + 1) j := by
  unfold nextP
  rw [mem_take_step hm, ea]
  constructor
  · rintro ((h | ⟨h1, h2⟩) | h)
    · exact .inl h
    · exact .inr ⟨.inl h1, h2⟩
    · subst h; exact .inr ⟨.inr rfl, h0⟩
  · rintro (h | ⟨h1 | h1, h2⟩)
    · exact .inl (.inl h)
    · exact .inl (.inr ⟨h1, h2⟩)
    · exact .inr (by omega)
theorem nextP_skip {zs : List Int} {d : Int} {i m : Nat} (hm : m < (mem (zs.getD i 0) 12).length) {a : Nat} (ea : (mem (zs.getD i 0) 12).getD m 0 = (a : Int)) (h0 : notI ((backL zs).getD a 0) (gAdd d i) ≠ 0) (j : Nat) : nextP zs d i m j ↔ nextP zs d i (m + 1) j := by
  unfold nextP
  rw [mem_take_step hm, ea]
  constructor
  · rintro (h | ⟨h1, h2⟩)
    · exact .inl h
    · exact .inr ⟨.inl h1, h2⟩
  · rintro (h | ⟨h1 | h1, h2⟩)
    · exact .inl h
    · exact .inr ⟨h1, h2⟩
    · have : j = a := by omega
      subst this; exact absurd h2 h0
theorem nextP_zero {zs : List Int} {d : Int} {i j : Nat} : (mayB zs d j = true ∧ j ≠ i) ↔ nextP zs d i 0 j := by
  unfold nextP; simp
theorem nextP_new {n k : Nat} {zs : List Int} (hz : Web n zs) {l : List Int} {d : Int} (h : sortK zs k = some (l, d)) {i : Nat} (hi : i < n) (hmi : mayB zs d i = true) {m : Nat} (hm : m < (mem (zs.getD i 0) 12).length) {a : Nat} (ea : (mem (zs.getD i 0) 12).getD m 0 = (a : Int)) (ha : a < n) : ¬ nextP zs d i m a := by
  have hl : line zs i a = true := by
    have := getD_mem hm
    rw [ea, mem_iff] at this
    obtain ⟨b, _, e, hb⟩ := this
    have : a = b := by omega
    subst this; exact hb
  rintro (⟨h1, _⟩ | ⟨h1, _⟩)
  · exact may_not hz h hi hmi ha hl h1
  · obtain ⟨q, h2, h3, h4⟩ := at_take h1
    have hr := List.pairwise_iff_getElem.1 (mem_rises (zs.getD i 0) 12) q m h3 hm h2
    rw [List.getD_eq_getElem?_getD, List.getElem?_eq_getElem h3] at h4
    rw [List.getD_eq_getElem?_getD, List.getElem?_eq_getElem hm] at ea
    simp only [Option.getD_some] at h4 ea
    omega
theorem nextP_end {n k : Nat} {zs : List Int} (hz : Web n zs) (hr : roundB zs = false) {l : List Int} {d : Int} (h : sortK zs k = some (l, d)) {i : Nat} (hi : i < n) (hm : mayB zs d i = true) {j : Nat} (hj : j < n) : nextP zs d i (mem (zs.getD i 0) 12).length j ↔ mayB zs (gAdd d i) j = true := by
  rw [may_next hz hr h hi hm hj]
  unfold nextP
  rw [List.take_length, mem_iff]
  have e : (∃ k : Nat, k < 12 ∧ (j : Int) = k ∧ inSetB (zs.getD i 0) k = true) ↔ line zs i j = true := by
    constructor
    · rintro ⟨b, _, e, hb⟩
      have : j = b := by omega
      subst this; exact hb
    · intro hl
      exact ⟨j, by have := hz.1; omega, rfl, hl⟩
  rw [e]
theorem sorts_more {n k : Nat} {zs : List Int} (hz : Web n zs) {l : List Int} {d : Int} {q : List Int} (h : Sorts zs n k l d q) (hq : 0 < q.length) : k < n := by
  have S := sort_stands hz k h.got
  obtain ⟨i, ei, hi⟩ := h.wait.low _ (getD_mem hq)
  have hm : mayB zs d i = true := (h.wait.mem i hi).1 (by rw [← ei]; exact getD_mem hq)
  have h1 := ((may_iff hz S.ok hi).1 hm).1
  apply Classical.byContradiction
  intro hk
  have hle : l.length ≤ n := by
    have hsub : ∀ x ∈ l, x ∈ (List.range n).map (fun k : Nat => (k : Int)) := by
      intro x hx
      obtain ⟨k, rfl, hk⟩ := S.low x hx
      exact List.mem_map.2 ⟨k, List.mem_range.2 hk, rfl⟩
    have := nodup_sub_len S.once hsub
    rw [List.length_map, List.length_range] at this
    exact this
  have : (i : Int) ∈ l := all_in (by have := S.len; omega) S.low S.once hi
  rw [(S.mem i hi).2 this] at h1; cases h1
theorem sorts_end {n k : Nat} {zs : List Int} (hz : Web n zs) (hr : roundB zs = false) {l : List Int} {d : Int} {q : List Int} (h : Sorts zs n k l d q) (hq : q.length = 0) (hk : k ≤ n) : sortedL zs = l := by
  have S := sort_stands hz k h.got
  have hkn : k = n := by
    apply Classical.byContradiction
    intro hne
    obtain ⟨l2, d2, h2⟩ := sort_goes hz hr (k + 1) (by omega)
    unfold sortK at h2
    rw [h.got] at h2
    simp only at h2
    rcases pick_spec zs d zs.length with ⟨e, _⟩ | ⟨a, ha, e, hma, _⟩
    · rw [e, if_pos (by omega)] at h2; cases h2
    · rw [hz.2.1] at ha
      have := (h.wait.mem a ha).2 hma
      have := List.length_pos_of_mem this
      omega
  subst hkn
  unfold sortedL sortedO
  rw [if_pos hz.b, hz.2.1, h.got]
theorem sorts_le {n k : Nat} {zs : List Int} (hz : Web n zs) {l : List Int} {d : Int} (h : sortK zs k = some (l, d)) : k ≤ 12 := by
  have S := sort_stands hz k h
  have hsub : ∀ x ∈ l, x ∈ (List.range n).map (fun k : Nat => (k : Int)) := by
    intro x hx
    obtain ⟨k, rfl, hk⟩ := S.low x hx
    exact List.mem_map.2 ⟨k, List.mem_range.2 hk, rfl⟩
  have := nodup_sub_len S.once hsub
  rw [List.length_map, List.length_range, S.len] at this
  have := hz.1
  omega
end Go.Proofs.Ytgclnfhkjnomaaa
