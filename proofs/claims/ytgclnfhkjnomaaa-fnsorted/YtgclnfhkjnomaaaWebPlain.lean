/- Plain facts on webs as lists of numbers: which lists are webs, and what each function of chapter 2 answers, said by recursion; nothing of the program. -/
import Derived.Test.YtgclnfhkjnomaaaSetMath
namespace Go.Proofs.Ytgclnfhkjnomaaa
open Go.RowKit

/-- Is the list a web? -/
def webB (zs : List Int) : Bool := zs.all (okB zs.length)
/-- Are they two webs, as many? -/
def twoB (a b : List Int) : Bool := decide (a.length = b.length) && webB a && webB b
/-- Sets mixed place by place. -/
def mixL (f : Int → Int → Int) (a b : List Int) : List Int := if twoB a b = true then List.zipWith f a b else []
def orI (a b : Int) : Int := bits .or .i64 a b
def andI (a b : Int) : Int := bits .and .i64 a b
def notI (a b : Int) : Int := bits .andNot .i64 a b
/-- Where one comes by the first k, from those in x along b. -/
def thenS (x : Int) (b : List Int) : Nat → Int
  | 0 => 0
  | k + 1 => if inSetB x k = true then orI (thenS x b k) (b.getD k 0) else thenS x b k
def thenL (a b : List Int) : List Int := if twoB a b = true then a.map (fun x => thenS x b 12) else []
/-- The first k of x lead back to i. -/
def backIn (i : Nat) (x : Int) (st : List Int) : Nat → List Int
  | 0 => st
  | k + 1 => if inSetB x k = true then (backIn i x st k).set k (gAdd ((backIn i x st k).getD k 0) i) else backIn i x st k
def backAll (zs : List Int) : Nat → List Int
  | 0 => List.replicate zs.length 0
  | i + 1 => backIn i (zs.getD i 0) (backAll zs i) 12
def backL (zs : List Int) : List Int := if webB zs = true then backAll zs zs.length else []
/-- The first i may pass k. -/
def wayIn (k : Nat) (st : List Int) : Nat → List Int
  | 0 => st
  | i + 1 => if inSetB ((wayIn k st i).getD i 0) k = true then (wayIn k st i).set i (orI ((wayIn k st i).getD i 0) ((wayIn k st i).getD k 0)) else wayIn k st i
def wayAll (zs : List Int) : Nat → List Int
  | 0 => zs
  | k + 1 => wayIn k (wayAll zs k) zs.length
def waysL (zs : List Int) : List Int := if webB zs = true then wayAll zs zs.length else []

theorem getD_mem {zs : List Int} {i : Nat} (h : i < zs.length) : zs.getD i 0 ∈ zs := by
  rw [List.getD_eq_getElem?_getD, List.getElem?_eq_getElem h]; exact List.getElem_mem h
theorem webB_all {zs : List Int} (h : ∀ i, i < zs.length → okB zs.length (zs.getD i 0) = true) : webB zs = true := by
  unfold webB
  rw [List.all_eq_true]
  intro x hx
  obtain ⟨i, hi, rfl⟩ := List.getElem_of_mem hx
  have := h i hi
  rwa [List.getD_eq_getElem?_getD, List.getElem?_eq_getElem hi] at this
theorem webB_get {zs : List Int} (h : webB zs = true) {i : Nat} (hi : i < zs.length) : okB zs.length (zs.getD i 0) = true := by
  unfold webB at h
  rw [List.all_eq_true] at h
  exact h _ (getD_mem hi)
theorem webB_bad {zs : List Int} {i : Nat} (hi : i < zs.length) (h : okB zs.length (zs.getD i 0) = false) : webB zs = false := by
  cases hw : webB zs with
  | false => rfl
  | true => rw [webB_get hw hi] at h; cases h
theorem okB_iff {n s : Int} : okB n s = true ↔ (0 ≤ n ∧ n ≤ 12) ∧ 0 ≤ s ∧ s < 2 ^ n.toNat := by unfold okB; rw [decide_eq_true_eq]
theorem webB_len {zs : List Int} (h : webB zs = true) : zs.length ≤ 12 := by
  by_cases h0 : zs.length = 0
  · omega
  · have := okB_iff.1 (webB_get h (i := 0) (by omega)); omega
theorem okB_range {n s : Int} (h : okB n s = true) : 0 ≤ s ∧ s ≤ 4095 := by
  have h1 := okB_iff.1 h
  have := pow_le12 n.toNat (by omega)
  omega
theorem twoB_iff {a b : List Int} : twoB a b = true ↔ a.length = b.length ∧ webB a = true ∧ webB b = true := by
  unfold twoB; rw [Bool.and_eq_true, Bool.and_eq_true, decide_eq_true_eq, and_assoc]
theorem inSetB_bit {s : Int} {k : Nat} (h : 0 ≤ s ∧ s ≤ 4095) (hk : k < 12) : inSetB s k = bitB s k := by
  have h1 : inB (k : Int) 0 11 = true := by unfold inB; simp; omega
  have h2 : inB s 0 4095 = true := by unfold inB; simp; omega
  simp [inSetB, h1, h2]

/-! A set of n as a number with bits. -/
theorem okB_nat {n : Nat} {s : Int} (h : okB n s = true) : n ≤ 12 ∧ ∃ a : Nat, s = a ∧ a < 2 ^ n ∧ a < 4096 := by
  have h1 := okB_iff.1 h
  have h2 := okB_range h
  obtain ⟨a, rfl⟩ := Int.eq_ofNat_of_zero_le h2.1
  refine ⟨by omega, a, rfl, ?_, by omega⟩
  have := h1.2.2
  simp at this
  exact_mod_cast this
theorem okB_of_nat {n a : Nat} (hn : n ≤ 12) (ha : a < 2 ^ n) : okB n a = true := by
  rw [okB_iff]
  refine ⟨by omega, by omega, ?_⟩
  simp
  exact_mod_cast ha
theorem inSetB_iff {n : Nat} {s : Int} (h : okB n s = true) {j : Nat} (hj : inSetB s j = true) : j < n := by
  obtain ⟨hn, a, rfl, ha, h12⟩ := okB_nat h
  have hj12 : j < 12 := by
    have : inB (j : Int) 0 11 = true := by unfold inSetB at hj; simp at hj; exact hj.1.1
    unfold inB at this; simp at this; omega
  rw [inSetB_nat a j h12 hj12] at hj
  apply Classical.byContradiction
  intro hnj
  have hp : (2 : Nat) ^ n ≤ 2 ^ j := Nat.pow_le_pow_right (by omega) (by omega)
  rw [Nat.testBit_lt_two_pow (by omega)] at hj
  cases hj
theorem inSetB_far (s : Int) {j : Nat} (hj : 12 ≤ j) : inSetB s j = false := by
  have : inB (j : Int) 0 11 = false := by unfold inB; simp; omega
  simp [inSetB, this]
theorem ok_ext {n : Nat} {s t : Int} (hs : okB n s = true) (ht : okB n t = true) (h : ∀ j : Nat, j < n → inSetB s j = inSetB t j) : s = t := by
  obtain ⟨hn, a, rfl, ha, ha'⟩ := okB_nat hs
  obtain ⟨_, b, rfl, hb, hb'⟩ := okB_nat ht
  congr 1
  apply Nat.eq_of_testBit_eq
  intro j
  by_cases hj : j < n
  · have := h j hj
    rwa [inSetB_nat a j ha' (by omega), inSetB_nat b j hb' (by omega)] at this
  · have hp : (2 : Nat) ^ n ≤ 2 ^ j := Nat.pow_le_pow_right (by omega) (by omega)
    rw [Nat.testBit_lt_two_pow (by omega), Nat.testBit_lt_two_pow (by omega)]
theorem ok_zero {n : Nat} (hn : n ≤ 12) : okB n 0 = true := okB_of_nat (a := 0) hn (Nat.two_pow_pos n)
theorem zero_bit (j : Nat) : inSetB 0 j = false := by
  by_cases hj : j < 12
  · rw [show (0 : Int) = ((0 : Nat) : Int) from rfl, inSetB_nat 0 j (by omega) hj, Nat.zero_testBit]
  · exact inSetB_far _ (by omega)
theorem i64_andNot_nat (a b : Nat) (ha : a < 9223372036854775808) (hb : b < 9223372036854775808) : bits .andNot .i64 (a : Int) (b : Int) = ((a &&& (18446744073709551615 - b) : Nat) : Int) := by
  have hx : a &&& (18446744073709551615 - b) ≤ a := Nat.and_le_left
  show IntKind.i64.wrap ((BitVec.ofInt 64 (a : Int) &&& ~~~ BitVec.ofInt 64 (b : Int)).toNat : Int) = _
  rw [BitVec.toNat_and, BitVec.toNat_not, ofInt_i64 a ha, ofInt_i64 b hb, IntKind.wrap_i64, show (2 : Nat) ^ 64 - 1 - b = 18446744073709551615 - b from rfl]
  omega
theorem ok_or {n : Nat} {s t : Int} (hs : okB n s = true) (ht : okB n t = true) : okB n (orI s t) = true ∧ ∀ j : Nat, inSetB (orI s t) j = (inSetB s j || inSetB t j) := by
  obtain ⟨hn, a, rfl, ha, ha'⟩ := okB_nat hs
  obtain ⟨_, b, rfl, hb, hb'⟩ := okB_nat ht
  have e : orI (a : Int) (b : Int) = ((a ||| b : Nat) : Int) := i64_or_nat a b (by omega) (by omega)
  have hl : a ||| b < 2 ^ n := Nat.or_lt_two_pow ha hb
  have hl' : a ||| b < 4096 := Nat.or_lt_two_pow (n := 12) ha' hb'
  rw [e]
  refine ⟨okB_of_nat hn hl, fun j => ?_⟩
  by_cases hj : j < 12
  · rw [inSetB_nat _ j hl' hj, inSetB_nat _ j ha' hj, inSetB_nat _ j hb' hj, Nat.testBit_or]
  · rw [inSetB_far _ (by omega), inSetB_far _ (by omega), inSetB_far _ (by omega)]; rfl
theorem ok_and {n : Nat} {s t : Int} (hs : okB n s = true) (ht : okB n t = true) : okB n (andI s t) = true ∧ ∀ j : Nat, inSetB (andI s t) j = (inSetB s j && inSetB t j) := by
  obtain ⟨hn, a, rfl, ha, ha'⟩ := okB_nat hs
  obtain ⟨_, b, rfl, hb, hb'⟩ := okB_nat ht
  have e : andI (a : Int) (b : Int) = ((a &&& b : Nat) : Int) := i64_and_nat a b (by omega) (by omega)
  have hl : a &&& b ≤ a := Nat.and_le_left
  rw [e]
  refine ⟨okB_of_nat hn (by omega), fun j => ?_⟩
  by_cases hj : j < 12
  · rw [inSetB_nat _ j (by omega) hj, inSetB_nat _ j ha' hj, inSetB_nat _ j hb' hj, Nat.testBit_and]
  · rw [inSetB_far _ (by omega), inSetB_far _ (by omega), inSetB_far _ (by omega)]; rfl
theorem ok_not {n : Nat} {s t : Int} (hs : okB n s = true) (ht : okB n t = true) : okB n (notI s t) = true ∧ ∀ j : Nat, inSetB (notI s t) j = (inSetB s j && !inSetB t j) := by
  obtain ⟨hn, a, rfl, ha, ha'⟩ := okB_nat hs
  obtain ⟨_, b, rfl, hb, hb'⟩ := okB_nat ht
  have e : notI (a : Int) (b : Int) = ((a &&& (18446744073709551615 - b) : Nat) : Int) := i64_andNot_nat a b (by omega) (by omega)
  have hl : a &&& (18446744073709551615 - b) ≤ a := Nat.and_le_left
  rw [e]
  refine ⟨okB_of_nat hn (by omega), fun j => ?_⟩
  by_cases hj : j < 12
  · have h2 : (18446744073709551615 - b).testBit j = !b.testBit j := by
      have e2 : 18446744073709551615 - b = 2 ^ 64 - (b + 1) := by omega
      rw [e2, Nat.testBit_two_pow_sub_succ (by omega)]
      have : j < 64 := by omega
      simp [this]
    rw [inSetB_nat _ j (by omega) hj, inSetB_nat _ j ha' hj, inSetB_nat _ j hb' hj, Nat.testBit_and, h2]
  · rw [inSetB_far _ (by omega), inSetB_far _ (by omega), inSetB_far _ (by omega)]; rfl
theorem ok_add {n : Nat} {s : Int} (hs : okB n s = true) {i : Nat} (hi : i < n) : okB n (gAdd s i) = true ∧ ∀ j : Nat, inSetB (gAdd s i) j = (inSetB s j || decide (i = j)) := by
  obtain ⟨hn, a, rfl, ha, ha'⟩ := okB_nat hs
  rw [gAdd_nat a i ha' (by omega)]
  have hp : (2 : Nat) ^ i < 2 ^ n := Nat.pow_lt_pow_right (by omega) hi
  have hl : a ||| 2 ^ i < 2 ^ n := Nat.or_lt_two_pow ha hp
  refine ⟨okB_of_nat hn hl, fun j => ?_⟩
  by_cases hj : j < 12
  · rw [inSetB_nat _ j (or_lt a i ha' (by omega)) hj, inSetB_nat _ j ha' hj, Nat.testBit_or, Nat.testBit_two_pow]
  · have : ¬ i = j := by omega
    rw [inSetB_far _ (by omega), inSetB_far _ (by omega)]; simp [this]

/-! Lists that are webs of n. -/
/-- A list of n sets of n. -/
def Web (n : Nat) (zs : List Int) : Prop := n ≤ 12 ∧ zs.length = n ∧ ∀ i, i < n → okB n (zs.getD i 0) = true
theorem web_iff {zs : List Int} : webB zs = true ↔ Web zs.length zs := by
  constructor
  · intro h; exact ⟨webB_len h, rfl, fun i hi => webB_get h hi⟩
  · intro h; exact webB_all h.2.2
theorem Web.b {n : Nat} {zs : List Int} (h : Web n zs) : webB zs = true := by
  obtain ⟨h1, rfl, h2⟩ := h; exact web_iff.2 ⟨h1, rfl, h2⟩
theorem list_ext {n : Nat} {a b : List Int} (ha : a.length = n) (hb : b.length = n) (h : ∀ i, i < n → a.getD i 0 = b.getD i 0) : a = b := by
  apply List.ext_getElem (by omega)
  intro i h1 h2
  have := h i (by omega)
  rw [List.getD_eq_getElem?_getD, List.getD_eq_getElem?_getD, List.getElem?_eq_getElem h1, List.getElem?_eq_getElem h2] at this
  exact this
/-- Does a line go from i to j? -/
def line (zs : List Int) (i j : Nat) : Bool := inSetB (zs.getD i 0) j
theorem Web.ext {n : Nat} {a b : List Int} (ha : Web n a) (hb : Web n b) (h : ∀ i j, i < n → j < n → line a i j = line b i j) : a = b :=
  list_ext ha.2.1 hb.2.1 fun i hi => ok_ext (ha.2.2 i hi) (hb.2.2 i hi) fun j hj => h i j hi hj
theorem Web.lt {n : Nat} {a : List Int} (ha : Web n a) {i j : Nat} (hi : i < n) (h : line a i j = true) : j < n := inSetB_iff (ha.2.2 i hi) h
theorem getD_set (zs : List Int) (i j : Nat) (x : Int) (hi : i < zs.length) : (zs.set i x).getD j 0 = if i = j then x else zs.getD j 0 := by
  rw [List.getD_eq_getElem?_getD, List.getD_eq_getElem?_getD, List.getElem?_set]
  by_cases h : i = j
  · subst h; simp [hi]
  · simp [h]
theorem Web.set {n : Nat} {a : List Int} (ha : Web n a) {i : Nat} {x : Int} (hx : okB n x = true) : Web n (a.set i x) := by
  obtain ⟨h1, h2, h3⟩ := ha
  refine ⟨h1, by simp [h2], fun j hj => ?_⟩
  by_cases hi : i < a.length
  · rw [getD_set a i j x hi]; split
    · exact hx
    · exact h3 j hj
  · rw [List.set_eq_of_length_le (by omega)]; exact h3 j hj
theorem Web.zero {n : Nat} (hn : n ≤ 12) : Web n (List.replicate n 0) := by
  refine ⟨hn, by simp, fun i hi => ?_⟩
  rw [List.getD_eq_getElem?_getD, List.getElem?_replicate, if_pos hi]
  exact ok_zero hn
theorem line_zero (n i j : Nat) : line (List.replicate n 0) i j = false := by
  unfold line
  rw [List.getD_eq_getElem?_getD, List.getElem?_replicate]
  split <;> exact zero_bit j

/-! Then: the sum over the members is the sum over all. -/
theorem thenS_stop {n : Nat} {x : Int} (h : okB n x = true) (b : List Int) {m : Nat} (hm : n ≤ m) : thenS x b m = thenS x b n := by
  induction m with
  | zero => obtain rfl : n = 0 := by omega
            rfl
  | succ m ih =>
    by_cases he : n = m + 1
    · rw [he]
    · have hf : inSetB x m = false := by
        cases hb : inSetB x m with
        | false => rfl
        | true => have := inSetB_iff h hb; omega
      rw [← ih (by omega)]
      conv => lhs; unfold thenS
      simp [hf]
def thenF (b : List Int) (s k : Int) : Int := orI s (b.getD k.toNat 0)
theorem thenS_fold (x : Int) (b : List Int) (k : Nat) : (mem x k).foldl (thenF b) 0 = thenS x b k := by
  induction k with
  | zero => rfl
  | succ k ih =>
    unfold mem thenS
    rw [List.foldl_append, ih]
    cases inSetB x k with
    | false => rfl
    | true => simp [thenF]
theorem ok_then {n : Nat} {x : Int} {b : List Int} (hx : okB n x = true) (hb : Web n b) (m : Nat) : okB n (thenS x b m) = true ∧ ∀ j : Nat, inSetB (thenS x b m) j = true ↔ ∃ k, k < m ∧ inSetB x k = true ∧ line b k j = true := by
  induction m with
  | zero => exact ⟨ok_zero hb.1, fun j => by rw [show thenS x b 0 = 0 from rfl, zero_bit]; simp⟩
  | succ m ih =>
    unfold thenS
    cases hm : inSetB x m with
    | false =>
      refine ⟨by simpa using ih.1, fun j => ?_⟩
      simp only [Bool.false_eq_true, if_false]
      rw [ih.2 j]
      constructor
      · rintro ⟨k, hk, h1, h2⟩; exact ⟨k, by omega, h1, h2⟩
      · rintro ⟨k, hk, h1, h2⟩
        refine ⟨k, ?_, h1, h2⟩
        have : k ≠ m := fun e => by subst e; rw [hm] at h1; cases h1
        omega
    | true =>
      have hmn := inSetB_iff hx hm
      have ho := ok_or ih.1 (hb.2.2 m hmn)
      refine ⟨by simpa using ho.1, fun j => ?_⟩
      simp only [if_true]
      rw [ho.2 j, Bool.or_eq_true, ih.2 j]
      constructor
      · rintro (⟨k, hk, h1, h2⟩ | h)
        · exact ⟨k, by omega, h1, h2⟩
        · exact ⟨m, by omega, hm, h⟩
      · rintro ⟨k, hk, h1, h2⟩
        by_cases e : k = m
        · subst e; exact .inr h2
        · exact .inl ⟨k, by omega, h1, h2⟩

/-! Back. -/
theorem backIn_len (i : Nat) (x : Int) (st : List Int) (k : Nat) : (backIn i x st k).length = st.length := by
  induction k with
  | zero => rfl
  | succ k ih => unfold backIn; split <;> simp [ih]
theorem backIn_stop {n : Nat} {x : Int} (h : okB n x = true) (i : Nat) (st : List Int) {m : Nat} (hm : n ≤ m) : backIn i x st m = backIn i x st n := by
  induction m with
  | zero => obtain rfl : n = 0 := by omega
            rfl
  | succ m ih =>
    by_cases he : n = m + 1
    · rw [he]
    · have hf : inSetB x m = false := by
        cases hb : inSetB x m with
        | false => rfl
        | true => have := inSetB_iff h hb; omega
      rw [← ih (by omega)]
      conv => lhs; unfold backIn
      simp [hf]
def backF (i : Nat) (st : List Int) (k : Int) : List Int := st.set k.toNat (gAdd (st.getD k.toNat 0) i)
theorem backIn_fold (i : Nat) (x : Int) (st : List Int) (k : Nat) : (mem x k).foldl (backF i) st = backIn i x st k := by
  induction k with
  | zero => rfl
  | succ k ih =>
    unfold mem backIn
    rw [List.foldl_append, ih]
    cases inSetB x k with
    | false => rfl
    | true => simp [backF]
theorem web_backIn {n i : Nat} {x : Int} {st : List Int} (hx : okB n x = true) (hi : i < n) (hst : Web n st) (m : Nat) :
    Web n (backIn i x st m) ∧ ∀ k j : Nat, k < n → line (backIn i x st m) k j = (line st k j || (decide (k < m) && inSetB x k && decide (i = j))) := by
  induction m with
  | zero => exact ⟨hst, fun k j _ => by simp [backIn]⟩
  | succ m ih =>
    unfold backIn
    cases hm : inSetB x m with
    | false =>
      refine ⟨by simpa using ih.1, fun k j hk => ?_⟩
      simp only [Bool.false_eq_true, if_false]
      rw [ih.2 k j hk]
      by_cases e : k = m
      · subst e; simp [hm]
      · have : (k < m + 1) ↔ k < m := by omega
        simp [this]
    | true =>
      have hmn := inSetB_iff hx hm
      have ha := ok_add (ih.1.2.2 m hmn) hi
      refine ⟨by simpa using ih.1.set ha.1, fun k j hk => ?_⟩
      simp only [if_true]
      have e1 := ih.2 k j hk
      unfold line at e1 ⊢
      rw [getD_set _ _ _ _ (by rw [ih.1.2.1]; exact hmn)]
      by_cases e : m = k
      · subst e; simp only [if_true]; rw [ha.2 j, e1, hm]; simp
      · have : (k < m + 1) ↔ k < m := by omega
        simp only [e, if_false]; rw [e1]; simp [this]
theorem web_backAll {n : Nat} {zs : List Int} (hz : Web n zs) (m : Nat) (hm : m ≤ n) :
    Web n (backAll zs m) ∧ ∀ k j : Nat, k < n → line (backAll zs m) k j = (decide (j < m) && line zs j k) := by
  induction m with
  | zero =>
    have e : backAll zs 0 = List.replicate n 0 := by unfold backAll; rw [hz.2.1]
    rw [e]
    exact ⟨Web.zero hz.1, fun k j _ => by rw [line_zero]; simp⟩
  | succ m ih =>
    have ih := ih (by omega)
    have h1 := web_backIn (hz.2.2 m (by omega)) (show m < n by omega) ih.1 12
    refine ⟨h1.1, fun k j hk => ?_⟩
    show line (backIn m (zs.getD m 0) (backAll zs m) 12) k j = _
    rw [h1.2 k j hk, ih.2 k j hk]
    have hk12 : k < 12 := by have := hz.1; omega
    by_cases e : m = j
    · subst e; simp [hk12, line]
    · have : (j < m + 1) ↔ j < m := by omega
      simp [e, this]

/-! Ways: what is passed stays a web. -/
theorem wayIn_len (k : Nat) (st : List Int) (i : Nat) : (wayIn k st i).length = st.length := by
  induction i with
  | zero => rfl
  | succ i ih => unfold wayIn; split <;> simp [ih]
theorem web_wayIn {n k : Nat} {st : List Int} (hk : k < n) (hst : Web n st) (m : Nat) (hm : m ≤ n) :
    Web n (wayIn k st m) ∧ ∀ i j : Nat, i < n → line (wayIn k st m) i j = (line st i j || (decide (i < m) && line st i k && line st k j)) := by
  induction m with
  | zero => exact ⟨hst, fun i j _ => by simp [wayIn]⟩
  | succ m ih =>
    have ih := ih (by omega)
    have hmn : m < n := by omega
    have hkk : ∀ j, line (wayIn k st m) k j = line st k j := by
      intro j
      rw [ih.2 k j hk]
      cases line st k j <;> simp
    have hmk : line (wayIn k st m) m k = line st m k := by rw [ih.2 m k hmn]; simp
    have hmj : ∀ j, line (wayIn k st m) m j = line st m j := by intro j; rw [ih.2 m j hmn]; simp
    unfold wayIn
    cases hb : inSetB ((wayIn k st m).getD m 0) k with
    | false =>
      have hb' : line st m k = false := by rw [← hmk]; exact hb
      refine ⟨by simpa using ih.1, fun i j hi => ?_⟩
      simp only [Bool.false_eq_true, if_false]
      rw [ih.2 i j hi]
      by_cases e : i = m
      · subst e; simp [hb']
      · have : (i < m + 1) ↔ i < m := by omega
        simp [this]
    | true =>
      have hb' : line st m k = true := by rw [← hmk]; exact hb
      have ho := ok_or (ih.1.2.2 m hmn) (ih.1.2.2 k hk)
      refine ⟨by simpa using ih.1.set ho.1, fun i j hi => ?_⟩
      simp only [if_true]
      have e1 := ih.2 i j hi
      have e2 := hkk j
      have e3 := hmj j
      unfold line at e1 e2 e3 ⊢
      rw [getD_set _ _ _ _ (by rw [ih.1.2.1]; exact hmn)]
      by_cases e : m = i
      · subst e
        simp only [if_true]
        rw [ho.2 j, e2, e3]
        unfold line at hb'
        rw [hb']
        simp
      · have : (i < m + 1) ↔ i < m := by omega
        simp only [e, if_false]; rw [e1]; simp [this]
theorem web_wayAll {n : Nat} {zs : List Int} (hz : Web n zs) (m : Nat) (hm : m ≤ n) : Web n (wayAll zs m) := by
  induction m with
  | zero => exact hz
  | succ m ih =>
    show Web n (wayIn m (wayAll zs m) zs.length)
    rw [hz.2.1]
    exact (web_wayIn (by omega) (ih (by omega)) n (Nat.le_refl _)).1
theorem line_wayAll {n : Nat} {zs : List Int} (hz : Web n zs) (m : Nat) (hm : m < n) {i : Nat} (hi : i < n) (j : Nat) :
    line (wayAll zs (m + 1)) i j = (line (wayAll zs m) i j || (line (wayAll zs m) i m && line (wayAll zs m) m j)) := by
  show line (wayIn m (wayAll zs m) zs.length) i j = _
  rw [hz.2.1, (web_wayIn hm (web_wayAll hz m (by omega)) n (Nat.le_refl _)).2 i j hi]
  simp [hi]
end Go.Proofs.Ytgclnfhkjnomaaa
