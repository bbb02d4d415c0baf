/- Plain facts on webs that the laws of chapter 2 ask for: joined, common and less; then and back; ways are the least that go on by themselves, and are what comes of as many rounds as there are. Nothing of the program. -/
import Derived.Test.YtgclnfhkjnomaabWebPlain
namespace Go.Proofs.Ytgclnfhkjnomaab
open Go.RowKit

theorem getD_zip (f : Int → Int → Int) {n : Nat} {a b : List Int} (ha : a.length = n) (hb : b.length = n) {i : Nat} (hi : i < n) : (List.zipWith f a b).getD i 0 = f (a.getD i 0) (b.getD i 0) := by
  rw [List.getD_eq_getElem?_getD, List.getElem?_zipWith, List.getD_eq_getElem?_getD, List.getD_eq_getElem?_getD, List.getElem?_eq_getElem (show i < a.length by omega), List.getElem?_eq_getElem (show i < b.length by omega)]
  rfl
theorem web_mix (f : Int → Int → Int) (hf : ∀ {n : Nat} {s t : Int}, okB n s = true → okB n t = true → okB n (f s t) = true) {n : Nat} {a b : List Int} (ha : Web n a) (hb : Web n b) : Web n (List.zipWith f a b) := by
  refine ⟨ha.1, by rw [List.length_zipWith, ha.2.1, hb.2.1]; omega, fun i hi => ?_⟩
  rw [getD_zip f ha.2.1 hb.2.1 hi]
  exact hf (ha.2.2 i hi) (hb.2.2 i hi)
theorem mixL_web (f : Int → Int → Int) {n : Nat} {a b : List Int} (ha : Web n a) (hb : Web n b) : mixL f a b = List.zipWith f a b := by
  unfold mixL
  rw [if_pos (twoB_iff.2 ⟨by rw [ha.2.1, hb.2.1], ha.b, hb.b⟩)]
theorem web_join {n : Nat} {a b : List Int} (ha : Web n a) (hb : Web n b) : Web n (mixL orI a b) ∧ ∀ i j, i < n → line (mixL orI a b) i j = (line a i j || line b i j) := by
  rw [mixL_web _ ha hb]
  refine ⟨web_mix orI (fun h k => (ok_or h k).1) ha hb, fun i j hi => ?_⟩
  unfold line
  rw [getD_zip orI ha.2.1 hb.2.1 hi]
  exact (ok_or (ha.2.2 i hi) (hb.2.2 i hi)).2 j
theorem web_common {n : Nat} {a b : List Int} (ha : Web n a) (hb : Web n b) : Web n (mixL andI a b) ∧ ∀ i j, i < n → line (mixL andI a b) i j = (line a i j && line b i j) := by
  rw [mixL_web _ ha hb]
  refine ⟨web_mix andI (fun h k => (ok_and h k).1) ha hb, fun i j hi => ?_⟩
  unfold line
  rw [getD_zip andI ha.2.1 hb.2.1 hi]
  exact (ok_and (ha.2.2 i hi) (hb.2.2 i hi)).2 j
theorem web_less {n : Nat} {a b : List Int} (ha : Web n a) (hb : Web n b) : Web n (mixL notI a b) ∧ ∀ i j, i < n → line (mixL notI a b) i j = (line a i j && !line b i j) := by
  rw [mixL_web _ ha hb]
  refine ⟨web_mix notI (fun h k => (ok_not h k).1) ha hb, fun i j hi => ?_⟩
  unfold line
  rw [getD_zip notI ha.2.1 hb.2.1 hi]
  exact (ok_not (ha.2.2 i hi) (hb.2.2 i hi)).2 j
theorem web_then {n : Nat} {a b : List Int} (ha : Web n a) (hb : Web n b) : Web n (thenL a b) ∧ ∀ i j, i < n → (line (thenL a b) i j = true ↔ ∃ k, k < n ∧ line a i k = true ∧ line b k j = true) := by
  have e : thenL a b = a.map (fun x => thenS x b 12) := by
    unfold thenL
    rw [if_pos (twoB_iff.2 ⟨by rw [ha.2.1, hb.2.1], ha.b, hb.b⟩)]
  have hg : ∀ i, i < n → (a.map (fun x => thenS x b 12)).getD i 0 = thenS (a.getD i 0) b 12 := by
    intro i hi
    rw [List.getD_eq_getElem?_getD, List.getElem?_map, List.getD_eq_getElem?_getD, List.getElem?_eq_getElem (show i < a.length by rw [ha.2.1]; exact hi)]
    rfl
  rw [e]
  refine ⟨⟨ha.1, by simp [ha.2.1], fun i hi => ?_⟩, fun i j hi => ?_⟩
  · rw [hg i hi]; exact (ok_then (ha.2.2 i hi) hb 12).1
  · have h := (ok_then (ha.2.2 i hi) hb 12).2 j
    unfold line at h ⊢
    rw [hg i hi, h]
    constructor
    · rintro ⟨k, _, h1, h2⟩; exact ⟨k, inSetB_iff (ha.2.2 i hi) h1, h1, h2⟩
    · rintro ⟨k, hk, h1, h2⟩; exact ⟨k, by have := ha.1; omega, h1, h2⟩
theorem web_back {n : Nat} {a : List Int} (ha : Web n a) : Web n (backL a) ∧ ∀ i j, i < n → j < n → line (backL a) i j = line a j i := by
  have e : backL a = backAll a n := by
    unfold backL
    rw [if_pos ha.b, ha.2.1]
  rw [e]
  have h := web_backAll ha n (Nat.le_refl _)
  exact ⟨h.1, fun i j hi hj => by rw [h.2 i j hi]; simp [hj]⟩
theorem back_back {n : Nat} {a : List Int} (ha : Web n a) : backL (backL a) = a := by
  have h1 := web_back ha
  have h2 := web_back h1.1
  exact Web.ext h2.1 ha fun i j hi hj => by rw [h2.2 i j hi hj, h1.2 j i hj hi]
theorem back_then {n : Nat} {a b : List Int} (ha : Web n a) (hb : Web n b) : backL (thenL a b) = thenL (backL b) (backL a) := by
  have ht := web_then ha hb
  have h1 := web_back ht.1
  have a1 := web_back ha
  have b1 := web_back hb
  have h2 := web_then b1.1 a1.1
  refine Web.ext h1.1 h2.1 fun i j hi hj => ?_
  rw [h1.2 i j hi hj, Bool.eq_iff_iff, ht.2 j i hj, h2.2 i j hi]
  constructor
  · rintro ⟨k, hk, x, y⟩; exact ⟨k, hk, by rw [b1.2 i k hi hk]; exact y, by rw [a1.2 k j hk hj]; exact x⟩
  · rintro ⟨k, hk, x, y⟩; exact ⟨k, hk, by rw [← a1.2 k j hk hj]; exact y, by rw [← b1.2 i k hi hk]; exact x⟩
theorem join_parts {n : Nat} {a b : List Int} (ha : Web n a) (hb : Web n b) : mixL orI (mixL notI a b) (mixL andI a b) = a := by
  have l := web_less ha hb
  have c := web_common ha hb
  have j := web_join l.1 c.1
  refine Web.ext j.1 ha fun i k hi hk => ?_
  rw [j.2 i k hi, l.2 i k hi, c.2 i k hi]
  cases line a i k <;> cases line b i k <;> rfl
theorem join_comm {n : Nat} {a b : List Int} (ha : Web n a) (hb : Web n b) : mixL orI b a = mixL orI a b := by
  have j := web_join ha hb
  have k := web_join hb ha
  exact Web.ext k.1 j.1 fun i m hi hm => by rw [k.2 i m hi, j.2 i m hi, Bool.or_comm]

/-! All lines of a are lines of b. -/
def inL (a b : List Int) : Bool := decide (a.length = b.length) && (List.range a.length).all fun i => notI (a.getD i 0) (b.getD i 0) == 0
theorem inL_web {n : Nat} {a b : List Int} (ha : Web n a) (hb : Web n b) (h : ∀ i j, i < n → j < n → line a i j = true → line b i j = true) : inL a b = true := by
  unfold inL
  rw [Bool.and_eq_true, decide_eq_true_eq, List.all_eq_true]
  refine ⟨by rw [ha.2.1, hb.2.1], fun i hi => ?_⟩
  have hi : i < n := by rw [List.mem_range, ha.2.1] at hi; exact hi
  have ho := ok_not (ha.2.2 i hi) (hb.2.2 i hi)
  rw [beq_iff_eq]
  refine ok_ext ho.1 (ok_zero ha.1) fun j hj => ?_
  rw [ho.2 j, zero_bit]
  have := h i j hi hj
  unfold line at this
  cases h1 : inSetB (a.getD i 0) j with
  | false => rfl
  | true => rw [this h1]; rfl

/-! Ways. -/
inductive Way (zs : List Int) : Nat → Nat → Prop
  | one {i j : Nat} (h : line zs i j = true) : Way zs i j
  | more {i k j : Nat} (h : Way zs i k) (g : line zs k j = true) : Way zs i j
theorem Way.trans {zs : List Int} {i k j : Nat} (h : Way zs i k) (g : Way zs k j) : Way zs i j := by
  induction g with
  | one g => exact .more h g
  | more _ g ih => exact .more ih g
theorem Way.lt {n : Nat} {zs : List Int} (hz : Web n zs) {i j : Nat} (hi : i < n) (h : Way zs i j) : j < n := by
  induction h with
  | one g => exact hz.lt hi g
  | more _ g ih => exact hz.lt ih g
/-- What is found after m are let by: ways, and all that pass the first m alone. -/
theorem wayAll_sound {n : Nat} {zs : List Int} (hz : Web n zs) (m : Nat) (hm : m ≤ n) {i : Nat} (hi : i < n) {j : Nat} (h : line (wayAll zs m) i j = true) : Way zs i j := by
  induction m generalizing i j with
  | zero => exact .one h
  | succ m ih =>
    rw [line_wayAll hz m (by omega) hi, Bool.or_eq_true, Bool.and_eq_true] at h
    rcases h with h | ⟨h1, h2⟩
    · exact ih (by omega) hi h
    · exact (ih (by omega) hi h1).trans (ih (by omega) (by omega) h2)
theorem wayAll_mono {n : Nat} {zs : List Int} (hz : Web n zs) (m : Nat) (hm : m < n) {i : Nat} (hi : i < n) {j : Nat} (h : line (wayAll zs m) i j = true) : line (wayAll zs (m + 1)) i j = true := by
  rw [line_wayAll hz m hm hi, h]; rfl
/-- Behind m rounds two ways that meet at one of the first m are one. -/
theorem wayAll_meet {n : Nat} {zs : List Int} (hz : Web n zs) (m : Nat) (hm : m ≤ n) {i k j : Nat} (hi : i < n) (hk : k < m) (h1 : line (wayAll zs m) i k = true) (h2 : line (wayAll zs m) k j = true) : line (wayAll zs m) i j = true := by
  induction m generalizing i k j with
  | zero => omega
  | succ m ih =>
    have hmn : m < n := by omega
    have ihm := @ih (by omega)
    rw [line_wayAll hz m hmn hi, Bool.or_eq_true, Bool.and_eq_true] at h1
    rw [line_wayAll hz m hmn (show k < n by omega), Bool.or_eq_true, Bool.and_eq_true] at h2
    rw [line_wayAll hz m hmn hi, Bool.or_eq_true, Bool.and_eq_true]
    by_cases e : k = m
    · subst e
      have h1' : line (wayAll zs k) i k = true := by
        rcases h1 with h | h
        · exact h
        · exact h.1
      have h2' : line (wayAll zs k) k j = true := by
        rcases h2 with h | h
        · exact h
        · exact h.2
      exact .inr ⟨h1', h2'⟩
    · have hkm : k < m := by omega
      rcases h1 with h1 | ⟨h1, h1'⟩ <;> rcases h2 with h2 | ⟨h2, h2'⟩
      · exact .inl (ihm hi hkm h1 h2)
      · exact .inr ⟨ihm hi hkm h1 h2, h2'⟩
      · exact .inr ⟨h1, ihm hmn hkm h1' h2⟩
      · exact .inr ⟨h1, h2'⟩
theorem ways_eq {n : Nat} {zs : List Int} (hz : Web n zs) : waysL zs = wayAll zs n := by
  unfold waysL
  rw [if_pos hz.b, hz.2.1]
theorem web_ways {n : Nat} {zs : List Int} (hz : Web n zs) : Web n (waysL zs) := by rw [ways_eq hz]; exact web_wayAll hz n (Nat.le_refl _)
theorem wayAll_old {n : Nat} {zs : List Int} (hz : Web n zs) (m : Nat) (hm : m ≤ n) {i : Nat} (hi : i < n) {j : Nat} (h : line zs i j = true) : line (wayAll zs m) i j = true := by
  induction m with
  | zero => exact h
  | succ m ih => exact wayAll_mono hz m (by omega) hi (ih (by omega))
theorem ways_line {n : Nat} {zs : List Int} (hz : Web n zs) {i : Nat} (hi : i < n) {j : Nat} : line (waysL zs) i j = true ↔ Way zs i j := by
  rw [ways_eq hz]
  constructor
  · exact wayAll_sound hz n (Nat.le_refl _) hi
  · intro h
    induction h with
    | one g => exact wayAll_old hz n (Nat.le_refl _) hi g
    | more h g ih =>
      have hk := h.lt hz hi
      exact wayAll_meet hz n (Nat.le_refl _) hi hk ih (wayAll_old hz n (Nat.le_refl _) hk g)
theorem ways_in {n : Nat} {zs : List Int} (hz : Web n zs) : inL zs (waysL zs) = true :=
  inL_web hz (web_ways hz) fun _ _ hi _ h => (ways_line hz hi).2 (.one h)
theorem ways_on {n : Nat} {zs : List Int} (hz : Web n zs) : inL (thenL (waysL zs) (waysL zs)) (waysL zs) = true := by
  have hw := web_ways hz
  have ht := web_then hw hw
  refine inL_web ht.1 hw fun i j hi _ h => ?_
  obtain ⟨k, hk, h1, h2⟩ := (ht.2 i j hi).1 h
  exact (ways_line hz hi).2 (((ways_line hz hi).1 h1).trans ((ways_line hz hk).1 h2))
theorem ways_ways {n : Nat} {zs : List Int} (hz : Web n zs) : waysL (waysL zs) = waysL zs := by
  have hw := web_ways hz
  refine Web.ext (web_ways hw) hw fun i j hi _ => ?_
  rw [Bool.eq_iff_iff, ways_line hw hi]
  constructor
  · intro h
    induction h with
    | one g => exact g
    | more h g ih =>
      have hk := h.lt hw hi
      exact (ways_line hz hi).2 (((ways_line hz hi).1 (ih hk)).trans ((ways_line hz hk).1 g))
  · exact .one

/-! As many rounds as there are. -/
def goOn (zs : List Int) : Nat → List Int
  | 0 => zs
  | m + 1 => mixL orI zs (thenL (goOn zs m) zs)
theorem web_goOn {n : Nat} {zs : List Int} (hz : Web n zs) (m : Nat) : Web n (goOn zs m) := by
  induction m with
  | zero => exact hz
  | succ m ih => exact (web_join hz (web_then ih hz).1).1
theorem goOn_step {n : Nat} {zs : List Int} (hz : Web n zs) (m : Nat) {i : Nat} (hi : i < n) (j : Nat) : line (goOn zs (m + 1)) i j = true ↔ line zs i j = true ∨ ∃ k, k < n ∧ line (goOn zs m) i k = true ∧ line zs k j = true := by
  show line (mixL orI zs (thenL (goOn zs m) zs)) i j = true ↔ _
  have ht := web_then (web_goOn hz m) hz
  rw [(web_join hz ht.1).2 i j hi, Bool.or_eq_true, ht.2 i j hi]
theorem goOn_sound {n : Nat} {zs : List Int} (hz : Web n zs) (m : Nat) {i : Nat} (hi : i < n) {j : Nat} (h : line (goOn zs m) i j = true) : Way zs i j := by
  induction m generalizing j with
  | zero => exact .one h
  | succ m ih =>
    rcases (goOn_step hz m hi j).1 h with h | ⟨k, hk, h1, h2⟩
    · exact .one h
    · exact .more (ih h1) h2
theorem goOn_mono {n : Nat} {zs : List Int} (hz : Web n zs) (m : Nat) {i : Nat} (hi : i < n) {j : Nat} (h : line (goOn zs m) i j = true) : line (goOn zs (m + 1)) i j = true := by
  induction m generalizing j with
  | zero => exact (goOn_step hz 0 hi j).2 (.inl h)
  | succ m ih =>
    rcases (goOn_step hz m hi j).1 h with h | ⟨k, hk, h1, h2⟩
    · exact (goOn_step hz (m + 1) hi j).2 (.inl h)
    · exact (goOn_step hz (m + 1) hi j).2 (.inr ⟨k, hk, ih h1, h2⟩)
/-- How many lines go from i. -/
def many (zs : List Int) (i n : Nat) : Nat := (List.range n).countP (fun j => line zs i j)
theorem many_le (zs : List Int) (i n : Nat) : many zs i n ≤ n := by
  have := List.countP_le_length (p := fun j => line zs i j) (l := List.range n)
  simpa [many] using this
theorem countP_lt {p q : Nat → Bool} {l : List Nat} (h : ∀ x ∈ l, p x = true → q x = true) {y : Nat} (hy : y ∈ l) (h1 : p y = false) (h2 : q y = true) : l.countP p < l.countP q := by
  induction l with
  | nil => simp at hy
  | cons a l ih =>
    have hle : l.countP p ≤ l.countP q := List.countP_mono_left fun x hx hp => h x (by simp [hx]) hp
    rw [List.countP_cons, List.countP_cons]
    rcases List.mem_cons.1 hy with rfl | hy
    · simp [h1, h2]; omega
    · have := ih (fun x hx => h x (by simp [hx])) hy
      have ha := h a (by simp)
      cases hp : p a with
      | false => simp; split <;> omega
      | true => rw [ha hp]; simp; omega
/-- Row i does not change from m on. -/
def Still (zs : List Int) (i n m : Nat) : Prop := ∀ j, j < n → line (goOn zs (m + 1)) i j = true → line (goOn zs m) i j = true
theorem still_next {n : Nat} {zs : List Int} (hz : Web n zs) {i : Nat} (hi : i < n) {m : Nat} (h : Still zs i n m) : Still zs i n (m + 1) := by
  intro j hj hl
  rcases (goOn_step hz (m + 1) hi j).1 hl with hl | ⟨k, hk, h1, h2⟩
  · exact (goOn_step hz m hi j).2 (.inl hl)
  · exact (goOn_step hz m hi j).2 (.inr ⟨k, hk, h k hk h1, h2⟩)
theorem still_or {n : Nat} {zs : List Int} (hz : Web n zs) {i : Nat} (hi : i < n) (m : Nat) : Still zs i n m ∨ m + 1 ≤ many (goOn zs (m + 1)) i n := by
  induction m with
  | zero =>
    by_cases h : Still zs i n 0
    · exact .inl h
    · right
      obtain ⟨j, hj, h1, h2⟩ : ∃ j, j < n ∧ line (goOn zs (0 + 1)) i j = true ∧ line (goOn zs 0) i j = false := by
        apply Classical.byContradiction
        intro hno
        apply h
        intro j hj h1
        cases h2 : line (goOn zs 0) i j with
        | true => rfl
        | false => exact absurd ⟨j, hj, h1, h2⟩ hno
      have := countP_lt (p := fun j => line (goOn zs 0) i j) (q := fun j => line (goOn zs (0 + 1)) i j) (l := List.range n) (fun x hx hp => goOn_mono hz 0 hi hp) (List.mem_range.2 hj) h2 h1
      unfold many; omega
  | succ m ih =>
    rcases ih with ih | ih
    · exact .inl (still_next hz hi ih)
    · by_cases h : Still zs i n (m + 1)
      · exact .inl h
      · right
        obtain ⟨j, hj, h1, h2⟩ : ∃ j, j < n ∧ line (goOn zs (m + 1 + 1)) i j = true ∧ line (goOn zs (m + 1)) i j = false := by
          apply Classical.byContradiction
          intro hno
          apply h
          intro j hj h1
          cases h2 : line (goOn zs (m + 1)) i j with
          | true => rfl
          | false => exact absurd ⟨j, hj, h1, h2⟩ hno
        have := countP_lt (p := fun j => line (goOn zs (m + 1)) i j) (q := fun j => line (goOn zs (m + 1 + 1)) i j) (l := List.range n) (fun x hx hp => goOn_mono hz (m + 1) hi hp) (List.mem_range.2 hj) h2 h1
        unfold many at ih ⊢
        omega
theorem goOn_still {n : Nat} {zs : List Int} (hz : Web n zs) {i : Nat} (hi : i < n) : Still zs i n n := by
  rcases still_or hz hi n with h | h
  · exact h
  · have := many_le (goOn zs (n + 1)) i n; omega
theorem goOn_ways {n : Nat} {zs : List Int} (hz : Web n zs) : goOn zs n = waysL zs := by
  refine Web.ext (web_goOn hz n) (web_ways hz) fun i j hi hj => ?_
  rw [Bool.eq_iff_iff, ways_line hz hi]
  constructor
  · exact goOn_sound hz n hi
  · intro h
    induction h with
    | one g =>
      have : ∀ m, line (goOn zs m) i _ = true := fun m => by
        induction m with
        | zero => exact g
        | succ m ih => exact goOn_mono hz m hi ih
      exact this n
    | more h g ih =>
      have hk := h.lt hz hi
      exact goOn_still hz hi _ hj ((goOn_step hz n hi _).2 (.inr ⟨_, hk, ih hk, g⟩))
end Go.Proofs.Ytgclnfhkjnomaab
