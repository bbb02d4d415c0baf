/- Several texts in one. -/
import Derived.Test.YtefdhogmjijkgaaMA
/- Plain facts on webs that the laws of chapter 2 ask for: joined, common and less; then and back; ways are the least that go on by themselves, and are what comes of as many rounds as there are. Nothing of the program. -/
namespace Go.Proofs.Ytefdhogmjijkgaa
open Go.RowKit

theorem getD_zip (f : Int → Int → Int) {n : Nat} {a b : List Int} (ha : a.length = n) (hb : b.length = n) {i : Nat} (hi : i < n) : (List.zipWith f a b).getD i 0 = f (a.getD i 0) (b.getD i 0) := by
  rw [List.getD_eq_getElem?_getD, List.getElem?_zipWith, List.getD_eq_getElem?_getD, List.getD_eq_getElem?_getD, List.getElem?_eq_getElem (show i < a.length by omega), List.getElem?_eq_getElem (show i < b.length by omega)]
  rfl
theorem web_mix (f : Int → Int → Int) (hf : ∀ {n : Nat} {s t : Int}, okB n s = true → okB n t = true → okB n (f s t) = true) {n : Nat} {a b : List Int} (ha : Web n a) (hb : Web n b) : Web n (List.zipWith f a b) := by
  refine ⟨ha.1, by rw [List.length_zipWith, ha.2.1, hb.2.1]; omega, fun i hi => ?_⟩
  rw [getD_zip f ha.2.1 hb.2.1 hi]
  exact hf (ha.2.2 i hi) (hb.2.2 i hi)
theorem mixL_web (f : Int → Int → Int) {n : Nat} {a b : List Int} (ha : Web n a) (hb : Web n b) : mixL f a b = List.zipWith f a b := by
  unfold mixL
  rw [if_pos (twoB_iff.2 ⟨by rw [ha.2.1, hb.2.1], ha.b, hb.b⟩)]
theorem web_join {n : Nat} {a b : List Int} (ha : Web n a) (hb : Web n b) : Web n (mixL orI a b) ∧ ∀ i j, i < n → line (mixL orI a b) i j = (line a i j || line b i j) := by
  rw [mixL_web _ ha hb]
  refine ⟨web_mix orI (fun h k => (ok_or h k).1) ha hb, fun i j hi => ?_⟩
  unfold line
  rw [getD_zip orI ha.2.1 hb.2.1 hi]
  exact (ok_or (ha.2.2 i hi) (hb.2.2 i hi)).2 j
theorem web_common {n : Nat} {a b : List Int} (ha : Web n a) (hb : Web n b) : Web n (mixL andI a b) ∧ ∀ i j, i < n → line (mixL andI a b) i j = (line a i j && line b i j) := by
  rw [mixL_web _ ha hb]
  refine ⟨web_mix andI (fun h k => (ok_and h k).1) ha hb, fun i j hi => ?_⟩
  unfold line
  rw [getD_zip andI ha.2.1 hb.2.1 hi]
  exact (ok_and (ha.2.2 i hi) (hb.2.2 i hi)).2 j
theorem web_less {n : Nat} {a b : List Int} (ha : Web n a) (hb : Web n b) : Web n (mixL notI a b) ∧ ∀ i j, i < n → line (mixL notI a b) i j = (line a i j && !line b i j) := by
  rw [mixL_web _ ha hb]
  refine ⟨web_mix notI (fun h k => (ok_not h k).1) ha hb, fun i j hi => ?_⟩
  unfold line
  rw [getD_zip notI ha.2.1 hb.2.1 hi]
  exact (ok_not (ha.2.2 i hi) (hb.2.2 i hi)).2 j
theorem web_then {n : Nat} {a b : List Int} (ha : Web n a) (hb : Web n b) : Web n (thenL a b) ∧ ∀ i j, i < n → (line (thenL a b) i j = true ↔ ∃ k, k < n ∧ line a i k = true ∧ line b k j = true) := by
  have e : thenL a b = a.map (fun x => thenS x b 12) := by
    unfold thenL
    rw [if_pos (twoB_iff.2 ⟨by rw [ha.2.1, hb.2.1], ha.b, hb.b⟩)]
  have hg : ∀ i, i < n → (a.map (fun x => thenS x b 12)).getD i 0 = thenS (a.getD i 0) b 12 := by
    intro i hi
    rw [List.getD_eq_getElem?_getD, List.getElem?_map, List.getD_eq_getElem?_getD, List.getElem?_eq_getElem (show i < a.length by rw [ha.2.1]; exact hi)]
    rfl
  rw [e]
  refine ⟨⟨ha.1, by simp [ha.2.1], fun i hi => ?_⟩, fun i j hi => ?_⟩
  · rw [hg i hi]; exact (ok_then (ha.2.2 i hi) hb 12).1
  · have h := (ok_then (ha.2.2 i hi) hb 12).2 j
    unfold line at h ⊢
    rw [hg i hi, h]
    constructor
    · rintro ⟨k, _, h1, h2⟩; exact ⟨k, inSetB_iff (ha.2.2 i hi) h1, h1, h2⟩
    · rintro ⟨k, hk, h1, h2⟩; exact ⟨k, by have := ha.1; omega, h1, h2⟩
theorem web_back {n : Nat} {a : List Int} (ha : Web n a) : Web n (backL a) ∧ ∀ i j, i < n → j < n → line (backL a) i j = line a j i := by
  have e : backL a = backAll a n := by
    unfold backL
    rw [if_pos ha.b, ha.2.1]
  rw [e]
  have h := web_backAll ha n (Nat.le_refl _)
  exact ⟨h.1, fun i j hi hj => by rw [h.2 i j hi]; simp [hj]⟩
theorem back_back {n : Nat} {a : List Int} (ha : Web n a) : backL (backL a) = a := by
  have h1 := web_back ha
  have h2 := web_back h1.1
  exact Web.ext h2.1 ha fun i j hi hj => by rw [h2.2 i j hi hj, h1.2 j i hj hi]
theorem back_then {n : Nat} {a b : List Int} (ha : Web n a) (hb : Web n b) : backL (thenL a b) = thenL (backL b) (backL a) := by
  have ht := web_then ha hb
  have h1 := web_back ht.1
  have a1 := web_back ha
  have b1 := web_back hb
  have h2 := web_then b1.1 a1.1
  refine Web.ext h1.1 h2.1 fun i j hi hj => ?_
  rw [h1.2 i j hi hj, Bool.eq_iff_iff, ht.2 j i hj, h2.2 i j hi]
  constructor
  · rintro ⟨k, hk, x, y⟩; exact ⟨k, hk, by rw [b1.2 i k hi hk]; exact y, by rw [a1.2 k j hk hj]; exact x⟩
  · rintro ⟨k, hk, x, y⟩; exact ⟨k, hk, by rw [← a1.2 k j hk hj]; exact y, by rw [← b1.2 i k hi hk]; exact x⟩
theorem join_parts {n : Nat} {a b : List Int} (ha : Web n a) (hb : Web n b) : mixL orI (mixL notI a b) (mixL andI a b) = a := by
  have l := web_less ha hb
  have c := web_common ha hb
  have j := web_join l.1 c.1
  refine Web.ext j.1 ha fun i k hi hk => ?_
  rw [j.2 i k hi, l.2 i k hi, c.2 i k hi]
  cases line a i k <;> cases line b i k <;> rfl
theorem join_comm {n : Nat} {a b : List Int} (ha : Web n a) (hb : Web n b) : mixL orI b a = mixL orI a b := by
  have j := web_join ha hb
  have k := web_join hb ha
  exact Web.ext k.1 j.1 fun i m hi hm => by rw [k.2 i m hi, j.2 i m hi, Bool.or_comm]

/-! All lines of a are lines of b. -/
def inL (a b : List Int) : Bool := decide (a.length = b.length) && (List.range a.length).all fun i => notI (a.getD i 0) (b.getD i 0) == 0
theorem inL_web {n : Nat} {a b : List Int} (ha : Web n a) (hb : Web n b) (h : ∀ i j, i < n → j < n → line a i j = true → line b i j = true) : inL a b = true := by
  unfold inL
  rw [Bool.and_eq_true, decide_eq_true_eq, List.all_eq_true]
  refine ⟨by rw [ha.2.1, hb.2.1], fun i hi => ?_⟩
  have hi : i < n := by rw [List.mem_range, ha.2.1] at hi; exact hi
  have ho := ok_not (ha.2.2 i hi) (hb.2.2 i hi)
  rw [beq_iff_eq]
  refine ok_ext ho.1 (ok_zero ha.1) fun j hj => ?_
  rw [ho.2 j, zero_bit]
  have := h i j hi hj
  unfold line at this
  cases h1 : inSetB (a.getD i 0) j with
  | false => rfl
  | true => rw [this h1]; rfl

/-! Ways. -/
inductive Way (zs : List Int) : Nat → Nat → Prop
  | one {i j : Nat} (h : line zs i j = true) : Way zs i j
  | more {i k j : Nat} (h : Way zs i k) (g : line zs k j = true) : Way zs i j
theorem Way.trans {zs : List Int} {i k j : Nat} (h : Way zs i k) (g : Way zs k j) : Way zs i j := by
  induction g with
  | one g => exact .more h g
  | more _ g ih => exact .more ih g
theorem Way.lt {n : Nat} {zs : List Int} (hz : Web n zs) {i j : Nat} (hi : i < n) (h : Way zs i j) : j < n := by
  induction h with
  | one g => exact hz.lt hi g
  | more _ g ih => exact hz.lt ih g
/-- What is found after m are let by: ways, and all that pass the first m alone. -/
theorem wayAll_sound {n : Nat} {zs : List Int} (hz : Web n zs) (m : Nat) (hm : m ≤ n) {i : Nat} (hi : i < n) {j : Nat} (h : line (wayAll zs m) i j = true) : Way zs i j := by
  induction m generalizing i j with
  | zero => exact .one h
  | succ m ih =>
    rw [line_wayAll hz m (by omega) hi, Bool.or_eq_true, Bool.and_eq_true] at h
    rcases h with h | ⟨h1, h2⟩
    · exact ih (by omega) hi h
    · exact (ih (by omega) hi h1).trans (ih (by omega) (by omega) h2)
theorem wayAll_mono {n : Nat} {zs : List Int} (hz : Web n zs) (m : Nat) (hm : m < n) {i : Nat} (hi : i < n) {j : Nat} (h : line (wayAll zs m) i j = true) : line (wayAll zs (m + 1)) i j = true := by
  rw [line_wayAll hz m hm hi, h]; rfl
/-- Behind m rounds two ways that meet at one of the first m are one. -/
theorem wayAll_meet {n : Nat} {zs : List Int} (hz : Web n zs) (m : Nat) (hm : m ≤ n) {i k j : Nat} (hi : i < n) (hk : k < m) (h1 : line (wayAll zs m) i k = true) (h2 : line (wayAll zs m) k j = true) : line (wayAll zs m) i j = true := by
  induction m generalizing i k j with
  | zero => omega
  | succ m ih =>
    have hmn : m < n := by omega
    have ihm := @ih (by omega)
    rw [line_wayAll hz m hmn hi, Bool.or_eq_true, Bool.and_eq_true] at h1
    rw [line_wayAll hz m hmn (show k < n by omega), Bool.or_eq_true, Bool.and_eq_true] at h2
    rw [line_wayAll hz m hmn hi, Bool.or_eq_true, Bool.and_eq_true]
    by_cases e : k = m
    · subst e
      have h1' : line (wayAll zs k) i k = true := by
        rcases h1 with h | h
        · exact h
        · exact h.1
      have h2' : line (wayAll zs k) k j = true := by
        rcases h2 with h | h
        · exact h
        · exact h.2
      exact .inr ⟨h1', h2'⟩
    · have hkm : k < m := by omega
      rcases h1 with h1 | ⟨h1, h1'⟩ <;> rcases h2 with h2 | ⟨h2, h2'⟩
      · exact .inl (ihm hi hkm h1 h2)
      · exact .inr ⟨ihm hi hkm h1 h2, h2'⟩
      · exact .inr ⟨h1, ihm hmn hkm h1' h2⟩
      · exact .inr ⟨h1, h2'⟩
theorem ways_eq {n : Nat} {zs : List Int} (hz : Web n zs) : waysL zs = wayAll zs n := by
  unfold waysL
  rw [if_pos hz.b, hz.2.1]
theorem web_ways {n : Nat} {zs : List Int} (hz : Web n zs) : Web n (waysL zs) := by rw [ways_eq hz]; exact web_wayAll hz n (Nat.le_refl _)
theorem wayAll_old {n : Nat} {zs : List Int} (hz : Web n zs) (m : Nat) (hm : m ≤ n) {i : Nat} (hi : i < n) {j : Nat} (h : line zs i j = true) : line (wayAll zs m) i j = true := by
  induction m with
  | zero => exact h
  | succ m ih => exact wayAll_mono hz m (by omega) hi (ih (by omega))
theorem ways_line {n : Nat} {zs : List Int} (hz : Web n zs) {i : Nat} (hi : i < n) {j : Nat} : line (waysL zs) i j = true ↔ Way zs i j := by
  rw [ways_eq hz]
  constructor
  · exact wayAll_sound hz n (Nat.le_refl _) hi
  · intro h
    induction h with
    | one g => exact wayAll_old hz n (Nat.le_refl _) hi g
    | more h g ih =>
      have hk := h.lt hz hi
      exact wayAll_meet hz n (Nat.le_refl _) hi hk ih (wayAll_old hz n (Nat.le_refl _) hk g)
theorem ways_in {n : Nat} {zs : List Int} (hz : Web n zs) : inL zs (waysL zs) = true :=
  inL_web hz (web_ways hz) fun _ _ hi _ h => (ways_line hz hi).2 (.one h)
theorem ways_on {n : Nat} {zs : List Int} (hz : Web n zs) : inL (thenL (waysL zs) (waysL zs)) (waysL zs) = true := by
  have hw := web_ways hz
  have ht := web_then hw hw
  refine inL_web ht.1 hw fun i j hi _ h => ?_
  obtain ⟨k, hk, h1, h2⟩ := (ht.2 i j hi).1 h
  exact (ways_line hz hi).2 (((ways_line hz hi).1 h1).trans ((ways_line hz hk).1 h2))
theorem ways_ways {n : Nat} {zs : List Int} (hz : Web n zs) : waysL (waysL zs) = waysL zs := by
  have hw := web_ways hz
  refine Web.ext (web_ways hw) hw fun i j hi _ => ?_
  rw [Bool.eq_iff_iff, ways_line hw hi]
  constructor
  · intro h
    induction h with
    | one g => exact g
    | more h g ih =>
      have hk := h.lt hw hi
      exact (ways_line hz hi).2 (((ways_line hz hi).1 (ih hk)).trans ((ways_line hz hk).1 g))
  · exact .one

/-! As many rounds as there are. -/
def goOn (zs : List Int) : Nat → List Int
  | 0 => zs
  | m + 1 => mixL orI zs (thenL (goOn zs m) zs)
theorem web_goOn {n : Nat} {zs : List Int} (hz : Web n zs) (m : Nat) : Web n (goOn zs m) := by
  induction m with
  | zero => exact hz
  | succ m ih => exact (web_join hz (web_then ih hz).1).1
theorem goOn_step {n : Nat} {zs : List Int} (hz : Web n zs) (m : Nat) {i : Nat} (hi : i < n) (j : Nat) : line (goOn zs (m + 1)) i j = true ↔ line zs i j = true ∨ ∃ k, k < n ∧ line (goOn zs m) i k = true ∧ line zs k j = true := by
  show line (mixL orI zs (thenL (goOn zs m) zs)) i j = true ↔ _
  have ht := web_then (web_goOn hz m) hz
  rw [(web_join hz ht.1).2 i j hi, Bool.or_eq_true, ht.2 i j hi]
theorem goOn_sound {n : Nat} {zs : List Int} (hz : Web n zs) (m : Nat) {i : Nat} (hi : i < n) {j : Nat} (h : line (goOn zs m) i j = true) : Way zs i j := by
  induction m generalizing j with
  | zero => exact .one h
  | succ m ih =>
    rcases (goOn_step hz m hi j).1 h with h | ⟨k, hk, h1, h2⟩
    · exact .one h
    · exact .more (ih h1) h2
theorem goOn_mono {n : Nat} {zs : List Int} (hz : Web n zs) (m : Nat) {i : Nat} (hi : i < n) {j : Nat} (h : line (goOn zs m) i j = true) : line (goOn zs (m + 1)) i j = true := by
  induction m generalizing j with
  | zero => exact (goOn_step hz 0 hi j).2 (.inl h)
  | succ m ih =>
    rcases (goOn_step hz m hi j).1 h with h | ⟨k, hk, h1, h2⟩
    · exact (goOn_step hz (m + 1) hi j).2 (.inl h)
    · exact (goOn_step hz (m + 1) hi j).2 (.inr ⟨k, hk, ih h1, h2⟩)
/-- How many lines go from i. -/
def many (zs : List Int) (i n : Nat) : Nat := (List.range n).countP (fun j => line zs i j)
theorem many_le (zs : List Int) (i n : Nat) : many zs i n ≤ n := by
  have := List.countP_le_length (p := fun j => line zs i j) (l := List.range n)
  simpa [many] using this
theorem countP_lt {p q : Nat → Bool} {l : List Nat} (h : ∀ x ∈ l, p x = true → q x = true) {y : Nat} (hy : y ∈ l) (h1 : p y = false) (h2 : q y = true) : l.countP p < l.countP q := by
  induction l with
  | nil => simp at hy
  | cons a l ih =>
    have hle : l.countP p ≤ l.countP q := List.countP_mono_left fun x hx hp => h x (by simp [hx]) hp
    rw [List.countP_cons, List.countP_cons]
    rcases List.mem_cons.1 hy with rfl | hy
    · simp [h1, h2]; omega
    · have := ih (fun x hx => h x (by simp [hx])) hy
      have ha := h a (by simp)
      cases hp : p a with
      | false => simp; split <;> omega
      | true => rw [ha hp]; simp; omega
/-- Row i does not change from m on. -/
def Still (zs : List Int) (i n m : Nat) : Prop := ∀ j, j < n → line (goOn zs (m + 1)) i j = true → line (goOn zs m) i j = true
theorem still_next {n : Nat} {zs : List Int} (hz : Web n zs) {i : Nat} (hi : i < n) {m : Nat} (h : Still zs i n m) : Still zs i n (m + 1) := by
  intro j hj hl
  rcases (goOn_step hz (m + 1) hi j).1 hl with hl | ⟨k, hk, h1, h2⟩
  · exact (goOn_step hz m hi j).2 (.inl hl)
  · exact (goOn_step hz m hi j).2 (.inr ⟨k, hk, h k hk h1, h2⟩)
theorem still_or {n : Nat} {zs : List Int} (hz : Web n zs) {i : Nat} (hi : i < n) (m : Nat) : Still zs i n m ∨ m + 1 ≤ many (goOn zs (m + 1)) i n := by
  induction m with
  | zero =>
    by_cases h : Still zs i n 0
    · exact .inl h
    · right
      obtain ⟨j, hj, h1, h2⟩ : ∃ j, j < n ∧ line (goOn zs (0 + 1)) i j = true ∧ line (goOn zs 0) i j = false := by
        apply Classical.byContradiction
        intro hno
        apply h
        intro j hj h1
        cases h2 : line (goOn zs 0) i j with
        | true => rfl
        | false => exact absurd ⟨j, hj, h1, h2⟩ hno
      have := countP_lt (p := fun j => line (goOn zs 0) i j) (q := fun j => line (goOn zs (0 + 1)) i j) (l := List.range n) (fun x hx hp => goOn_mono hz 0 hi hp) (List.mem_range.2 hj) h2 h1
      unfold many; omega
  | succ m ih =>
    rcases ih with ih | ih
    · exact .inl (still_next hz hi ih)
    · by_cases h : Still zs i n (m + 1)
      · exact .inl h
      · right
        obtain ⟨j, hj, h1, h2⟩ : ∃ j, j < n ∧ line (goOn zs (m + 1 + 1)) i j = true ∧ line (goOn zs (m + 1)) i j = false := by
          apply Classical.byContradiction
          intro hno
          apply h
          intro j hj h1
          cases h2 : line (goOn zs (m + 1)) i j with
          | true => rfl
          | false => exact absurd ⟨j, hj, h1, h2⟩ hno
        have := countP_lt (p := fun j => line (goOn zs (m + 1)) i j) (q := fun j => line (goOn zs (m + 1 + 1)) i j) (l := List.range n) (fun x hx hp => goOn_mono hz (m + 1) hi hp) (List.mem_range.2 hj) h2 h1
        unfold many at ih ⊢
        omega
theorem goOn_still {n : Nat} {zs : List Int} (hz : Web n zs) {i : Nat} (hi : i < n) : Still zs i n n := by
  rcases still_or hz hi n with h | h
  · exact h
  · have := many_le (goOn zs (n + 1)) i n; omega
theorem goOn_ways {n : Nat} {zs : List Int} (hz : Web n zs) : goOn zs n = waysL zs := by
  refine Web.ext (web_goOn hz n) (web_ways hz) fun i j hi hj => ?_
  rw [Bool.eq_iff_iff, ways_line hz hi]
  constructor
  · exact goOn_sound hz n hi
  · intro h
    induction h with
    | one g =>
      have : ∀ m, line (goOn zs m) i _ = true := fun m => by
        induction m with
        | zero => exact g
        | succ m ih => exact goOn_mono hz m hi ih
      exact this n
    | more h g ih =>
      have hk := h.lt hz hi
      exact goOn_still hz hi _ hj ((goOn_step hz n hi _).2 (.inr ⟨_, hk, ih hk, g⟩))
end Go.Proofs.Ytefdhogmjijkgaa

/- Plain facts on order: which webs go round, what a web is sorted to (always the least that may stand there), which lists follow it; sorted follows, just where it does not go round. Nothing of the program. -/
namespace Go.Proofs.Ytefdhogmjijkgaa
open Go.RowKit

/-- Does it go round? -/
def roundB (zs : List Int) : Bool := webB zs && (List.range zs.length).any fun i => line (waysL zs) i i
/-- May i stand next, those in 'done' standing already? -/
def mayB (zs : List Int) (done : Int) (i : Nat) : Bool := !inSetB done i && (notI ((backL zs).getD i 0) done == 0)
/-- The least of the first m that may stand next; -1 where none may. -/
def pick (zs : List Int) (done : Int) : Nat → Int
  | 0 => -1
  | m + 1 => if 0 ≤ pick zs done m then pick zs done m else if mayB zs done m = true then (m : Int) else -1
/-- What stands after k steps, and the set of it; none where nothing may stand next. -/
def sortK (zs : List Int) : Nat → Option (List Int × Int)
  | 0 => some ([], 0)
  | k + 1 => match sortK zs k with
    | none => none
    | some (l, d) => if pick zs d zs.length < 0 then none else some (l ++ [pick zs d zs.length], gAdd d (pick zs d zs.length))
def sortedO (zs : List Int) : Option (List Int × Int) := if webB zs = true then sortK zs zs.length else none
def sortedL (zs : List Int) : List Int := match sortedO zs with
  | none => []
  | some (l, _) => l
def sortedB (zs : List Int) : Bool := (sortedO zs).isSome

theorem round_iff {n : Nat} {zs : List Int} (hz : Web n zs) : roundB zs = true ↔ ∃ i, i < n ∧ Way zs i i := by
  unfold roundB
  rw [hz.b, Bool.true_and, List.any_eq_true, hz.2.1]
  constructor
  · rintro ⟨i, hi, h⟩; exact ⟨i, List.mem_range.1 hi, (ways_line hz (List.mem_range.1 hi)).1 h⟩
  · rintro ⟨i, hi, h⟩; exact ⟨i, List.mem_range.2 hi, (ways_line hz hi).2 h⟩
theorem pick_spec (zs : List Int) (d : Int) (m : Nat) : (pick zs d m = -1 ∧ ∀ i, i < m → mayB zs d i = false) ∨ ∃ i, i < m ∧ pick zs d m = (i : Int) ∧ mayB zs d i = true ∧ ∀ j, j < i → mayB zs d j = false := by
  induction m with
  | zero => exact .inl ⟨rfl, fun i hi => by omega⟩
  | succ m ih =>
    unfold pick
    rcases ih with ⟨h, hall⟩ | ⟨i, hi, h, hm, hl⟩
    · rw [h, if_neg (by omega)]
      cases hb : mayB zs d m with
      | false =>
        refine .inl ⟨by simp, fun i hi => ?_⟩
        by_cases e : i = m
        · rw [e]; exact hb
        · exact hall i (by omega)
      | true => exact .inr ⟨m, by omega, by simp, hb, hall⟩
    · rw [h, if_pos (by omega)]
      exact .inr ⟨i, by omega, rfl, hm, hl⟩
/-- i may stand next just where it does not yet, and all from which a line goes to it do. -/
theorem may_iff {n : Nat} {zs : List Int} (hz : Web n zs) {d : Int} (hd : okB n d = true) {i : Nat} (hi : i < n) : mayB zs d i = true ↔ inSetB d i = false ∧ ∀ j, j < n → line zs j i = true → inSetB d j = true := by
  have hb := web_back hz
  have ho := ok_not (hb.1.2.2 i hi) hd
  unfold mayB
  rw [Bool.and_eq_true, Bool.not_eq_true', beq_iff_eq]
  refine and_congr_right fun _ => ?_
  constructor
  · intro h j hj hl
    have h1 := ho.2 j
    rw [h, zero_bit] at h1
    have h2 : inSetB ((backL zs).getD i 0) j = true := by have := hb.2 i j hi hj; unfold line at this hl; rw [this]; exact hl
    rw [h2] at h1
    cases h3 : inSetB d j with
    | true => rfl
    | false => rw [h3] at h1; cases h1
  · intro h
    refine ok_ext ho.1 (ok_zero hz.1) fun j hj => ?_
    rw [ho.2 j, zero_bit]
    cases h2 : inSetB ((backL zs).getD i 0) j with
    | false => rfl
    | true =>
      have : line zs j i = true := by have e := hb.2 i j hi hj; unfold line at e ⊢; rw [← e]; exact h2
      rw [h j hj this]; rfl
/-- What stands is in the set and only that, each once, below n, each behind all that lead to it; and where the next is less than the one ahead of it a line goes between them. -/
structure Stands (zs : List Int) (n k : Nat) (l : List Int) (d : Int) : Prop where
  ok : okB n d = true
  len : l.length = k
  mem : ∀ j : Nat, j < n → (inSetB d j = true ↔ (j : Int) ∈ l)
  low : ∀ x ∈ l, ∃ j : Nat, x = j ∧ j < n
  once : l.Nodup
  ahead : ∀ p, p < l.length → ∀ i j : Nat, l.getD p 0 = (i : Int) → j < n → line zs j i = true → (j : Int) ∈ l.take p
theorem sort_stands {n : Nat} {zs : List Int} (hz : Web n zs) (k : Nat) {l : List Int} {d : Int} (h : sortK zs k = some (l, d)) : Stands zs n k l d := by
  induction k generalizing l d with
  | zero =>
    simp only [sortK, Option.some.injEq, Prod.mk.injEq] at h
    obtain ⟨rfl, rfl⟩ := h
    exact ⟨ok_zero hz.1, rfl, fun j _ => by rw [zero_bit]; simp, by simp, List.nodup_nil, fun p hp => by simp at hp⟩
  | succ k ih =>
    unfold sortK at h
    cases hs : sortK zs k with
    | none => rw [hs] at h; cases h
    | some q =>
      obtain ⟨l0, d0⟩ := q
      rw [hs] at h
      have S := ih hs
      simp only at h
      split at h
      · cases h
      · rename_i hneg
        simp only [Option.some.injEq, Prod.mk.injEq] at h
        obtain ⟨rfl, rfl⟩ := h
        rcases pick_spec zs d0 zs.length with ⟨e, _⟩ | ⟨i, hi, e, hm, _⟩
        · rw [e] at hneg; omega
        · rw [hz.2.1] at hi
          rw [e]
          have hmi := (may_iff hz S.ok hi).1 hm
          have ha := ok_add S.ok hi
          have hnot : ¬ (i : Int) ∈ l0 := fun hin => by
            have := (S.mem i hi).2 hin
            rw [hmi.1] at this; cases this
          refine ⟨ha.1, by simp [S.len], fun j hj => ?_, fun x hx => ?_, ?_, fun p hp a b hab hb hl => ?_⟩
          · rw [ha.2 j, Bool.or_eq_true, S.mem j hj, List.mem_append, List.mem_singleton, decide_eq_true_eq]
            constructor
            · rintro (h | h)
              · exact .inl h
              · exact .inr (by rw [h])
            · rintro (h | h)
              · exact .inl h
              · exact .inr (by omega)
          · rcases List.mem_append.1 hx with hx | hx
            · exact S.low x hx
            · rw [List.mem_singleton] at hx; exact ⟨i, hx, hi⟩
          · rw [List.nodup_append]
            refine ⟨S.once, by simp, fun a ha b hb => ?_⟩
            rw [List.mem_singleton] at hb
            subst hb
            intro e2; subst e2; exact hnot ha
          · by_cases hpl : p < l0.length
            · rw [List.getD_eq_getElem?_getD, List.getElem?_append_left hpl, ← List.getD_eq_getElem?_getD] at hab
              rw [List.take_append_of_le_length (by omega)]
              exact S.ahead p hpl a b hab hb hl
            · have hpe : p = l0.length := by simp at hp; omega
              subst hpe
              rw [List.getD_eq_getElem?_getD, List.getElem?_append_right (Nat.le_refl _), Nat.sub_self] at hab
              have hai : i = a := by simp at hab; omega
              subst hai
              rw [List.take_append_of_le_length (Nat.le_refl _), List.take_length]
              exact (S.mem b hb).1 (hmi.2 b hb hl)
/-- Where j stands in the list. -/
theorem at_of_mem {l : List Int} {x : Int} (h : x ∈ l) : ∃ p, p < l.length ∧ l.getD p 0 = x := by
  obtain ⟨p, hp, e⟩ := List.getElem_of_mem h
  exact ⟨p, hp, by rw [List.getD_eq_getElem?_getD, List.getElem?_eq_getElem hp]; exact e⟩
theorem at_one {l : List Int} (h : l.Nodup) {p q : Nat} (hp : p < l.length) (hq : q < l.length) (e : l.getD p 0 = l.getD q 0) : p = q := by
  rw [List.getD_eq_getElem?_getD, List.getD_eq_getElem?_getD, List.getElem?_eq_getElem hp, List.getElem?_eq_getElem hq] at e
  simp only [Option.getD_some] at e
  have hp2 := List.pairwise_iff_getElem.1 (List.nodup_iff_pairwise_ne.1 h)
  apply Classical.byContradiction
  intro hne
  by_cases hlt : p < q
  · exact hp2 p q hp hq hlt e
  · exact hp2 q p hq hp (by omega) e.symm
theorem at_take {l : List Int} {x : Int} {p : Nat} (h : x ∈ l.take p) : ∃ q, q < p ∧ q < l.length ∧ l.getD q 0 = x := by
  obtain ⟨q, hq, e⟩ := List.getElem_of_mem h
  rw [List.length_take] at hq
  refine ⟨q, by omega, by omega, ?_⟩
  rw [List.getElem_take] at e
  rw [List.getD_eq_getElem?_getD, List.getElem?_eq_getElem (show q < l.length by omega)]; exact e
theorem nodup_sub_len {a b : List Int} (h : a.Nodup) (hs : ∀ x ∈ a, x ∈ b) : a.length ≤ b.length := by
  induction a generalizing b with
  | nil => simp
  | cons x a ih =>
    rw [List.nodup_cons] at h
    have hx := hs x (by simp)
    have := ih (b := b.erase x) h.2 (fun y hy => (List.mem_erase_of_ne (fun e => h.1 (by rw [← e]; exact hy))).2 (hs y (by simp [hy])))
    rw [List.length_erase_of_mem hx] at this
    have := List.length_pos_of_mem hx
    simp; omega
/-- A list of n numbers below n, each once, has all. -/
theorem all_in {n : Nat} {l : List Int} (hl : l.length = n) (hlow : ∀ x ∈ l, ∃ j : Nat, x = j ∧ j < n) (h1 : l.Nodup) {j : Nat} (hj : j < n) : (j : Int) ∈ l := by
  apply Classical.byContradiction
  intro hno
  have hsub : ∀ x ∈ l, x ∈ ((List.range n).erase j).map (fun k : Nat => (k : Int)) := by
    intro x hx
    obtain ⟨k, rfl, hk⟩ := hlow x hx
    rw [List.mem_map]
    refine ⟨k, ?_, rfl⟩
    rw [List.Nodup.mem_erase_iff List.nodup_range]
    exact ⟨fun e => hno (by rw [← e]; exact hx), List.mem_range.2 hk⟩
  have hle := nodup_sub_len h1 hsub
  rw [List.length_map, List.length_erase_of_mem (List.mem_range.2 hj), List.length_range, hl] at hle
  omega
/-- What is sorted whole does not go round. -/
theorem sorted_no_round {n : Nat} {zs : List Int} (hz : Web n zs) {l : List Int} {d : Int} (h : sortK zs n = some (l, d)) : roundB zs = false := by
  have S := sort_stands hz n h
  have hw : ∀ i j, i < n → Way zs i j → ∀ p q, p < l.length → q < l.length → l.getD p 0 = (i : Int) → l.getD q 0 = (j : Int) → p < q := by
    intro i j hi w
    induction w with
    | one g =>
      intro p q hp hq ep eq
      obtain ⟨p', h1, h2, h3⟩ := at_take (S.ahead q hq _ _ eq hi g)
      have := at_one S.once hp h2 (by rw [ep, h3])
      omega
    | more w g ih =>
      intro p q hp hq ep eq
      have hk := w.lt hz hi
      obtain ⟨r, h1, h2, h3⟩ := at_take (S.ahead q hq _ _ eq hk g)
      have := ih p r hp h2 ep h3
      omega
  cases hr : roundB zs with
  | false => rfl
  | true =>
    obtain ⟨i, hi, w⟩ := (round_iff hz).1 hr
    obtain ⟨p, hp, e⟩ := at_of_mem (all_in S.len S.low S.once hi)
    have := hw i i hi w p p hp hp e e
    omega
/-- How many lead to i by ways. -/
def leads (zs : List Int) (n i : Nat) : Nat := (List.range n).countP fun j => line (waysL zs) j i
/-- Where it does not go round one of those that do not stand yet may stand next. -/
theorem may_some {n : Nat} {zs : List Int} (hz : Web n zs) (hr : roundB zs = false) {d : Int} (hd : okB n d = true) (m : Nat) : ∀ i, i < n → leads zs n i ≤ m → inSetB d i = false → ∃ j, j < n ∧ mayB zs d j = true := by
  have nr : ∀ i, i < n → ¬ Way zs i i := fun i hi w => by
    have := (round_iff hz).2 ⟨i, hi, w⟩
    rw [hr] at this; cases this
  induction m with
  | zero =>
    intro i hi hm hn
    refine ⟨i, hi, (may_iff hz hd hi).2 ⟨hn, fun j hj hl => ?_⟩⟩
    exfalso
    have h0 : (List.range n).countP (fun j => line (waysL zs) j i) = 0 := by unfold leads at hm; omega
    rw [List.countP_eq_zero] at h0
    exact h0 j (List.mem_range.2 hj) ((ways_line hz hj).2 (.one hl))
  | succ m ih =>
    intro i hi hm hn
    by_cases hall : ∀ j, j < n → line zs j i = true → inSetB d j = true
    · exact ⟨i, hi, (may_iff hz hd hi).2 ⟨hn, hall⟩⟩
    · obtain ⟨j, hj, hl, hdj⟩ : ∃ j, j < n ∧ line zs j i = true ∧ inSetB d j = false := by
        apply Classical.byContradiction
        intro hno
        apply hall
        intro j hj hl
        cases hdj : inSetB d j with
        | true => rfl
        | false => exact absurd ⟨j, hj, hl, hdj⟩ hno
      refine ih j hj ?_ hdj
      have hlt : leads zs n j < leads zs n i := by
        refine countP_lt (fun k hk hp => ?_) (List.mem_range.2 hj) ?_ ?_
        · have hk := List.mem_range.1 hk
          exact (ways_line hz hk).2 (((ways_line hz hk).1 hp).trans (.one hl))
        · cases h : line (waysL zs) j j with
          | false => rfl
          | true => exact absurd ((ways_line hz hj).1 h) (nr j hj)
        · exact (ways_line hz hj).2 (.one hl)
      omega
theorem sort_goes {n : Nat} {zs : List Int} (hz : Web n zs) (hr : roundB zs = false) (k : Nat) (hk : k ≤ n) : ∃ l d, sortK zs k = some (l, d) := by
  induction k with
  | zero => exact ⟨[], 0, rfl⟩
  | succ k ih =>
    obtain ⟨l, d, hs⟩ := ih (by omega)
    have S := sort_stands hz k hs
    obtain ⟨i, hi, hn⟩ : ∃ i, i < n ∧ inSetB d i = false := by
      apply Classical.byContradiction
      intro hno
      have hsub : ∀ x ∈ (List.range n).map (fun k : Nat => (k : Int)), x ∈ l := by
        intro x hx
        rw [List.mem_map] at hx
        obtain ⟨j, hj, rfl⟩ := hx
        have hj := List.mem_range.1 hj
        refine (S.mem j hj).1 ?_
        cases h : inSetB d j with
        | true => rfl
        | false => exact absurd ⟨j, hj, h⟩ hno
      have hnd : ((List.range n).map (fun k : Nat => (k : Int))).Nodup := by
        rw [List.nodup_iff_pairwise_ne, List.pairwise_map]
        exact List.Pairwise.imp (fun h e => h (by omega)) List.nodup_range
      have hle := nodup_sub_len hnd hsub
      rw [List.length_map, List.length_range, S.len] at hle
      omega
    obtain ⟨j, hj, hm⟩ := may_some hz hr S.ok _ i hi (Nat.le_refl _) hn
    unfold sortK
    rw [hs]
    simp only
    rcases pick_spec zs d zs.length with ⟨_, hall⟩ | ⟨a, _, e, _, _⟩
    · have := hall j (by rw [hz.2.1]; exact hj)
      rw [this] at hm; cases hm
    · rw [if_neg (by omega)]
      exact ⟨_, _, rfl⟩
theorem sorted_iff {n : Nat} {zs : List Int} (hz : Web n zs) : sortedB zs = !roundB zs := by
  have e : sortedO zs = sortK zs n := by unfold sortedO; rw [if_pos hz.b, hz.2.1]
  unfold sortedB
  rw [e]
  cases hr : roundB zs with
  | false => obtain ⟨l, d, h⟩ := sort_goes hz hr n (Nat.le_refl _); rw [h]; rfl
  | true =>
    cases h : sortK zs n with
    | none => rfl
    | some q => obtain ⟨l, d⟩ := q; have := sorted_no_round hz h; rw [hr] at this; cases this
/-- Where the next is less than the one ahead of it a line goes between them. -/
theorem sort_least {n : Nat} {zs : List Int} (hz : Web n zs) (k : Nat) {l : List Int} {d : Int} (h : sortK zs k = some (l, d)) : ∀ p, p + 1 < l.length → l.getD (p + 1) 0 < l.getD p 0 → inSetB (zs.getD (l.getD p 0).toNat 0) (l.getD (p + 1) 0) = true := by
  induction k generalizing l d with
  | zero =>
    simp only [sortK, Option.some.injEq, Prod.mk.injEq] at h
    obtain ⟨rfl, rfl⟩ := h
    intro p hp; simp at hp
  | succ k ih =>
    have S2 := sort_stands hz (k + 1) h
    unfold sortK at h
    cases hs : sortK zs k with
    | none => rw [hs] at h; cases h
    | some q =>
      obtain ⟨l0, d0⟩ := q
      rw [hs] at h
      have S := sort_stands hz k hs
      simp only at h
      split at h
      · cases h
      · rename_i hneg
        simp only [Option.some.injEq, Prod.mk.injEq] at h
        obtain ⟨rfl, rfl⟩ := h
        intro p hp hlt
        rw [List.length_append, List.length_singleton] at hp
        have g1 : (l0 ++ [pick zs d0 zs.length]).getD p 0 = l0.getD p 0 := by
          rw [List.getD_eq_getElem?_getD, List.getElem?_append_left (by omega), ← List.getD_eq_getElem?_getD]
        rw [g1] at hlt ⊢
        by_cases hpl : p + 1 < l0.length
        · have g2 : (l0 ++ [pick zs d0 zs.length]).getD (p + 1) 0 = l0.getD (p + 1) 0 := by
            rw [List.getD_eq_getElem?_getD, List.getElem?_append_left hpl, ← List.getD_eq_getElem?_getD]
          rw [g2] at hlt ⊢
          exact ih hs p hpl hlt
        · have hpe : l0.length = p + 1 := by omega
          have g2 : (l0 ++ [pick zs d0 zs.length]).getD (p + 1) 0 = pick zs d0 zs.length := by
            rw [List.getD_eq_getElem?_getD, List.getElem?_append_right (by omega), hpe, Nat.sub_self]; rfl
          rw [g2] at hlt ⊢
          -- the step ahead of this one
          obtain ⟨k', rfl⟩ : ∃ k', k = k' + 1 := ⟨k - 1, by have := S.len; omega⟩
          unfold sortK at hs
          cases hs1 : sortK zs k' with
          | none => rw [hs1] at hs; cases hs
          | some q =>
            obtain ⟨l1, d1⟩ := q
            rw [hs1] at hs
            have S1 := sort_stands hz k' hs1
            simp only at hs
            split at hs
            · cases hs
            · rename_i hneg1
              simp only [Option.some.injEq, Prod.mk.injEq] at hs
              obtain ⟨rfl, rfl⟩ := hs
              have hp1 : l1.length = p := by rw [List.length_append, List.length_singleton] at hpe; omega
              have g3 : (l1 ++ [pick zs d1 zs.length]).getD p 0 = pick zs d1 zs.length := by
                rw [List.getD_eq_getElem?_getD, List.getElem?_append_right (by omega), hp1, Nat.sub_self]; rfl
              rw [g3] at hlt ⊢
              rcases pick_spec zs d1 zs.length with ⟨e, _⟩ | ⟨a, ha, ea, hma, hla⟩
              · rw [e] at hneg1; omega
              · rcases pick_spec zs (gAdd d1 (pick zs d1 zs.length)) zs.length with ⟨e, _⟩ | ⟨b, hb, eb, hmb, _⟩
                · rw [e] at hneg; omega
                · rw [eb, ea] at hlt ⊢
                  rw [ea] at hmb
                  rw [hz.2.1] at ha hb
                  have hba : b < a := by omega
                  have had := ok_add S1.ok ha
                  have h2 := (may_iff hz had.1 hb).1 hmb
                  have h1 : ¬ mayB zs d1 b = true := by rw [hla b hba]; simp
                  rw [may_iff hz S1.ok hb] at h1
                  have hnb : inSetB d1 b = false := by
                    have := h2.1
                    rw [had.2 b] at this
                    cases h : inSetB d1 b with
                    | false => rfl
                    | true => rw [h] at this; cases this
                  rw [show ((a : Int)).toNat = a from by omega]
                  apply Classical.byContradiction
                  intro hno
                  apply h1
                  refine ⟨hnb, fun j hj hl => ?_⟩
                  have h3 := h2.2 j hj hl
                  rw [had.2 j, Bool.or_eq_true, decide_eq_true_eq] at h3
                  rcases h3 with h3 | h3
                  · exact h3
                  · subst h3; exact absurd hl hno

/-! Follows. -/
/-- May k stand behind those that are seen? -/
def folB (zs : List Int) (s k : Int) : Bool := inB k 0 ((zs.length : Int) - 1) && !inSetB s k && (andI (zs.getD k.toNat 0) (gAdd s k) == 0)
/-- What is seen of the first m; none where one stands wrong. -/
def folK (zs list : List Int) : Nat → Option Int
  | 0 => some 0
  | m + 1 => match folK zs list m with
    | none => none
    | some s => if folB zs s (list.getD m 0) = true then some (gAdd s (list.getD m 0)) else none
def followsB (zs list : List Int) : Bool := webB zs && decide (list.length = zs.length) && (folK zs list list.length).isSome
theorem mem_take_step {l : List Int} {m : Nat} (hm : m < l.length) (x : Int) : x ∈ l.take (m + 1) ↔ x ∈ l.take m ∨ x = l.getD m 0 := by
  rw [take_snoc l m hm, List.mem_append, List.mem_singleton]
theorem stands_follows {n : Nat} {zs : List Int} (hz : Web n zs) {l : List Int} {d : Int} (S : Stands zs n n l d) (m : Nat) (hm : m ≤ n) :
    ∃ s, folK zs l m = some s ∧ okB n s = true ∧ ∀ j : Nat, j < n → (inSetB s j = true ↔ (j : Int) ∈ l.take m) := by
  induction m with
  | zero => exact ⟨0, rfl, ok_zero hz.1, fun j _ => by rw [zero_bit]; simp⟩
  | succ m ih =>
    obtain ⟨s, hs, ok, hbit⟩ := ih (by omega)
    have hml : m < l.length := by rw [S.len]; omega
    obtain ⟨i, ei, hi⟩ := S.low _ (getD_mem hml)
    have hnot : ¬ (i : Int) ∈ l.take m := fun h => by
      obtain ⟨q, h1, h2, h3⟩ := at_take h
      have := at_one S.once h2 hml (by rw [h3, ei])
      omega
    have hns : inSetB s i = false := by
      cases h : inSetB s i with
      | false => rfl
      | true => exact absurd ((hbit i hi).1 h) hnot
    have ha := ok_add ok hi
    have hand := ok_and (hz.2.2 i hi) ha.1
    have hz0 : andI (zs.getD i 0) (gAdd s i) = 0 := by
      refine ok_ext hand.1 (ok_zero hz.1) fun j hj => ?_
      rw [hand.2 j, zero_bit, ha.2 j]
      cases hl : inSetB (zs.getD i 0) j with
      | false => rfl
      | true =>
        have hline : line zs i j = true := hl
        rw [Bool.true_and]
        cases hsj : inSetB s j with
        | true =>
          exfalso
          obtain ⟨q, h1, h2, h3⟩ := at_take ((hbit j hj).1 hsj)
          obtain ⟨q', h4, h5, h6⟩ := at_take (S.ahead q h2 j i h3 hi hline)
          have := at_one S.once h5 hml (by rw [h6, ei])
          omega
        | false =>
          rw [Bool.false_or, decide_eq_false_iff_not]
          intro e
          subst e
          exact hnot (S.ahead m hml i i ei hi hline)
    have hin : inB (i : Int) 0 ((zs.length : Int) - 1) = true := by unfold inB; rw [hz.2.1, decide_eq_true_eq]; omega
    have hf : folB zs s (l.getD m 0) = true := by
      unfold folB
      rw [ei, hin, hns, show ((i : Int)).toNat = i from by omega, hz0]
      rfl
    refine ⟨gAdd s i, ?_, ha.1, fun j hj => ?_⟩
    · unfold folK
      rw [hs]
      simp only
      rw [if_pos hf, ei]
    · rw [ha.2 j, Bool.or_eq_true, hbit j hj, mem_take_step hml, ei, decide_eq_true_eq]
      constructor
      · rintro (h | h)
        · exact .inl h
        · exact .inr (by omega)
      · rintro (h | h)
        · exact .inl h
        · exact .inr (by omega)
theorem sorted_follows {n : Nat} {zs : List Int} (hz : Web n zs) (h : sortedB zs = true) : followsB zs (sortedL zs) = true := by
  have e : sortedO zs = sortK zs n := by unfold sortedO; rw [if_pos hz.b, hz.2.1]
  unfold sortedB at h
  unfold sortedL
  rw [e] at h ⊢
  cases hs : sortK zs n with
  | none => rw [hs] at h; cases h
  | some q =>
    obtain ⟨l, d⟩ := q
    have S := sort_stands hz n hs
    obtain ⟨s, h1, _⟩ := stands_follows hz S n (Nat.le_refl _)
    show followsB zs l = true
    unfold followsB
    rw [hz.b, S.len, hz.2.1, h1]
    simp
theorem sortedL_len (zs : List Int) : (sortedL zs).length ≤ 12 := by
  unfold sortedL sortedO
  cases hw : webB zs with
  | false => simp
  | true =>
    rw [if_pos rfl]
    cases hs : sortK zs zs.length with
    | none => simp
    | some q =>
      obtain ⟨l, d⟩ := q
      have := (sort_stands (web_iff.1 hw) _ hs).len
      have := webB_len hw
      show l.length ≤ 12
      omega

/-! Lifted. -/
/-- All that those of class c reach, of the first m. -/
def liftA (zs cl : List Int) (c : Int) : Nat → Int
  | 0 => 0
  | m + 1 => if cl.getD m 0 = c then orI (liftA zs cl c m) (zs.getD m 0) else liftA zs cl c m
/-- Is one of the first m of class c in the set? -/
def hitB (cl : List Int) (c all : Int) : Nat → Bool
  | 0 => false
  | m + 1 => hitB cl c all m || (decide (cl.getD m 0 = c) && inSetB all m)
/-- The lifted lines from one of class c to the first m. -/
def liftR (zs cl : List Int) (c : Int) : Nat → Int
  | 0 => 0
  | m + 1 => if cl.getD m 0 = c then liftR zs cl c m else if hitB cl (cl.getD m 0) (liftA zs cl c zs.length) zs.length = true then gAdd (liftR zs cl c m) m else liftR zs cl c m
def liftL (zs cl : List Int) : List Int := if webB zs = true ∧ cl.length = zs.length then cl.map (fun c => liftR zs cl c zs.length) else []
theorem ok_liftA {n : Nat} {zs : List Int} (hz : Web n zs) (cl : List Int) (c : Int) (m : Nat) (hm : m ≤ n) : okB n (liftA zs cl c m) = true ∧ ∀ j : Nat, inSetB (liftA zs cl c m) j = true ↔ ∃ a, a < m ∧ cl.getD a 0 = c ∧ line zs a j = true := by
  induction m with
  | zero => exact ⟨ok_zero hz.1, fun j => by rw [show liftA zs cl c 0 = 0 from rfl, zero_bit]; simp⟩
  | succ m ih =>
    have ih := ih (by omega)
    unfold liftA
    by_cases hc : cl.getD m 0 = c
    · have ho := ok_or ih.1 (hz.2.2 m (by omega))
      rw [if_pos hc]
      refine ⟨ho.1, fun j => ?_⟩
      rw [ho.2 j, Bool.or_eq_true, ih.2 j]
      constructor
      · rintro (⟨a, h1, h2, h3⟩ | h)
        · exact ⟨a, by omega, h2, h3⟩
        · exact ⟨m, by omega, hc, h⟩
      · rintro ⟨a, h1, h2, h3⟩
        by_cases e : a = m
        · subst e; exact .inr h3
        · exact .inl ⟨a, by omega, h2, h3⟩
    · rw [if_neg hc]
      refine ⟨ih.1, fun j => ?_⟩
      rw [ih.2 j]
      constructor
      · rintro ⟨a, h1, h2, h3⟩; exact ⟨a, by omega, h2, h3⟩
      · rintro ⟨a, h1, h2, h3⟩
        have : a ≠ m := fun e => hc (by rw [← e]; exact h2)
        exact ⟨a, by omega, h2, h3⟩
theorem hit_iff (cl : List Int) (c all : Int) (m : Nat) : hitB cl c all m = true ↔ ∃ b, b < m ∧ cl.getD b 0 = c ∧ inSetB all b = true := by
  induction m with
  | zero => simp [hitB]
  | succ m ih =>
    unfold hitB
    rw [Bool.or_eq_true, Bool.and_eq_true, decide_eq_true_eq, ih]
    constructor
    · rintro (⟨b, h1, h2, h3⟩ | ⟨h2, h3⟩)
      · exact ⟨b, by omega, h2, h3⟩
      · exact ⟨m, by omega, h2, h3⟩
    · rintro ⟨b, h1, h2, h3⟩
      by_cases e : b = m
      · subst e; exact .inr ⟨h2, h3⟩
      · exact .inl ⟨b, by omega, h2, h3⟩
theorem ok_liftR {n : Nat} {zs : List Int} (hz : Web n zs) (cl : List Int) (c : Int) (m : Nat) (hm : m ≤ n) :
    okB n (liftR zs cl c m) = true ∧ ∀ j : Nat, inSetB (liftR zs cl c m) j = true ↔ j < m ∧ cl.getD j 0 ≠ c ∧ ∃ a b, a < n ∧ b < n ∧ cl.getD a 0 = c ∧ cl.getD b 0 = cl.getD j 0 ∧ line zs a b = true := by
  induction m with
  | zero => exact ⟨ok_zero hz.1, fun j => by rw [show liftR zs cl c 0 = 0 from rfl, zero_bit]; simp⟩
  | succ m ih =>
    have ih := ih (by omega)
    have hA := ok_liftA hz cl c n (Nat.le_refl _)
    have hH : hitB cl (cl.getD m 0) (liftA zs cl c zs.length) zs.length = true ↔ ∃ a b, a < n ∧ b < n ∧ cl.getD a 0 = c ∧ cl.getD b 0 = cl.getD m 0 ∧ line zs a b = true := by
      rw [hit_iff, hz.2.1]
      constructor
      · rintro ⟨b, h1, h2, h3⟩
        obtain ⟨a, h4, h5, h6⟩ := (hA.2 b).1 h3
        exact ⟨a, b, h4, h1, h5, h2, h6⟩
      · rintro ⟨a, b, h1, h2, h3, h4, h5⟩
        exact ⟨b, h2, h4, (hA.2 b).2 ⟨a, h1, h3, h5⟩⟩
    unfold liftR
    by_cases hc : cl.getD m 0 = c
    · rw [if_pos hc]
      refine ⟨ih.1, fun j => ?_⟩
      rw [ih.2 j]
      constructor
      · rintro ⟨h1, h2⟩; exact ⟨by omega, h2⟩
      · rintro ⟨h1, h2, h3⟩
        have : j ≠ m := fun e => h2 (by rw [e]; exact hc)
        exact ⟨by omega, h2, h3⟩
    · rw [if_neg hc]
      by_cases hh : hitB cl (cl.getD m 0) (liftA zs cl c zs.length) zs.length = true
      · rw [if_pos hh]
        have ha := ok_add ih.1 (show m < n by omega)
        refine ⟨ha.1, fun j => ?_⟩
        rw [ha.2 j, Bool.or_eq_true, ih.2 j, decide_eq_true_eq]
        constructor
        · rintro (⟨h1, h2⟩ | h)
          · exact ⟨by omega, h2⟩
          · subst h; exact ⟨by omega, hc, hH.1 hh⟩
        · rintro ⟨h1, h2⟩
          by_cases e : m = j
          · exact .inr e
          · exact .inl ⟨by omega, h2⟩
      · rw [if_neg hh]
        refine ⟨ih.1, fun j => ?_⟩
        rw [ih.2 j]
        constructor
        · rintro ⟨h1, h2⟩; exact ⟨by omega, h2⟩
        · rintro ⟨h1, h2, h3⟩
          have : j ≠ m := fun e => hh (hH.2 (by rw [← e]; exact h3))
          exact ⟨by omega, h2, h3⟩
theorem web_lift {n : Nat} {zs cl : List Int} (hz : Web n zs) (hc : cl.length = n) : Web n (liftL zs cl) ∧
    (∀ i, i < n → (liftL zs cl).getD i 0 = liftR zs cl (cl.getD i 0) n) ∧
    ∀ i j, i < n → (line (liftL zs cl) i j = true ↔ j < n ∧ cl.getD j 0 ≠ cl.getD i 0 ∧ ∃ a b, a < n ∧ b < n ∧ cl.getD a 0 = cl.getD i 0 ∧ cl.getD b 0 = cl.getD j 0 ∧ line zs a b = true) := by
  have e : liftL zs cl = cl.map (fun c => liftR zs cl c n) := by unfold liftL; rw [if_pos ⟨hz.b, by rw [hc, hz.2.1]⟩, hz.2.1]
  have hg : ∀ i, i < n → (cl.map (fun c => liftR zs cl c n)).getD i 0 = liftR zs cl (cl.getD i 0) n := by
    intro i hi
    rw [List.getD_eq_getElem?_getD, List.getElem?_map, List.getD_eq_getElem?_getD, List.getElem?_eq_getElem (show i < cl.length by omega)]
    rfl
  rw [e]
  refine ⟨⟨hz.1, by simp [hc], fun i hi => ?_⟩, hg, fun i j hi => ?_⟩
  · rw [hg i hi]; exact (ok_liftR hz cl _ n (Nat.le_refl _)).1
  · unfold line
    rw [hg i hi]
    exact (ok_liftR hz cl _ n (Nat.le_refl _)).2 j
theorem liftL_len (zs cl : List Int) : (liftL zs cl).length ≤ 12 := by
  unfold liftL
  split
  · rename_i h; have := webB_len h.1; simp; omega
  · simp
end Go.Proofs.Ytefdhogmjijkgaa

/- Plain mathematics of Waited: waits between each two deeds, and no groups. -/
namespace Go.Proofs.Ytefdhogmjijkgaa

def waitD : Dd := (4, 0, 0, 0)
def bareD (d : Dd) : Dd := (d.1, d.2.1, d.2.2.1, 0)
/-- What Waited has made of the first k deeds of a clerk. -/
def waitK (ds : List Dd) : Nat → List Dd
  | 0 => []
  | k + 1 => if (ds.getD k zD).1 = 4 then waitK ds k else if waitK ds k = [] then [bareD (ds.getD k zD)] else waitK ds k ++ [waitD] ++ [bareD (ds.getD k zD)]
def waitC (ds : List Dd) : List Dd := waitK ds ds.length
def waitW (dss : List (List Dd)) : List (List Dd) := dss.map waitC
def waitB (dss : List (List Dd)) : List (List Dd) := if workB dss = true then (if workB (waitW dss) = true then waitW dss else []) else []
def btw : List Dd → List Dd
  | [] => []
  | [d] => [d]
  | d :: e :: r => d :: waitD :: btw (e :: r)
def strip : List Dd → List Dd
  | [] => []
  | d :: r => if d.1 = 4 then strip r else bareD d :: strip r
theorem btw_cons (d : Dd) {r : List Dd} (h : r ≠ []) : btw (d :: r) = d :: waitD :: btw r := by
  cases r with
  | nil => exact absurd rfl h
  | cons e r => rfl
theorem btw_snoc (d : Dd) : ∀ {l : List Dd}, l ≠ [] → btw (l ++ [d]) = btw l ++ [waitD] ++ [d]
  | [], h => absurd rfl h
  | [e], _ => rfl
  | e :: f :: r, _ => by
    rw [List.cons_append, btw_cons e (by simp), btw_snoc d (l := f :: r) (by simp), btw_cons e (by simp)]
    simp
theorem btw_nil {l : List Dd} : btw l = [] ↔ l = [] := by
  cases l with
  | nil => simp [btw]
  | cons d r =>
    cases r with
    | nil => simp [btw]
    | cons e r => simp [btw]
theorem strip_app : ∀ (l m : List Dd), strip (l ++ m) = strip l ++ strip m
  | [], m => by simp [strip]
  | d :: r, m => by
    rw [List.cons_append, strip, strip, strip_app r m]
    split
    · rfl
    · rfl
theorem take_moreW {α : Type} (l : List α) (k : Nat) (z : α) (h : k < l.length) : l.take (k + 1) = l.take k ++ [l.getD k z] := by
  rw [List.take_add_one, List.getElem?_eq_getElem h, List.getD_eq_getElem?_getD, List.getElem?_eq_getElem h]
  rfl
theorem waitK_btw (ds : List Dd) : ∀ k : Nat, k ≤ ds.length → waitK ds k = btw (strip (ds.take k))
  | 0, _ => by simp [waitK, strip, btw]
  | k + 1, h => by
    rw [waitK, waitK_btw ds k (by omega), take_moreW ds k zD (by omega), strip_app]
    simp only [strip]
    split
    · simp
    · split
      · rename_i h0
        rw [btw_nil] at h0
        rw [h0]
        rfl
      · rename_i h0
        rw [btw_nil] at h0
        rw [btw_snoc _ h0]
theorem waitC_btw (ds : List Dd) : waitC ds = btw (strip ds) := by
  rw [waitC, waitK_btw ds _ (Nat.le_refl _), List.take_length]
def bareB (l : List Dd) : Prop := ∀ d, d ∈ l → d.1 ≠ 4 ∧ d.2.2.2 = 0
theorem strip_bare : ∀ l : List Dd, bareB (strip l)
  | [] => by simp [bareB, strip]
  | d :: r => by
    have ih := strip_bare r
    rw [strip]
    split
    · exact ih
    · rename_i h
      intro x hx
      rcases List.mem_cons.1 hx with rfl | hx
      · exact ⟨h, rfl⟩
      · exact ih x hx
theorem bareD_same {d : Dd} (h : d.2.2.2 = 0) : bareD d = d := by
  obtain ⟨a, b, c, e⟩ := d
  simp only at h
  subst h
  rfl
theorem strip_btw : ∀ {l : List Dd}, bareB l → strip (btw l) = l
  | [], _ => rfl
  | [d], h => by
    have h1 := h d (by simp)
    simp only [btw, strip]
    rw [if_neg h1.1, bareD_same h1.2]
  | d :: e :: r, h => by
    have h1 := h d (by simp)
    have ih := strip_btw (l := e :: r) (fun x hx => h x (by simp only [List.mem_cons] at hx ⊢; exact .inr hx))
    rw [btw_cons d (by simp), strip, if_neg h1.1, bareD_same h1.2, strip, if_pos (show waitD.1 = 4 from rfl), ih]
/-- What is waited stays so. -/
theorem waitC_twice (ds : List Dd) : waitC (waitC ds) = waitC ds := by
  rw [waitC_btw, waitC_btw, strip_btw (strip_bare ds)]
theorem waitW_twice (dss : List (List Dd)) : waitW (waitW dss) = waitW dss := by
  simp only [waitW, List.map_map]
  congr 1
  funext ds
  exact waitC_twice ds
def evS (ds : List Dd) : Int := (ds.map evD).sum
theorem evK_take (ds : List Dd) : ∀ k : Nat, k ≤ ds.length → evK ds k = evS (ds.take k)
  | 0, _ => by simp [evK, evS]
  | k + 1, h => by
    rw [evK, evK_take ds k (by omega), take_moreW ds k zD (by omega)]
    simp [evS]
theorem evK_sum (ds : List Dd) : evK ds ds.length = evS ds := by rw [evK_take ds _ (Nat.le_refl _), List.take_length]
theorem evD_bare (d : Dd) : evD (bareD d) = evD d := rfl
theorem evS_strip : ∀ l : List Dd, evS (strip l) = evS l
  | [] => rfl
  | d :: r => by
    have ih := evS_strip r
    rw [strip]
    split
    · rename_i h
      rw [ih]
      simp [evS, evD, h]
    · simp only [evS, List.map_cons, List.sum_cons, evD_bare] at ih ⊢
      rw [ih]
theorem evS_btw : ∀ l : List Dd, evS (btw l) = evS l
  | [] => rfl
  | [d] => rfl
  | d :: e :: r => by
    have ih := evS_btw (e :: r)
    rw [btw_cons d (by simp)]
    simp only [evS, List.map_cons, List.sum_cons] at ih ⊢
    rw [ih]
    simp [evD, waitD]
theorem evS_wait (ds : List Dd) : evS (waitC ds) = evS ds := by rw [waitC_btw, evS_btw, evS_strip]
theorem evW_map (dss : List (List Dd)) (f : List Dd → List Dd) (hf : ∀ ds, evS (f ds) = evS ds) (h0 : f [] = []) : ∀ i : Nat, evW (dss.map f) i = evW dss i
  | 0 => rfl
  | i + 1 => by
    have e1 : (dss.map f).getD i [] = f (dss.getD i []) := by
      rw [List.getD_eq_getElem?_getD, List.getElem?_map, List.getD_eq_getElem?_getD]
      cases dss[i]? with
      | none => exact h0.symm
      | some x => rfl
    rw [evW, evW, evW_map dss f hf h0 i, e1, evK_sum, evK_sum, hf]
/-- A waited work has as many events. -/
theorem evW_wait (dss : List (List Dd)) : evW (waitW dss) (waitW dss).length = evW dss dss.length := by
  rw [waitW, List.length_map, evW_map dss waitC evS_wait rfl]
theorem waitK_pre (ds : List Dd) (k : Nat) : ∀ n : Nat, k ≤ n → ∃ t, waitK ds n = waitK ds k ++ t
  | 0, h => by
    obtain rfl : k = 0 := by omega
    exact ⟨[], by simp⟩
  | n + 1, h => by
    by_cases e : k = n + 1
    · subst e; exact ⟨[], by simp⟩
    · obtain ⟨t, ht⟩ := waitK_pre ds k n (by omega)
      rw [waitK]
      split
      · exact ⟨t, ht⟩
      · split
        · rename_i h0
          rw [h0] at ht
          have h1 : waitK ds k = [] := by
            cases hw : waitK ds k with
            | nil => rfl
            | cons a b => rw [hw] at ht; cases ht
          rw [h1]
          exact ⟨_, rfl⟩
        · rw [ht]
          exact ⟨t ++ [waitD] ++ [bareD (ds.getD n zD)], by simp⟩
theorem waitK_len (ds : List Dd) : ∀ k : Nat, (waitK ds k).length ≤ 2 * k
  | 0 => by simp [waitK]
  | k + 1 => by
    have ih := waitK_len ds k
    rw [waitK]
    split
    · omega
    · split
      · simp; omega
      · simp; omega
end Go.Proofs.Ytefdhogmjijkgaa

/- What the law on kept lines asks: they are of those behind, which do not go round and go on by themselves; of a waited work all are kept. -/
namespace Go.Proofs.Ytefdhogmjijkgaa
open Go.RowKit

theorem kep_in {dss : List (List Dd)} {es : List Ev} (h : es.length ≤ 12) : inL (kepL dss es) (behL es) = true := by
  have h1 := beh_line h
  have h2 := kep_line (dss := dss) h
  refine inL_web h2.1 h1.1 (fun i j hi hj hl => ?_)
  rw [h2.2 i j hi] at hl
  rw [h1.2 i j hi]
  simp only [Bool.and_eq_true] at hl ⊢
  exact hl.1
theorem plc_in {es : List Ev} (h : es.length ≤ 12) : inL (plcL es) (behL es) = true := by
  have h1 := beh_line h
  have h2 := plc_line h
  refine inL_web h2.1 h1.1 (fun i j hi hj hl => ?_)
  rw [h2.2 i j hi] at hl
  rw [h1.2 i j hi]
  simp only [Bool.and_eq_true] at hl ⊢
  exact hl.1
theorem behP_lt {es : List Ev} {i j : Nat} (h : behP es i j = true) : i < j := by
  apply Classical.byContradiction
  intro hn
  rw [behP_up (by omega)] at h
  cases h
theorem behP_trans {es : List Ev} {i k j : Nat} (h1 : behP es i k = true) (h2 : behP es k j = true) : behP es i j = true := by
  have a := behP_lt h1
  have b := behP_lt h2
  unfold behP at h1 h2 ⊢
  simp only [Bool.and_eq_true, Bool.or_eq_true, decide_eq_true_eq, beq_iff_eq] at h1 h2 ⊢
  refine ⟨by omega, ?_⟩
  rcases h1.2 with ⟨h3, h4⟩ | ⟨h3, h4⟩
  · exact .inl ⟨h3, by omega⟩
  · rcases h2.2 with ⟨h5, h6⟩ | ⟨h5, h6⟩
    · omega
    · exact .inr ⟨h3, h4.trans h6⟩
theorem beh_on {es : List Ev} (h : es.length ≤ 12) : inL (thenL (behL es) (behL es)) (behL es) = true := by
  have h1 := beh_line h
  have h2 := web_then h1.1 h1.1
  refine inL_web h2.1 h1.1 (fun i j hi hj hl => ?_)
  obtain ⟨k, hk, a, b⟩ := (h2.2 i j hi).1 hl
  rw [h1.2 i k hi] at a
  rw [h1.2 k j hk] at b
  rw [h1.2 i j hi]
  simp only [Bool.and_eq_true, decide_eq_true_eq] at a b ⊢
  exact ⟨hj, behP_trans a.2 b.2⟩
theorem beh_way {es : List Ev} (h : es.length ≤ 12) {i j : Nat} (hi : i < es.length) (hw : Way (behL es) i j) : i < j := by
  have h1 := beh_line h
  have step : ∀ a b, a < es.length → line (behL es) a b = true → a < b := fun a b ha hl => by
    rw [h1.2 a b ha] at hl
    simp only [Bool.and_eq_true] at hl
    exact behP_lt hl.2
  induction hw with
  | one h2 => exact step _ _ hi h2
  | more h2 g ih =>
    have a := ih
    have b := step _ _ (h2.lt h1.1 hi) g
    omega
theorem beh_round {es : List Ev} (h : es.length ≤ 12) : roundB (behL es) = false := by
  cases hr : roundB (behL es) with
  | false => rfl
  | true =>
    obtain ⟨i, hi, hw⟩ := (round_iff (beh_line h).1).1 hr
    have := beh_way h hi hw
    omega
theorem btw_odd : ∀ (l : List Dd) (m : Nat), 2 * m + 1 < (btw l).length → (btw l).getD (2 * m + 1) zD = waitD
  | [], m, h => by simp [btw] at h
  | [d], m, h => by simp [btw] at h
  | d :: e :: r, 0, h => by rw [btw_cons d (by simp)]; rfl
  | d :: e :: r, m + 1, h => by
    rw [btw_cons d (by simp)] at h ⊢
    have ih := btw_odd (e :: r) m (by simp at h; omega)
    rw [show 2 * (m + 1) + 1 = (2 * m + 1) + 1 + 1 by omega, List.getD_cons_succ, List.getD_cons_succ]
    exact ih
/-- In a list that is waited a wait stands between each two other deeds. -/
theorem wait_between {ds : List Dd} {lo hi : Nat} (h : lo < hi) (hh : hi < (waitC ds).length) (h1 : ((waitC ds).getD lo zD).1 ≠ 4) (h2 : ((waitC ds).getD hi zD).1 ≠ 4) : waitsD (waitC ds) lo hi = true := by
  rw [waitC_btw] at hh h1 h2 ⊢
  have even : ∀ q, q < (btw (strip ds)).length → ((btw (strip ds)).getD q zD).1 ≠ 4 → q % 2 = 0 := by
    intro q hq hn
    apply Classical.byContradiction
    intro ho
    have e : q = 2 * (q / 2) + 1 := by omega
    rw [e] at hq hn
    rw [btw_odd _ _ hq] at hn
    exact hn rfl
  have a := even lo (by omega) h1
  have b := even hi hh h2
  have e : lo + 1 = 2 * (lo / 2) + 1 := by omega
  refine waitsD_yes (j := lo + 1) (by omega) (by omega) ?_
  rw [e, btw_odd _ _ (by omega)]
  rfl
/-- Of a waited work all lines behind are kept. -/
theorem kept_waited {dss : List (List Dd)} (hw : workB (waitW dss) = true) : kepL (waitW dss) (eventsB (waitW dss)) = behL (eventsB (waitW dss)) := by
  obtain ⟨h12, _, _, _, hG⟩ := events_law hw
  have e1 : eventsB (waitW dss) = evsW (waitW dss) (waitW dss).length := by rw [eventsB, if_pos hw]
  rw [e1]
  obtain ⟨ho, _, hN⟩ := evs_ord (waitW dss) (waitW dss).length
  generalize evsW (waitW dss) (waitW dss).length = es at h12 hG ho hN
  have b1 := beh_line h12
  have k1 := kep_line (dss := waitW dss) h12
  refine Web.ext k1.1 b1.1 (fun i j hi hj => ?_)
  rw [k1.2 i j hi, b1.2 i j hi]
  suffices hs : behP es i j = true → kepP (waitW dss) es i j = false by
    cases hb : behP es i j with
    | false => simp
    | true => rw [hs hb]; simp
  intro hb
  cases hk : kepP (waitW dss) es i j with
  | false => rfl
  | true =>
    exfalso
    have hij := behP_lt hb
    unfold kepP kepQ at hk
    simp only [Bool.and_eq_true, decide_eq_true_eq, Bool.not_eq_true'] at hk
    obtain ⟨⟨h3, _⟩, ⟨⟨h4, h5⟩, _⟩, ⟨h6, h7⟩, h8⟩ := hk
    have hcl : (es.getD i zE).1 = (es.getD j zE).1 := by
      unfold behP at hb
      simp only [Bool.and_eq_true, Bool.or_eq_true, decide_eq_true_eq, beq_iff_eq] at hb
      rcases hb.2 with h | h
      · omega
      · exact h.2
    obtain ⟨ci, qi, _, _, _, ei, hci, hqi, _⟩ := hG i h3 hi
    obtain ⟨cj, qj, _, _, _, ej, hcj, hqj, _⟩ := hG j (by omega) hj
    have xi : es[i]? = some (es.getD i zE) := by rw [List.getD_eq_getElem?_getD, List.getElem?_eq_getElem hi]; rfl
    have xj : es[j]? = some (es.getD j zE) := by rw [List.getD_eq_getElem?_getD, List.getElem?_eq_getElem hj]; rfl
    have mi : es.getD i zE ∈ es := List.mem_of_getElem? xi
    have mj : es.getD j zE ∈ es := List.mem_of_getElem? xj
    have hord : OrdE (waitW dss) (es.getD i zE) (es.getD j zE) := by
      have := List.pairwise_iff_getElem.1 ho i j hi hj hij
      rw [List.getElem?_eq_getElem hi] at xi
      rw [List.getElem?_eq_getElem hj] at xj
      rw [Option.some.inj xi, Option.some.inj xj] at this
      exact this
    have gi := Option.some.inj (xi.symm.trans ei)
    have gj := Option.some.inj (xj.symm.trans ej)
    have hni := hN _ mi
    have hnj := hN _ mj
    clear hN ho hG xi xj mi mj ei ej
    generalize es.getD i zE = a at gi h4 h6 h7 hcl hord hni
    generalize es.getD j zE = b at gj h5 h6 h8 hcl hord hnj
    subst gi gj
    simp only at hcl
    have hcc : ci = cj := by omega
    subst hcc
    have hord := hord rfl (by simp only; omega)
    unfold dOf at hord h7 h8 hni hnj
    simp only [Int.toNat_natCast] at hord h6 h7 h8 hni hnj
    have hni := hni (by omega)
    have hnj := hnj (by omega)
    have hk3 : (((waitW dss).getD ci []).getD qi zD).1 ≠ 3 := fun e => by unfold wholeD at h7; rw [e] at h7; simp at h7
    have hq : qi < qj := by
      rcases hord with h | h
      · omega
      · exact absurd h.2 hk3
    have hg : (waitW dss).getD ci [] = waitC (dss.getD ci []) := by
      have hl : ci < dss.length := by simpa [waitW] using hci
      rw [waitW, List.getD_eq_getElem?_getD, List.getElem?_map, List.getD_eq_getElem?_getD, List.getElem?_eq_getElem hl]
      rfl
    rw [hg] at h6 hni hnj hqj
    rw [wait_between hq hqj hni hnj] at h6
    cases h6
theorem kept_waitB (dss : List (List Dd)) : kepL (waitB dss) (eventsB (waitB dss)) = behL (eventsB (waitB dss)) := by
  have e0 : kepL [] (eventsB []) = behL (eventsB []) := by
    have : workB [] = false := by decide
    rw [eventsB, this]
    rfl
  unfold waitB
  split
  · split
    · rename_i h
      exact kept_waited h
    · exact e0
  · exact e0
/-- What the law asks of two events of which one stands behind the other. -/
theorem kept_cell {dss : List (List Dd)} {es : List Ev} (h : es.length ≤ 12) {i j : Nat} (hi : i < es.length) (hj : j < es.length) (hB : inSetB ((behL es).getD i 0) j = true) :
    (inSetB ((kepL dss es).getD i 0) j = true ∨ (inSetB ((kepL dss es).getD i 0) j = false ∧ 3 ≤ i ∧ (es.getD i zE).2.2.1 = false ∧ (es.getD j zE).2.2.1 = true)) ∧
    inSetB ((plcL es).getD i 0) j = ((es.getD i zE).2.2.2.1 == (es.getD j zE).2.2.2.1) := by
  have b1 := (beh_line h).2 i j hi
  have k1 := (kep_line (dss := dss) h).2 i j hi
  have p1 := (plc_line h).2 i j hi
  unfold line at b1 k1 p1
  rw [hB] at b1
  have hd : decide (j < es.length) = true := decide_eq_true hj
  rw [hd, Bool.true_and] at b1 k1 p1
  rw [← b1, Bool.true_and] at k1 p1
  refine ⟨?_, ?_⟩
  · cases hk : kepP dss es i j with
    | false => rw [hk] at k1; exact .inl k1
    | true =>
      rw [hk] at k1
      refine .inr ⟨k1, ?_⟩
      unfold kepP kepQ rdE at hk
      simp only [Bool.and_eq_true, decide_eq_true_eq, Bool.not_eq_true'] at hk
      exact ⟨hk.1.1, hk.2.1.1.1, hk.2.1.1.2⟩
  · rw [p1]
    unfold plcP
    rw [bne, Bool.not_not]
end Go.Proofs.Ytefdhogmjijkgaa

/- Plain bounds on what Waited answers. -/
namespace Go.Proofs.Ytefdhogmjijkgaa
theorem workB_small {x : List (List Dd)} (h : workB x = true) : x.length ≤ 1048576 ∧ lenW x ≤ 1048576 ∧ ∀ i, i < x.length → (x.getD i []).length ≤ 1048576 := by
  simp only [workB, Bool.and_eq_true, decide_eq_true_eq] at h
  obtain ⟨⟨⟨⟨h1, h2⟩, h3⟩, _⟩, _⟩ := h
  refine ⟨by omega, by omega, fun i hi => ?_⟩
  have := all_get [] h2 i hi
  simp only [okL, Bool.and_eq_true, decide_eq_true_eq] at this
  omega
theorem waitB_small (dss : List (List Dd)) : (waitB dss).length ≤ 1048576 ∧ lenW (waitB dss) ≤ 1048576 ∧ ∀ i, i < (waitB dss).length → ((waitB dss).getD i []).length ≤ 1048576 := by
  unfold waitB
  split
  · split
    · rename_i h
      exact workB_small h
    · exact ⟨by simp, by simp [lenW], by simp⟩
  · exact ⟨by simp, by simp [lenW], by simp⟩
end Go.Proofs.Ytefdhogmjijkgaa

/- Plain facts on the lists that the loops of Then, Back and Ways build. -/
namespace Go.Proofs.Ytefdhogmjijkgaa
open Go.RowKit

/-- The first k places are done, the others are 0. -/
def thenK (a b : List Int) (k : Nat) : List Int := (a.map (fun x => thenS x b 12)).take k ++ List.replicate (a.length - k) 0
theorem thenK_len (a b : List Int) {k : Nat} (hk : k ≤ a.length) : (thenK a b k).length = a.length := by
  unfold thenK
  rw [List.length_append, List.length_take, List.length_map, List.length_replicate]; omega
theorem thenK_zero (a b : List Int) : thenK a b 0 = List.replicate a.length 0 := by simp [thenK]
theorem thenK_end (a b : List Int) : thenK a b a.length = a.map (fun x => thenS x b 12) := by
  unfold thenK
  rw [Nat.sub_self, List.replicate_zero, List.append_nil, List.take_of_length_le (by simp)]
theorem thenK_set (a b : List Int) {k : Nat} (hk : k < a.length) : (thenK a b k).set k (thenS (a.getD k 0) b 12) = thenK a b (k + 1) := by
  unfold thenK
  have hz : k < (a.map (fun x => thenS x b 12)).length := by simpa using hk
  have hl : ((a.map (fun x => thenS x b 12)).take k).length = k := by rw [List.length_take]; omega
  rw [List.set_append_right _ _ (by omega), hl, Nat.sub_self, show a.length - k = (a.length - (k + 1)) + 1 from by omega, List.replicate_succ, List.set_cons_zero, List.take_succ_eq_append_getElem hz, List.append_assoc, List.getElem_map, List.getD_eq_getElem?_getD, List.getElem?_eq_getElem hk]
  rfl
theorem thenK_same (a b : List Int) {k : Nat} (hk : k < a.length) : (thenK a b k).set k 0 = thenK a b k := by
  unfold thenK
  have hl : ((a.map (fun x => thenS x b 12)).take k).length = k := by rw [List.length_take, List.length_map]; omega
  rw [List.set_append_right _ _ (by omega), hl, Nat.sub_self, show a.length - k = (a.length - (k + 1)) + 1 from by omega, List.replicate_succ, List.set_cons_zero]
/-- The j-th member is one of the set's n. -/
theorem mem_at {n : Nat} {p : Int} (hp : okB n p = true) {j : Nat} (hj : j < (mem p 12).length) : ∃ m : Nat, (mem p 12).getD j 0 = m ∧ m < n := by
  have hm := getD_mem hj
  obtain ⟨m, _, e, hs⟩ := (mem_iff p 12 _).1 hm
  exact ⟨m, e, inSetB_iff hp hs⟩
theorem foldl_snoc {α : Type} (f : α → Int → α) (x : α) (l : List Int) {j : Nat} (hj : j < l.length) : (l.take (j + 1)).foldl f x = f ((l.take j).foldl f x) (l.getD j 0) := by
  rw [take_snoc l j hj, List.foldl_append]; rfl
theorem set_set_same (l : List Int) (k : Nat) (x y : Int) : (l.set k x).set k y = l.set k y := by simp
theorem getD_set_same (l : List Int) {k : Nat} (hk : k < l.length) (x : Int) : (l.set k x).getD k 0 = x := by rw [getD_set l k k x hk, if_pos rfl]
theorem backF_len (i : Nat) (st : List Int) (l : List Int) : (l.foldl (backF i) st).length = st.length := by
  induction l generalizing st with
  | nil => rfl
  | cons x l ih => rw [List.foldl_cons, ih]; simp [backF]
theorem backAll_len (zs : List Int) (m : Nat) : (backAll zs m).length = zs.length := by
  induction m with
  | zero => simp [backAll]
  | succ m ih => unfold backAll; rw [backIn_len, ih]
theorem wayAll_len (zs : List Int) (m : Nat) : (wayAll zs m).length = zs.length := by
  induction m with
  | zero => rfl
  | succ m ih => unfold wayAll; rw [wayIn_len, ih]
end Go.Proofs.Ytefdhogmjijkgaa
