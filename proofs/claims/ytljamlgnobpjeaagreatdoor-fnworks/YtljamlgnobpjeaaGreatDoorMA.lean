/- Several texts in one. -/
import Derived.WalkKit
import Derived.ProofKit
import Derived.Laws.BitsAllLaws
import Derived.Laws.BitsLemmas
import Derived.Test.YtljamlgnobpjeaaGreatDoorRows
import Derived.OpenShut
import Derived.Lib.IndexMore
import Derived.Lib.ParseIntB
import Derived.Lib.ItoaNum
import Derived.Lib.SplitLaws
import Derived.Lib.Join
/- Plain facts on numbers, bits and lists that the contracts of this seat speak of: nothing of the program. -/
namespace Go.Proofs.YtljamlgnobpjeaaGreatDoor
open Go.RowKit

theorem ret_bool {a b : Bool} (h : a = b) : Ending.returned (.bool a) = .returned (.bool b) := by rw [h]
theorem ret_int {k : IntKind} {a b : Int} (h : a = b) : Ending.returned (.int k a) = .returned (.int k b) := by rw [h]

theorem ofInt_i64 (a : Nat) (ha : a < 9223372036854775808) : (BitVec.ofInt 64 (a : Int)).toNat = a := ofInt_u64 a (by omega)
theorem i64_or_nat (a b : Nat) (ha : a < 9223372036854775808) (hb : b < 9223372036854775808) : bits .or .i64 (a : Int) (b : Int) = ((a ||| b : Nat) : Int) := by
  have hx : a ||| b < 2 ^ 63 := Nat.or_lt_two_pow (by omega) (by omega)
  show IntKind.i64.wrap ((BitVec.ofInt 64 (a : Int) ||| BitVec.ofInt 64 (b : Int)).toNat : Int) = _
  rw [BitVec.toNat_or, ofInt_i64 a ha, ofInt_i64 b hb, IntKind.wrap_i64]
  omega
theorem i64_and_nat (a b : Nat) (ha : a < 9223372036854775808) (hb : b < 9223372036854775808) : bits .and .i64 (a : Int) (b : Int) = ((a &&& b : Nat) : Int) := by
  have hx : a &&& b < 2 ^ 63 := Nat.and_lt_two_pow _ (by omega)
  show IntKind.i64.wrap ((BitVec.ofInt 64 (a : Int) &&& BitVec.ofInt 64 (b : Int)).toNat : Int) = _
  rw [BitVec.toNat_and, ofInt_i64 a ha, ofInt_i64 b hb, IntKind.wrap_i64]
  omega
theorem pow_le12 (n : Nat) (h : n ≤ 12) : (2 : Int) ^ n ≤ 4096 ∧ (1 : Int) ≤ 2 ^ n := by
  have : n = 0 ∨ n = 1 ∨ n = 2 ∨ n = 3 ∨ n = 4 ∨ n = 5 ∨ n = 6 ∨ n = 7 ∨ n = 8 ∨ n = 9 ∨ n = 10 ∨ n = 11 ∨ n = 12 := by omega
  rcases this with rfl | rfl | rfl | rfl | rfl | rfl | rfl | rfl | rfl | rfl | rfl | rfl | rfl <;> decide
theorem wrap64_small (x : Int) (h1 : -9223372036854775808 ≤ x) (h2 : x ≤ 9223372036854775807) : wrap64 x = x := by
  simp only [wrap64]; omega
theorem wrap64_pow (n : Int) (h0 : 0 ≤ n) (h : n ≤ 12) : wrap64 (2 ^ n.toNat) = 2 ^ n.toNat := by
  have := pow_le12 n.toNat (by omega)
  exact wrap64_small _ (by omega) (by omega)

/-- Is x from lo to hi? -/
def inB (x lo hi : Int) : Bool := decide (lo ≤ x ∧ x ≤ hi)
/-- Is s a set of n? -/
def okB (n s : Int) : Bool := decide ((0 ≤ n ∧ n ≤ 12) ∧ 0 ≤ s ∧ s < 2 ^ n.toNat)
/-- Is the bit i in s? -/
def bitB (s i : Int) : Bool := bits .and .i64 (s / 2 ^ i.toNat) 1 == 1
/-- Is i in the set s? -/
def inSetB (s i : Int) : Bool := inB i 0 11 && inB s 0 4095 && bitB s i
/-- Those of the first k that are in s. -/
def mem (s : Int) : Nat → List Int
  | 0 => []
  | k + 1 => mem s k ++ (if inSetB s k = true then [(k : Int)] else [])
/-- One more is gathered. -/
def gAdd (s i : Int) : Int := if s = -1 ∨ inB i 0 11 = false then -1 else bits .or .i64 s (wrap64 (2 ^ i.toNat))
/-- The set of a list; -1 where there is none. -/
def gath (l : List Int) : Int := l.foldl gAdd 0

/-- Is n in the list? -/
def hasB (n : Int) (zs : List Int) : Bool := decide (n ∈ zs)

theorem mem_len (s : Int) (k : Nat) : (mem s k).length ≤ k := by
  induction k with
  | zero => simp [mem]
  | succ k ih => unfold mem; split <;> simp <;> omega
theorem mem_out (s : Int) (h : inB s 0 4095 = false) (k : Nat) : mem s k = [] := by
  induction k with
  | zero => rfl
  | succ k ih => unfold mem; rw [ih]; simp [inSetB, h]
theorem gath_snoc (l : List Int) (i : Int) : gath (l ++ [i]) = gAdd (gath l) i := by simp [gath]
theorem gAdd_bad (s i : Int) (h : inB i 0 11 = false) : gAdd s i = -1 := by simp [gAdd, h]
theorem gAdd_none (i : Int) : gAdd (-1) i = -1 := by simp [gAdd]
theorem gAdd_ok (s i : Int) (h0 : 0 ≤ s) (h : inB i 0 11 = true) : gAdd s i = bits .or .i64 s (wrap64 (2 ^ i.toNat)) := by
  have : ¬ s = -1 := by omega
  simp [gAdd, h, this]
theorem gAdd_range (s i : Int) (h0 : 0 ≤ s) (h1 : s ≤ 4095) (h : inB i 0 11 = true) : 0 ≤ gAdd s i ∧ gAdd s i ≤ 4095 := by
  rw [gAdd_ok s i h0 h]
  simp [inB] at h
  obtain ⟨a, rfl⟩ := Int.eq_ofNat_of_zero_le h0
  rw [wrap64_pow i (by omega) (by omega)]
  have hp := pow_le12 i.toNat (by omega)
  have hq : (2 : Nat) ^ i.toNat < 2 ^ 12 := Nat.pow_lt_pow_right (by omega) (by omega)
  have e : ((2 : Int) ^ i.toNat) = ((2 ^ i.toNat : Nat) : Int) := by simp
  rw [e, i64_or_nat a _ (by omega) (by omega)]
  have hx : a ||| 2 ^ i.toNat < 2 ^ 12 := Nat.or_lt_two_pow (by omega) hq
  omega
theorem foldl_none (l : List Int) : l.foldl gAdd (-1) = -1 := by
  induction l with
  | nil => rfl
  | cons a l ih => simp only [List.foldl_cons, gAdd_none]; exact ih
theorem gath_bad (l : List Int) (k : Nat) (hk : k < l.length) (h : inB (l.getD k 0) 0 11 = false) : gath l = -1 := by
  have e : l = l.take k ++ (l.getD k 0) :: l.drop (k + 1) := by
    rw [List.getD_eq_getElem?_getD, List.getElem?_eq_getElem hk]; simp
  unfold gath
  rw [e, List.foldl_append, List.foldl_cons]
  have hb : gAdd (List.foldl gAdd 0 (l.take k)) (l.getD k 0) = -1 := gAdd_bad _ _ h
  rw [hb]
  exact foldl_none _
theorem take_snoc (l : List Int) (k : Nat) (h : k < l.length) : l.take (k + 1) = l.take k ++ [l.getD k 0] := by
  rw [List.take_succ_eq_append_getElem h, List.getD_eq_getElem?_getD, List.getElem?_eq_getElem h]; rfl
end Go.Proofs.YtljamlgnobpjeaaGreatDoor

/- Plain facts on sets as numbers: a set is gathered from its members, which rise; what is gathered from a list has just the list's numbers. -/
namespace Go.Proofs.YtljamlgnobpjeaaGreatDoor
open Go.RowKit

theorem bitB_nat (a i : Nat) (ha : a < 4096) : bitB (a : Int) (i : Int) = a.testBit i := by
  unfold bitB
  have hd : a / 2 ^ i ≤ a := Nat.div_le_self _ _
  have e : ((a : Int) / 2 ^ (i : Int).toNat) = ((a / 2 ^ i : Nat) : Int) := by simp
  rw [e, show (1 : Int) = ((1 : Nat) : Int) from rfl, i64_and_nat _ _ (by omega) (by omega), Nat.and_one_is_mod, Nat.testBit_eq_decide_div_mod_eq]
  generalize a / 2 ^ i % 2 = r
  rw [Bool.eq_iff_iff, beq_iff_eq, decide_eq_true_eq]
  omega
theorem inSetB_nat (a i : Nat) (ha : a < 4096) (hi : i < 12) : inSetB (a : Int) (i : Int) = a.testBit i := by
  have h1 : inB (i : Int) 0 11 = true := by unfold inB; simp; omega
  have h2 : inB (a : Int) 0 4095 = true := by unfold inB; simp; omega
  simp [inSetB, h1, h2, bitB_nat a i ha]
theorem gAdd_nat (a i : Nat) (ha : a < 4096) (hi : i < 12) : gAdd (a : Int) (i : Int) = ((a ||| 2 ^ i : Nat) : Int) := by
  have h1 : inB (i : Int) 0 11 = true := by unfold inB; simp; omega
  rw [gAdd_ok _ _ (by omega) h1, wrap64_pow _ (by omega) (by omega)]
  have hq : (2 : Nat) ^ i < 2 ^ 12 := Nat.pow_lt_pow_right (by omega) hi
  have e : ((2 : Int) ^ (i : Int).toNat) = ((2 ^ i : Nat) : Int) := by simp
  rw [e, i64_or_nat a _ (by omega) (by omega)]
theorem or_lt (a i : Nat) (ha : a < 4096) (hi : i < 12) : a ||| 2 ^ i < 4096 := by
  have hq : (2 : Nat) ^ i < 2 ^ 12 := Nat.pow_lt_pow_right (by omega) hi
  exact Nat.or_lt_two_pow (n := 12) ha hq
theorem fold_all (l : List Int) (h : ∀ x ∈ l, inB x 0 11 = true) (a : Nat) (ha : a < 4096) :
    ∃ b : Nat, b < 4096 ∧ l.foldl gAdd (a : Int) = b ∧ ∀ k : Nat, k < 12 → b.testBit k = (a.testBit k || decide ((k : Int) ∈ l)) := by
  induction l generalizing a with
  | nil => exact ⟨a, ha, rfl, by simp⟩
  | cons x l ih =>
    have hx := h x (by simp)
    have hx' := hx
    simp only [inB, decide_eq_true_eq] at hx'
    obtain ⟨i, rfl⟩ := Int.eq_ofNat_of_zero_le hx'.1
    have hi : i < 12 := by omega
    obtain ⟨b, hb, he, hk⟩ := ih (fun y hy => h y (by simp [hy])) (a ||| 2 ^ i) (or_lt a i ha hi)
    refine ⟨b, hb, ?_, fun k hk12 => ?_⟩
    · rw [List.foldl_cons, gAdd_nat a i ha hi]; exact he
    · rw [hk k hk12, Nat.testBit_or, Nat.testBit_two_pow, Bool.or_assoc]
      congr 1
      rw [Bool.eq_iff_iff, Bool.or_eq_true, decide_eq_true_eq, decide_eq_true_eq, decide_eq_true_eq, List.mem_cons]
      constructor
      · rintro (h | h)
        · exact .inl (by omega)
        · exact .inr h
      · rintro (h | h)
        · exact .inl (by omega)
        · exact .inr h
theorem fold_neg (l : List Int) (x : Int) (hx : x ∈ l) (h : inB x 0 11 = false) (s : Int) : l.foldl gAdd s = -1 := by
  induction l generalizing s with
  | nil => simp at hx
  | cons y l ih =>
    rw [List.foldl_cons]
    rcases List.mem_cons.1 hx with rfl | hx
    · rw [gAdd_bad _ _ h]; exact foldl_none l
    · exact ih hx _
theorem gath_has (l : List Int) (h : 0 ≤ gath l) (k : Nat) (hk : k < 12) : inSetB (gath l) (k : Int) = hasB (k : Int) l := by
  have hall : ∀ x ∈ l, inB x 0 11 = true := by
    intro x hx
    cases hb : inB x 0 11 with
    | true => rfl
    | false => have := fold_neg l x hx hb 0; unfold gath at h; omega
  obtain ⟨b, hb, he, hbit⟩ := fold_all l hall 0 (by omega)
  have e : gath l = (b : Int) := he
  rw [e, inSetB_nat b k hb hk, hbit k hk]
  simp [hasB]
theorem mem_iff (s : Int) (n : Nat) (x : Int) : x ∈ mem s n ↔ ∃ k : Nat, k < n ∧ x = k ∧ inSetB s k = true := by
  induction n with
  | zero => simp [mem]
  | succ n ih =>
    unfold mem
    rw [List.mem_append, ih]
    constructor
    · rintro (⟨k, hk, rfl, h⟩ | h)
      · exact ⟨k, by omega, rfl, h⟩
      · split at h
        · rename_i hs
          simp at h
          exact ⟨n, by omega, h, hs⟩
        · simp at h
    · rintro ⟨k, hk, rfl, h⟩
      by_cases hkn : k = n
      · subst hkn; right; simp [h]
      · exact .inl ⟨k, by omega, rfl, h⟩
theorem mem_rises (s : Int) (n : Nat) : (mem s n).Pairwise (· < ·) := by
  induction n with
  | zero => simp [mem]
  | succ n ih =>
    unfold mem
    rw [List.pairwise_append]
    refine ⟨ih, by split <;> simp, fun a ha b hb => ?_⟩
    obtain ⟨k, hk, rfl, _⟩ := (mem_iff s n a).1 ha
    split at hb
    · simp at hb; omega
    · simp at hb
theorem mem_step (s : Int) (n i : Nat) (h : i + 1 < (mem s n).length) : (mem s n).getD i 0 < (mem s n).getD (i + 1) 0 := by
  have := (List.pairwise_iff_getElem.1 (mem_rises s n)) i (i + 1) (by omega) h (by omega)
  rw [List.getD_eq_getElem?_getD, List.getD_eq_getElem?_getD, List.getElem?_eq_getElem h, List.getElem?_eq_getElem (show i < (mem s n).length by omega)]
  exact this
theorem gath_mem (s : Int) (h : inB s 0 4095 = true) : gath (mem s 12) = s := by
  simp only [inB, decide_eq_true_eq] at h
  obtain ⟨a, rfl⟩ := Int.eq_ofNat_of_zero_le h.1
  have ha : a < 4096 := by omega
  have hall : ∀ x ∈ mem (a : Int) 12, inB x 0 11 = true := by
    intro x hx
    obtain ⟨k, hk, rfl, _⟩ := (mem_iff _ _ _).1 hx
    unfold inB; simp; omega
  obtain ⟨b, hb, he, hbit⟩ := fold_all _ hall 0 (by omega)
  have e : gath (mem (a : Int) 12) = (b : Int) := he
  show gath (mem (a : Int) 12) = (a : Int)
  rw [e]
  have : b = a := by
    apply Nat.eq_of_testBit_eq
    intro k
    by_cases hk : k < 12
    · rw [hbit k hk, Nat.zero_testBit, Bool.false_or]
      rw [← inSetB_nat a k ha hk, Bool.eq_iff_iff, decide_eq_true_eq, mem_iff]
      constructor
      · rintro ⟨j, hj, he, h⟩; have : j = k := by omega
        subst this; exact h
      · intro h; exact ⟨k, hk, rfl, h⟩
    · have hp : (2 : Nat) ^ 12 ≤ 2 ^ k := Nat.pow_le_pow_right (by omega) (by omega)
      rw [Nat.testBit_lt_two_pow (by omega), Nat.testBit_lt_two_pow (by omega)]
  rw [this]
end Go.Proofs.YtljamlgnobpjeaaGreatDoor

/- Contract of the specification's l1In: is a number from the least to the greatest. -/
namespace Go.Proofs.YtljamlgnobpjeaaGreatDoor
open Go.ChangeShapes Go.WideShapes Go.ChangeAt Go.RowKit

theorem l1In_any (x lo hi : Int) (w : World) :
    Calls Tryz.prog 34 #[.int .i64 x, .int .i64 lo, .int .i64 hi] w fun e w' => e = .returned (.bool (inB x lo hi)) ∧ w' = w := by
  go_enter Tryz.func34, Tryz.ntmps34
  go_wp2
  all_goals
    go_ret
    exact ⟨ret_bool (by rw [Bool.eq_iff_iff]; unfold inB; simp; omega), rfl⟩
end Go.Proofs.YtljamlgnobpjeaaGreatDoor

/- Plain mathematics of deeds: which four numbers are a deed, its text, the two guesses that are made of a text (the specification's by words, the program's by cuts), and that each guess of a right deed's text is that deed. -/
namespace Go.Proofs.YtljamlgnobpjeaaGreatDoor

def deedB (k p v g : Int) : Bool :=
  decide ((1 ≤ k ∧ k ≤ 4) ∧ (0 ≤ p ∧ p ≤ 2) ∧ (0 ≤ g ∧ g ≤ 9) ∧ (k = 4 → p = 0) ∧ (2 < k → g = 0) ∧ ((k = 2 ∨ k = 3) → 1 ≤ v ∧ v ≤ 9) ∧ (¬ (k = 2 ∨ k = 3) → v = 0))

def kindL (k : Int) : List UInt8 :=
  if k = 1 then [114, 101, 97, 100] else if k = 2 then [119, 114, 105, 116, 101] else if k = 3 then [115, 119, 97, 112] else if k = 4 then [119, 97, 105, 116] else []
def digL (n : Int) : List UInt8 := [UInt8.ofNat (48 + n.toNat)]
def placeL (p : Int) : List UInt8 := [UInt8.ofNat (120 + p.toNat)]
def partP (k p : Int) : List UInt8 := if k = 4 then [] else 32 :: placeL p
def partV (v : Int) : List UInt8 := if v = 0 then [] else 32 :: digL v
def partG (g : Int) : List UInt8 := if g = 0 then [] else [32, 105, 110, 32] ++ digL g
def showL (k p v g : Int) : List UInt8 := kindL k ++ partP k p ++ partV v ++ partG g
def showD (k p v g : Int) : List UInt8 := if deedB k p v g = true then showL k p v g else []

def kindNo (w : List UInt8) : Int :=
  if kindL 1 = w then 1 else if kindL 2 = w then 2 else if kindL 3 = w then 3 else if kindL 4 = w then 4 else 0
def numI (w : List UInt8) : Int := match Lib.parseIntB 64 w with
  | .ok v => v
  | _ => 0
def cutIn (s : List UInt8) : List UInt8 × List UInt8 × Bool := Lib.cut s [32, 105, 110, 32]
def cutB (s : List UInt8) : List UInt8 × List UInt8 × Bool := Lib.cut s [32]
def gIk (s : List UInt8) : Int := kindNo (cutB (cutIn s).1).1
def gIp (s : List UInt8) : Int := Lib.index [120, 121, 122] (cutB (cutB (cutIn s).1).2.1).1
def gIv (s : List UInt8) : Int := numI (cutB (cutB (cutIn s).1).2.1).2.1
def gIg (s : List UInt8) : Int := numI (cutIn s).2.1

/-- The words of a text: as l1Split parts them. -/
def joinHead (x : List UInt8) : List (List UInt8) → List (List UInt8)
  | [] => [x]
  | y :: ys => (x ++ y) :: ys
def splitL (b : UInt8) : List UInt8 → List (List UInt8)
  | [] => [[]]
  | c :: r => if c = b then [] :: splitL b r else joinHead [c] (splitL b r)
theorem splitL_ne (b : UInt8) : ∀ s : List UInt8, splitL b s ≠ []
  | [] => by simp [splitL]
  | c :: r => by
    unfold splitL
    split
    · simp
    · cases h : splitL b r <;> simp [joinHead]
theorem joinHead_join (x y : List UInt8) : ∀ l : List (List UInt8), joinHead x (joinHead y l) = joinHead (x ++ y) l
  | [] => rfl
  | z :: zs => by simp [joinHead]
theorem joinHead_nil (l : List (List UInt8)) (h : l ≠ []) : joinHead [] l = l := by
  cases l with
  | nil => exact absurd rfl h
  | cons y ys => rfl

/-- The number that l1Read makes of digits, behind those read. -/
def digV (acc : Int) : List UInt8 → Option Int
  | [] => some acc
  | c :: r => if 48 ≤ c.toNat ∧ c.toNat ≤ 57 then digV (acc * 10 + ((c.toNat : Int) - 48)) r else none
def negR (s : List UInt8) : Bool := match s with
  | [] => false
  | c :: _ => decide (c = 45)
def bodyR (s : List UInt8) : List UInt8 := if negR s = true then s.drop 1 else s
def readO (s : List UInt8) : Option Int :=
  if (bodyR s).length < 1 ∨ 9 < (bodyR s).length then none else
  match digV 0 (bodyR s) with
  | none => none
  | some n => if (bodyR s).head? = some 48 ∧ (negR s = true ∨ 1 < s.length) then none else some (if negR s = true then -n else n)
def numS (s : List UInt8) : Int := (readO s).getD 0

def placeNo (w : List UInt8) : Int := if w = [120] then 0 else if w = [121] then 1 else if w = [122] then 2 else -1
def wordAt (ws : List (List UInt8)) (i : Nat) : List UInt8 := ws.getD i []
def gSk (ws : List (List UInt8)) : Int := kindNo (wordAt ws 0)
/-- Whether a place is read, whether a value is, and where the words behind stand. -/
def hasP (ws : List (List UInt8)) : Bool := decide (gSk ws ≠ 4 ∧ 1 < ws.length)
def atV (ws : List (List UInt8)) : Nat := if hasP ws = true then 2 else 1
def hasV (ws : List (List UInt8)) : Bool := decide ((gSk ws = 2 ∨ gSk ws = 3) ∧ atV ws < ws.length)
def atG (ws : List (List UInt8)) : Nat := if hasV ws = true then atV ws + 1 else atV ws
def hasG (ws : List (List UInt8)) : Bool := decide (ws.length = atG ws + 2 ∧ wordAt ws (atG ws) = [105, 110])
def gSp (ws : List (List UInt8)) : Int := if hasP ws = true then placeNo (wordAt ws 1) else 0
def gSv (ws : List (List UInt8)) : Int := if hasV ws = true then numS (wordAt ws (atV ws)) else 0
def gSg (ws : List (List UInt8)) : Int := if hasG ws = true then numS (wordAt ws (atG ws + 1)) else 0

/-- The kind that the specification has found behind k words held against the first. -/
def kindUp (x : List UInt8) : Nat → Int
  | 0 => 0
  | k + 1 => if kindL ((k : Int) + 1) = x then (k : Int) + 1 else kindUp x k
theorem kindUp_four (x : List UInt8) : kindUp x 4 = kindNo x := by
  unfold kindNo
  by_cases h1 : kindL 1 = x
  · subst h1; decide
  · by_cases h2 : kindL 2 = x
    · subst h2; decide
    · by_cases h3 : kindL 3 = x
      · subst h3; decide
      · by_cases h4 : kindL 4 = x
        · subst h4; decide
        · rw [if_neg h1, if_neg h2, if_neg h3, if_neg h4]
          simp [kindUp, h1, h2, h3, h4]
theorem kindNo_in (x : List UInt8) : 0 ≤ kindNo x ∧ kindNo x ≤ 4 := by
  unfold kindNo
  repeat' split
  all_goals omega
/-- All right deeds, by four numbers from a few. -/
def okList : List (Int × Int × Int × Int) :=
  [1, 2, 3, 4].flatMap fun k => [0, 1, 2].flatMap fun p => [0, 1, 2, 3, 4, 5, 6, 7, 8, 9].flatMap fun v => ([0, 1, 2, 3, 4, 5, 6, 7, 8, 9].map fun g => (k, p, v, g)).filter fun d => deedB d.1 d.2.1 d.2.2.1 d.2.2.2
theorem ok_mem (k p v g : Int) (h : deedB k p v g = true) : (k, p, v, g) ∈ okList := by
  have h' := h
  simp only [deedB, decide_eq_true_eq] at h'
  obtain ⟨⟨k1, k2⟩, ⟨p1, p2⟩, ⟨g1, g2⟩, h4, h5, h6, h7⟩ := h'
  have v1 : 0 ≤ v ∧ v ≤ 9 := by
    by_cases hk : k = 2 ∨ k = 3
    · have := h6 hk; omega
    · have := h7 hk; omega
  simp only [okList, List.mem_flatMap, List.mem_filter, List.mem_map]
  refine ⟨k, ?_, p, ?_, v, ?_, ⟨g, ?_, rfl⟩, h⟩
  · have : k = 1 ∨ k = 2 ∨ k = 3 ∨ k = 4 := by omega
    simpa using this
  · have : p = 0 ∨ p = 1 ∨ p = 2 := by omega
    simpa using this
  · have : v = 0 ∨ v = 1 ∨ v = 2 ∨ v = 3 ∨ v = 4 ∨ v = 5 ∨ v = 6 ∨ v = 7 ∨ v = 8 ∨ v = 9 := by omega
    simpa using this
  · have : g = 0 ∨ g = 1 ∨ g = 2 ∨ g = 3 ∨ g = 4 ∨ g = 5 ∨ g = 6 ∨ g = 7 ∨ g = 8 ∨ g = 9 := by omega
    simpa using this
def hitI (d : Int × Int × Int × Int) : Bool :=
  let s := showL d.1 d.2.1 d.2.2.1 d.2.2.2
  decide (gIk s = d.1) && decide (gIp s = d.2.1) && decide (gIv s = d.2.2.1) && decide (gIg s = d.2.2.2)
def hitS (d : Int × Int × Int × Int) : Bool :=
  let ws := splitL 32 (showL d.1 d.2.1 d.2.2.1 d.2.2.2)
  decide (gSk ws = d.1) && decide (gSp ws = d.2.1) && decide (gSv ws = d.2.2.1) && decide (gSg ws = d.2.2.2)
theorem all_hitI : okList.all hitI = true := by decide +kernel
theorem all_hitS : okList.all hitS = true := by decide +kernel
theorem okList_length : okList.length = 328 := by decide +kernel

/-- What ReadDeed answers of a guess: the guess where it is right and has just this text, else nothing. -/
def fits (s : List UInt8) (k p v g : Int) : Bool := deedB k p v g && decide (showL k p v g = s)
theorem guessI_show {k p v g : Int} {s : List UInt8} (h : fits s k p v g = true) : gIk s = k ∧ gIp s = p ∧ gIv s = v ∧ gIg s = g := by
  simp only [fits, Bool.and_eq_true, decide_eq_true_eq] at h
  obtain ⟨h, rfl⟩ := h
  have := List.all_eq_true.1 all_hitI _ (ok_mem k p v g h)
  simpa [hitI, and_assoc] using this
theorem guessS_show {k p v g : Int} {s : List UInt8} (h : fits s k p v g = true) : gSk (splitL 32 s) = k ∧ gSp (splitL 32 s) = p ∧ gSv (splitL 32 s) = v ∧ gSg (splitL 32 s) = g := by
  simp only [fits, Bool.and_eq_true, decide_eq_true_eq] at h
  obtain ⟨h, rfl⟩ := h
  have := List.all_eq_true.1 all_hitS _ (ok_mem k p v g h)
  simpa [hitS, and_assoc] using this
def fitI (s : List UInt8) : Bool := fits s (gIk s) (gIp s) (gIv s) (gIg s)
def fitS (s : List UInt8) : Bool := fits s (gSk (splitL 32 s)) (gSp (splitL 32 s)) (gSv (splitL 32 s)) (gSg (splitL 32 s))
theorem fit_same (s : List UInt8) : fitS s = fitI s := by
  rw [Bool.eq_iff_iff]
  constructor
  · intro h
    obtain ⟨a, b, c, d⟩ := guessI_show h
    unfold fitI
    rw [a, b, c, d]
    exact h
  · intro h
    obtain ⟨a, b, c, d⟩ := guessS_show h
    unfold fitS
    rw [a, b, c, d]
    exact h
theorem guess_same {s : List UInt8} (h : fitI s = true) : gSk (splitL 32 s) = gIk s ∧ gSp (splitL 32 s) = gIp s ∧ gSv (splitL 32 s) = gIv s ∧ gSg (splitL 32 s) = gIg s := guessS_show h
theorem fit_show {k p v g : Int} (h : deedB k p v g = true) : fitI (showL k p v g) = true ∧ gIk (showL k p v g) = k ∧ gIp (showL k p v g) = p ∧ gIv (showL k p v g) = v ∧ gIg (showL k p v g) = g := by
  have hf : fits (showL k p v g) k p v g = true := by simp [fits, h]
  obtain ⟨a, b, c, d⟩ := guessI_show hf
  refine ⟨?_, a, b, c, d⟩
  unfold fitI
  rw [a, b, c, d]
  exact hf
theorem kindL_ne {k : Int} (h1 : 1 ≤ k) (h2 : k ≤ 4) : kindL k ≠ [] := by
  have : k = 1 ∨ k = 2 ∨ k = 3 ∨ k = 4 := by omega
  rcases this with rfl | rfl | rfl | rfl <;> decide
theorem showL_ne {k p v g : Int} (h : deedB k p v g = true) : showL k p v g ≠ [] := by
  simp only [deedB, decide_eq_true_eq] at h
  have := kindL_ne h.1.1 h.1.2
  unfold showL
  simp [this]
theorem showL_length (k p v g : Int) : (showL k p v g).length ≤ 14 := by
  unfold showL partP partV partG kindL digL placeL
  repeat' split
  all_goals simp
end Go.Proofs.YtljamlgnobpjeaaGreatDoor

/- Plain mathematics of works: which lists of deeds are one, how many events it has. -/
namespace Go.Proofs.YtljamlgnobpjeaaGreatDoor

/-- A deed as four numbers: its kind, place, value and group. -/
abbrev Dd := Int × Int × Int × Int
def zD : Dd := (0, 0, 0, 0)
def okD (d : Dd) : Bool := deedB d.1 d.2.1 d.2.2.1 d.2.2.2
def evD (d : Dd) : Int := if d.1 = 1 then 1 else if d.1 = 2 then 1 else if d.1 = 3 then 2 else 0
def evK (ds : List Dd) : Nat → Int
  | 0 => 0
  | k + 1 => evK ds k + evD (ds.getD k zD)
def evW (dss : List (List Dd)) : Nat → Int
  | 0 => 0
  | i + 1 => evW dss i + evK (dss.getD i []) (dss.getD i []).length
theorem evD_in (d : Dd) : 0 ≤ evD d ∧ evD d ≤ 2 := by
  unfold evD
  repeat' split
  all_goals omega
theorem evK_in (ds : List Dd) : ∀ k : Nat, 0 ≤ evK ds k ∧ evK ds k ≤ 2 * k
  | 0 => by simp [evK]
  | k + 1 => by have := evK_in ds k; have := evD_in (ds.getD k zD); rw [evK]; omega
/-- Whose a group is (0: nobody's), as the specification keeps it, behind k deeds of clerk i. -/
def grpK (i : Nat) (own : List Int) (ds : List Dd) : Nat → Option (List Int)
  | 0 => some own
  | k + 1 => match grpK i own ds k with
    | none => none
    | some o =>
      if (ds.getD k zD).2.2.2 = 0 then some o
      else if o.getD (ds.getD k zD).2.2.2.toNat 0 ≠ 0 ∧ (o.getD (ds.getD k zD).2.2.2.toNat 0 ≠ (i : Int) + 1 ∨ k = 0 ∨ (ds.getD (k - 1) zD).2.2.2 ≠ (ds.getD k zD).2.2.2) then none
      else some (o.set (ds.getD k zD).2.2.2.toNat ((i : Int) + 1))
def grpW (dss : List (List Dd)) : Nat → Option (List Int)
  | 0 => some (List.replicate 10 0)
  | i + 1 => match grpW dss i with
    | none => none
    | some o => grpK i o (dss.getD i []) (dss.getD i []).length
def grpB (dss : List (List Dd)) : Bool := (grpW dss dss.length).isSome
def lenW : List (List Dd) → Nat
  | [] => 0
  | d :: r => d.length + lenW r
def okL (ds : List Dd) : Bool := ds.all okD && decide (ds.length ≤ 5)
def workB (dss : List (List Dd)) : Bool :=
  decide (1 ≤ dss.length ∧ dss.length ≤ 3) && dss.all okL && decide (lenW dss ≤ 12) && decide (evW dss dss.length ≤ 6) && grpB dss
theorem grpK_none {i : Nat} {own : List Int} {ds : List Dd} {k : Nat} (h : grpK i own ds k = none) : ∀ n : Nat, k ≤ n → grpK i own ds n = none
  | 0, hn => by
    obtain rfl : k = 0 := by omega
    exact h
  | n + 1, hn => by
    by_cases e : k = n + 1
    · rw [← e]; exact h
    · rw [grpK, grpK_none h n (by omega)]
theorem grpW_none {dss : List (List Dd)} {i : Nat} (h : grpW dss i = none) : ∀ n : Nat, i ≤ n → grpW dss n = none
  | 0, hn => by
    obtain rfl : i = 0 := by omega
    exact h
  | n + 1, hn => by
    by_cases e : i = n + 1
    · rw [← e]; exact h
    · rw [grpW, grpW_none h n (by omega)]
theorem grpK_len {i : Nat} {own : List Int} {ds : List Dd} : ∀ {k : Nat} {o : List Int}, grpK i own ds k = some o → o.length = own.length
  | 0, o, h => by simp only [grpK, Option.some.injEq] at h; rw [← h]
  | k + 1, o, h => by
    rw [grpK] at h
    split at h
    · cases h
    · rename_i o' ho'
      have ih := grpK_len ho'
      split at h
      · simp only [Option.some.injEq] at h; rw [← h]; exact ih
      · split at h
        · cases h
        · simp only [Option.some.injEq] at h; rw [← h, List.length_set]; exact ih
theorem grpW_len {dss : List (List Dd)} : ∀ {i : Nat} {o : List Int}, grpW dss i = some o → o.length = 10
  | 0, o, h => by simp only [grpW, Option.some.injEq] at h; rw [← h]; simp
  | i + 1, o, h => by
    rw [grpW] at h
    split at h
    · cases h
    · rename_i o' ho'
      rw [grpK_len h]
      exact grpW_len ho'
theorem all_get {α : Type} {f : α → Bool} {l : List α} (z : α) (h : l.all f = true) (i : Nat) (hi : i < l.length) : f (l.getD i z) = true := by
  rw [List.getD_eq_getElem?_getD, List.getElem?_eq_getElem hi]
  exact List.all_eq_true.1 h _ (List.getElem_mem hi)
theorem all_of {α : Type} {f : α → Bool} {l : List α} (z : α) (h : ∀ i, i < l.length → f (l.getD i z) = true) : l.all f = true := by
  rw [List.all_eq_true]
  intro x hx
  obtain ⟨i, hi, rfl⟩ := List.getElem_of_mem hx
  have := h i hi
  rwa [List.getD_eq_getElem?_getD, List.getElem?_eq_getElem hi] at this
theorem all_not {α : Type} {f : α → Bool} {l : List α} (z : α) (i : Nat) (hi : i < l.length) (h : f (l.getD i z) = false) : l.all f = false := by
  cases hb : l.all f
  · rfl
  · rw [all_get z hb i hi] at h; cases h
end Go.Proofs.YtljamlgnobpjeaaGreatDoor

/- Plain mathematics of the program's clerks: the Groups that they have, as sets; that the program's test on them is the specification's. -/
namespace Go.Proofs.YtljamlgnobpjeaaGreatDoor
open Go.RowKit

def grD (d : Dd) : Int := d.2.2.2
/-- The Groups of the first k deeds, as a set. -/
def gK (ds : List Dd) : Nat → Int
  | 0 => 0
  | k + 1 => if grD (ds.getD k zD) = 0 then gK ds k else gAdd (gK ds k) (grD (ds.getD k zD))
def gC (ds : List Dd) : Int := gK ds ds.length
/-- Does the deed k begin a Group that was there before? -/
def partK (ds : List Dd) (k : Nat) : Bool := decide (0 < k) && (grD (ds.getD k zD) != grD (ds.getD (k - 1) zD)) && inSetB (gK ds k) (grD (ds.getD k zD))
def togK (ds : List Dd) : Nat → Bool
  | 0 => true
  | k + 1 => togK ds k && !partK ds k
/-- The Groups of the clerks ahead. -/
def takW (dss : List (List Dd)) : Nat → Int
  | 0 => 0
  | i + 1 => bits .or .i64 (takW dss i) (gC (dss.getD i []))
def rightB (ds : List Dd) (t : Int) : Bool := decide (ds.length ≤ 5) && ds.all okD && togK ds ds.length && (bits .and .i64 (gC ds) t == 0)
def rightsW (dss : List (List Dd)) : Nat → Bool
  | 0 => true
  | i + 1 => rightsW dss i && rightB (dss.getD i []) (takW dss i)
theorem take_getD {α : Type} (l : List α) (i k : Nat) (z : α) (h : k < i) : (l.take i).getD k z = l.getD k z := by
  rw [List.getD_eq_getElem?_getD, List.getElem?_take, if_pos h, List.getD_eq_getElem?_getD]
theorem gK_take (ds : List Dd) (i : Nat) : ∀ k : Nat, k ≤ i → gK (ds.take i) k = gK ds k
  | 0, _ => rfl
  | k + 1, h => by rw [gK, gK, gK_take ds i k (by omega), take_getD ds i k zD (by omega)]
theorem gC_take (ds : List Dd) (i : Nat) (h : i ≤ ds.length) : gC (ds.take i) = gK ds i := by
  rw [gC, List.length_take, Nat.min_eq_left h, gK_take ds i i (Nat.le_refl _)]
theorem togK_false {ds : List Dd} {k : Nat} (h : togK ds k = false) : ∀ n : Nat, k ≤ n → togK ds n = false
  | 0, hn => by
    obtain rfl : k = 0 := by omega
    exact h
  | n + 1, hn => by
    by_cases e : k = n + 1
    · rw [← e]; exact h
    · rw [togK, togK_false h n (by omega)]; rfl
theorem rightsW_false {dss : List (List Dd)} {k : Nat} (h : rightsW dss k = false) : ∀ n : Nat, k ≤ n → rightsW dss n = false
  | 0, hn => by
    obtain rfl : k = 0 := by omega
    exact h
  | n + 1, hn => by
    by_cases e : k = n + 1
    · rw [← e]; exact h
    · rw [rightsW, rightsW_false h n (by omega)]; rfl
/-- No number is in both. -/
def Dis (a b : Nat) : Prop := ∀ k, a.testBit k = true → b.testBit k = false
theorem dis_iff (a b : Nat) : Dis a b ↔ a &&& b = 0 := by
  constructor
  · intro h
    apply Nat.eq_of_testBit_eq
    intro k
    rw [Nat.testBit_and, Nat.zero_testBit]
    cases ha : a.testBit k
    · rfl
    · rw [h k ha]; rfl
  · intro h k ha
    have h1 : (a &&& b).testBit k = false := by rw [h, Nat.zero_testBit]
    rw [Nat.testBit_and, ha] at h1
    simpa using h1
theorem or_bit (a g k : Nat) : (a ||| 2 ^ g).testBit k = (a.testBit k || decide (g = k)) := by
  rw [Nat.testBit_or, Nat.testBit_two_pow]
theorem set_getD (o : List Int) (g : Nat) (x : Int) (j : Nat) (hg : g < o.length) : (o.set g x).getD j 0 = if g = j then x else o.getD j 0 := by
  rw [List.getD_eq_getElem?_getD, List.getElem?_set]
  by_cases e : g = j
  · subst e; rw [if_pos rfl, if_pos hg, if_pos rfl]; rfl
  · rw [if_neg e, if_neg e, List.getD_eq_getElem?_getD]
theorem okD_grp {d : Dd} (h : okD d = true) : 0 ≤ grD d ∧ grD d ≤ 9 := by
  simp [okD, deedB] at h
  unfold grD
  omega
theorem clerk_same {i : Nat} {own : List Int} {T : Nat} {ds : List Dd} (hl : own.length = 10) (hT : ∀ g, g < 10 → (own.getD g 0 ≠ 0 ↔ T.testBit g = true)) (hi : ∀ g, g < 10 → own.getD g 0 ≠ (i : Int) + 1) (hT0 : T.testBit 0 = false) :
    ∀ k : Nat, (∀ j, j < k → okD (ds.getD j zD) = true) → ∃ G : Nat, G < 4096 ∧ gK ds k = (G : Int) ∧ G.testBit 0 = false ∧ (k = 0 → G = 0) ∧
      (grpK i own ds k = none → togK ds k = false ∨ ¬ Dis G T) ∧
      ∀ o, grpK i own ds k = some o → togK ds k = true ∧ Dis G T ∧ o.length = 10 ∧ ∀ g, g < 10 → o.getD g 0 = if G.testBit g = true then (i : Int) + 1 else own.getD g 0
  | 0, _ => ⟨0, by omega, rfl, by simp, fun _ => rfl, by simp [grpK], by
      intro o ho
      simp only [grpK, Option.some.injEq] at ho
      subst ho
      exact ⟨rfl, fun k hk => by simp at hk, hl, by simp⟩⟩
  | k + 1, hok => by
    obtain ⟨G, hG, hgK, hG0, hz, hN, hS⟩ := clerk_same hl hT hi hT0 k (fun j hj => hok j (by omega))
    obtain ⟨h0, h9⟩ := okD_grp (hok k (by omega))
    obtain ⟨g, hg⟩ := Int.eq_ofNat_of_zero_le h0
    have hgg : (ds.getD k zD).2.2.2 = (g : Int) := hg
    by_cases hg0 : g = 0
    · subst hg0
      have hz0 : (ds.getD k zD).2.2.2 = 0 := hgg
      have e1 : gK ds (k + 1) = (G : Int) := by rw [gK, hg, if_pos (by simp), hgK]
      have e2 : partK ds k = false := by
        have : inSetB (gK ds k) (grD (ds.getD k zD)) = false := by rw [hgK, hg, inSetB_nat G 0 hG (by omega), hG0]
        rw [partK, this, Bool.and_false]
      have e3 : togK ds (k + 1) = togK ds k := by rw [togK, e2]; simp
      have e4 : grpK i own ds (k + 1) = grpK i own ds k := by
        rw [grpK]
        cases hq : grpK i own ds k with
        | none => rfl
        | some o => simp only; rw [if_pos hz0]
      refine ⟨G, hG, e1, hG0, by omega, ?_, ?_⟩
      · rw [e3, e4]; exact hN
      · rw [e3, e4]; exact hS
    · have hgne : (ds.getD k zD).2.2.2 ≠ 0 := by rw [hgg]; omega
      have g9 : g ≤ 9 := by rw [hg] at h9; omega
      have e1 : gK ds (k + 1) = ((G ||| 2 ^ g : Nat) : Int) := by
        rw [gK, hg, if_neg (by omega), hgK, gAdd_nat G g hG (by omega)]
      have e0 : (G ||| 2 ^ g).testBit 0 = false := by rw [or_bit, hG0]; simp [hg0]
      have inS : inSetB (gK ds k) (grD (ds.getD k zD)) = G.testBit g := by rw [hgK, hg, inSetB_nat G g hG (by omega)]
      refine ⟨G ||| 2 ^ g, or_lt G g hG (by omega), e1, e0, by omega, ?_, ?_⟩
      · intro hn
        rw [grpK] at hn
        cases hq : grpK i own ds k with
        | none =>
          rcases hN hq with h | h
          · left; rw [togK, h]; rfl
          · right
            intro hd
            refine h (fun b hb => hd b ?_)
            rw [or_bit, hb]; rfl
        | some o =>
          rw [hq] at hn
          simp only at hn
          rw [if_neg hgne, hgg, Int.toNat_natCast] at hn
          obtain ⟨ht, hd, hlen, ho⟩ := hS o hq
          split at hn
          · rename_i hc
            cases hTg : T.testBit g with
            | true =>
              right
              intro hd2
              have := hd2 g (by rw [or_bit]; simp)
              rw [hTg] at this
              cases this
            | false =>
              left
              have hown : own.getD g 0 = 0 := by
                apply Classical.byContradiction
                intro hne
                rw [(hT g (by omega)).1 hne] at hTg
                cases hTg
              cases hGg : G.testBit g with
              | false =>
                exfalso
                have := ho g (by omega)
                rw [hGg, hown] at this
                exact hc.1 (by simpa using this)
              | true =>
                have hk0 : k ≠ 0 := by
                  intro hk
                  rw [hz hk] at hGg
                  simp at hGg
                have hog := ho g (by omega)
                rw [hGg, if_pos rfl] at hog
                have hp : (ds.getD (k - 1) zD).2.2.2 ≠ (g : Int) := by
                  rcases hc.2 with h | h | h
                  · exact absurd hog h
                  · exact absurd h hk0
                  · exact h
                have : partK ds k = true := by
                  rw [partK, inS, hGg, hg]
                  have hp' : ((g : Int) != grD (ds.getD (k - 1) zD)) = true := by
                    rw [bne_iff_ne]; exact fun e => hp e.symm
                  rw [hp']
                  simp; omega
                rw [togK, this]; simp
          · cases hn
      · intro o' hn
        rw [grpK] at hn
        cases hq : grpK i own ds k with
        | none => rw [hq] at hn; cases hn
        | some o =>
          rw [hq] at hn
          simp only at hn
          rw [if_neg hgne, hgg, Int.toNat_natCast] at hn
          obtain ⟨ht, hd, hlen, ho⟩ := hS o hq
          split at hn
          · cases hn
          · rename_i hc
            simp only [Option.some.injEq] at hn
            subst hn
            have hog := ho g (by omega)
            have hTg : T.testBit g = false := by
              cases hTg : T.testBit g with
              | false => rfl
              | true =>
                exfalso
                have hGg : G.testBit g = false := by
                  cases hGg : G.testBit g with
                  | false => rfl
                  | true => rw [hd g hGg] at hTg; cases hTg
                rw [hGg] at hog
                simp only [Bool.false_eq_true, if_false] at hog
                exact hc ⟨by rw [hog]; exact (hT g (by omega)).2 hTg, .inl (by rw [hog]; exact hi g (by omega))⟩
            refine ⟨?_, ?_, by rw [List.length_set]; exact hlen, ?_⟩
            · have : partK ds k = false := by
                cases hp : partK ds k with
                | false => rfl
                | true =>
                  exfalso
                  rw [partK, inS, hg, Bool.and_eq_true, Bool.and_eq_true, decide_eq_true_eq, bne_iff_ne] at hp
                  obtain ⟨⟨hk, hne⟩, hGg⟩ := hp
                  rw [hGg, if_pos rfl] at hog
                  exact hc ⟨by rw [hog]; omega, .inr (.inr (fun e => hne e.symm))⟩
              rw [togK, ht, this]; rfl
            · intro b hb
              rw [or_bit, Bool.or_eq_true, decide_eq_true_eq] at hb
              rcases hb with hb | rfl
              · exact hd b hb
              · exact hTg
            · intro j hj
              rw [set_getD o g _ j (by omega), or_bit]
              by_cases e : g = j
              · subst e; simp
              · rw [if_neg e, ho j hj]; simp [e]
theorem work_same {dss : List (List Dd)} : ∀ n : Nat, (∀ i, i < n → okL (dss.getD i []) = true) → ∃ T : Nat, T < 4096 ∧ takW dss n = (T : Int) ∧ T.testBit 0 = false ∧
      (grpW dss n = none → rightsW dss n = false) ∧
      ∀ o, grpW dss n = some o → rightsW dss n = true ∧ o.length = 10 ∧ (∀ g, g < 10 → (o.getD g 0 ≠ 0 ↔ T.testBit g = true)) ∧ ∀ g, g < 10 → 0 ≤ o.getD g 0 ∧ o.getD g 0 ≤ (n : Int)
  | 0, _ => ⟨0, by omega, rfl, by simp, by simp [grpW], by
      intro o ho
      simp only [grpW, Option.some.injEq] at ho
      subst ho
      refine ⟨rfl, by simp, fun g hg => ?_, fun g hg => ?_⟩
      · rw [List.getD_eq_getElem?_getD, List.getElem?_replicate, if_pos hg]; simp
      · rw [List.getD_eq_getElem?_getD, List.getElem?_replicate, if_pos hg]; simp⟩
  | n + 1, hok => by
    obtain ⟨T, hT, htk, hT0, hN, hS⟩ := work_same n (fun i hi => hok i (by omega))
    have okn := hok n (by omega)
    simp only [okL, Bool.and_eq_true, decide_eq_true_eq] at okn
    have hall := okn.1
    have hok2 : ∀ j, j < (dss.getD n []).length → okD ((dss.getD n []).getD j zD) = true := fun j hj => all_get zD hall j hj
    obtain ⟨G0, hG0, hgK0, hG00, -⟩ := clerk_same (i := 0) (own := List.replicate 10 0) (T := 0) (ds := dss.getD n []) (by simp) (fun g hg => by rw [List.getD_eq_getElem?_getD, List.getElem?_replicate, if_pos hg]; simp) (fun g hg => by rw [List.getD_eq_getElem?_getD, List.getElem?_replicate, if_pos hg]; simp) (by simp) (dss.getD n []).length hok2
    have hor : takW dss (n + 1) = ((T ||| G0 : Nat) : Int) := by
      rw [takW, htk, gC, hgK0, i64_or_nat T G0 (by omega) (by omega)]
    have hand : bits .and .i64 (gC (dss.getD n [])) (takW dss n) = ((G0 &&& T : Nat) : Int) := by
      rw [gC, hgK0, htk, i64_and_nat G0 T (by omega) (by omega)]
    have hR : rightB (dss.getD n []) (takW dss n) = (togK (dss.getD n []) (dss.getD n []).length && decide (G0 &&& T = 0)) := by
      rw [rightB, hall, decide_eq_true okn.2, hand]
      simp only [Bool.true_and]
      congr 1
      rw [Bool.eq_iff_iff, beq_iff_eq, decide_eq_true_eq]
      omega
    refine ⟨T ||| G0, Nat.or_lt_two_pow (n := 12) hT hG0, hor, by rw [Nat.testBit_or, hT0, hG00]; rfl, ?_, ?_⟩
    · intro hn
      rw [grpW] at hn
      cases hq : grpW dss n with
      | none => rw [rightsW, hN hq]; rfl
      | some o =>
        rw [hq] at hn
        simp only at hn
        obtain ⟨hr, hl, hb, hle⟩ := hS o hq
        obtain ⟨G, hG, hgK, -, -, hN2, -⟩ := clerk_same (i := n) (own := o) (T := T) (ds := dss.getD n []) hl hb (fun g hg => by have := hle g hg; omega) hT0 (dss.getD n []).length hok2
        obtain rfl : G = G0 := by rw [hgK0] at hgK; omega
        rw [rightsW, hr, hR]
        rcases hN2 hn with h | h
        · rw [h]; rfl
        · rw [decide_eq_false (fun e => h ((dis_iff _ _).2 e))]; simp
    · intro o' hn
      rw [grpW] at hn
      cases hq : grpW dss n with
      | none => rw [hq] at hn; cases hn
      | some o =>
        rw [hq] at hn
        simp only at hn
        obtain ⟨hr, hl, hb, hle⟩ := hS o hq
        obtain ⟨G, hG, hgK, -, -, -, hS2⟩ := clerk_same (i := n) (own := o) (T := T) (ds := dss.getD n []) hl hb (fun g hg => by have := hle g hg; omega) hT0 (dss.getD n []).length hok2
        obtain rfl : G = G0 := by rw [hgK0] at hgK; omega
        obtain ⟨h1, h2, h3, h4⟩ := hS2 o' hn
        refine ⟨by rw [rightsW, hr, hR, h1, decide_eq_true ((dis_iff _ _).1 h2)]; rfl, h3, fun g hg => ?_, fun g hg => ?_⟩
        · rw [h4 g hg, Nat.testBit_or, Bool.or_eq_true]
          cases hGg : G.testBit g
          · simp only [Bool.false_eq_true, if_false, or_false]; exact hb g hg
          · simp only [if_true, or_true, iff_true]; omega
        · rw [h4 g hg]
          have := hle g hg
          split <;> omega
/-- The program's test is the specification's. -/
theorem rights_same {dss : List (List Dd)} (h : dss.all okL = true) : rightsW dss dss.length = grpB dss := by
  obtain ⟨T, -, -, -, hN, hS⟩ := work_same (dss := dss) dss.length (fun i hi => all_get [] h i hi)
  rw [grpB]
  cases hq : grpW dss dss.length with
  | none => rw [hN hq]; rfl
  | some o => rw [(hS o hq).1]; rfl
theorem rights_okL {dss : List (List Dd)} (h : rightsW dss dss.length = true) : dss.all okL = true := by
  refine all_of [] (fun i hi => ?_)
  cases hb : rightsW dss (i + 1) with
  | false => rw [rightsW_false hb _ hi] at h; cases h
  | true =>
    rw [rightsW, Bool.and_eq_true] at hb
    have := hb.2
    simp only [rightB, Bool.and_eq_true] at this
    rw [okL, this.1.1.2, Bool.true_and]
    exact this.1.1.1
theorem work_rights (dss : List (List Dd)) : workB dss = (decide (1 ≤ dss.length ∧ dss.length ≤ 3) && rightsW dss dss.length && decide (lenW dss ≤ 12) && decide (evW dss dss.length ≤ 6)) := by
  rw [workB]
  cases h : dss.all okL with
  | true =>
    rw [rights_same h]
    cases grpB dss <;> simp
  | false =>
    cases hr : rightsW dss dss.length with
    | false => simp
    | true => rw [rights_okL hr] at h; cases h
end Go.Proofs.YtljamlgnobpjeaaGreatDoor

/- Plain mathematics of l1Split's loop: what it has gathered, and what is left to do. -/
namespace Go.Proofs.YtljamlgnobpjeaaGreatDoor

def segL (l : List UInt8) (f k : Nat) : List UInt8 := (l.drop f).take (k - f)
def splitInv (b : UInt8) (l : List UInt8) (ws : List (List UInt8)) (f k : Nat) : Prop :=
  (k ≤ l.length ∧ f ≤ k ∧ ws ++ joinHead (segL l f k) (splitL b (l.drop k)) = splitL b l) ∨ (k = l.length + 1 ∧ ws = splitL b l)
theorem splitInv_start (b : UInt8) (l : List UInt8) : splitInv b l [] 0 0 := by
  refine .inl ⟨Nat.zero_le _, Nat.le_refl _, ?_⟩
  simp [segL, joinHead_nil _ (splitL_ne b l)]
theorem segL_snoc (l : List UInt8) (f k : Nat) (hf : f ≤ k) (hk : k < l.length) : segL l f (k + 1) = segL l f k ++ [l.getD k 0] := by
  unfold segL
  rw [show k + 1 - f = (k - f) + 1 by omega, List.take_add_one, List.getElem?_drop, show f + (k - f) = k by omega, List.getElem?_eq_getElem hk]
  simp [List.getD_eq_getElem?_getD, List.getElem?_eq_getElem hk]
theorem drop_cons (l : List UInt8) (k : Nat) (hk : k < l.length) : l.drop k = l.getD k 0 :: l.drop (k + 1) := by
  rw [List.drop_eq_getElem_cons hk]
  simp [List.getD_eq_getElem?_getD, List.getElem?_eq_getElem hk]
theorem splitInv_miss {b : UInt8} {l : List UInt8} {ws : List (List UInt8)} {f k : Nat} (h : splitInv b l ws f k) (hk : k < l.length) (hb : ¬ l.getD k 0 = b) : splitInv b l ws f (k + 1) := by
  rcases h with ⟨_, hf, he⟩ | ⟨hk', _⟩
  · refine .inl ⟨hk, by omega, ?_⟩
    rw [← he, drop_cons l k hk, segL_snoc l f k hf hk]
    congr 1
    conv => rhs; rw [splitL]
    rw [if_neg hb, joinHead_join]
  · omega
theorem splitInv_hit {b : UInt8} {l : List UInt8} {ws : List (List UInt8)} {f k : Nat} (h : splitInv b l ws f k) (hk : k < l.length) (hb : l.getD k 0 = b) : splitInv b l (ws ++ [segL l f k]) (k + 1) (k + 1) := by
  rcases h with ⟨_, hf, he⟩ | ⟨hk', _⟩
  · refine .inl ⟨hk, Nat.le_refl _, ?_⟩
    have e1 : segL l (k + 1) (k + 1) = [] := by simp [segL]
    rw [← he, drop_cons l k hk, e1, joinHead_nil _ (splitL_ne b _)]
    conv => rhs; rw [splitL]
    rw [if_pos hb]
    simp [joinHead]
  · omega
theorem splitInv_last {b : UInt8} {l : List UInt8} {ws : List (List UInt8)} {f : Nat} (h : splitInv b l ws f l.length) : splitInv b l (ws ++ [segL l f l.length]) (l.length + 1) (l.length + 1) := by
  rcases h with ⟨_, hf, he⟩ | ⟨hk', _⟩
  · refine .inr ⟨rfl, ?_⟩
    rw [← he]
    simp [splitL, joinHead]
  · omega
theorem splitInv_end {b : UInt8} {l : List UInt8} {ws : List (List UInt8)} {f k : Nat} (h : splitInv b l ws f k) (hk : l.length < k) : ws = splitL b l := by
  rcases h with ⟨hk', _⟩ | ⟨_, he⟩
  · omega
  · exact he
theorem splitInv_from {b : UInt8} {l : List UInt8} {ws : List (List UInt8)} {f k : Nat} (h : splitInv b l ws f k) (hk : k ≤ l.length) : f ≤ k := by
  rcases h with ⟨_, hf, _⟩ | ⟨hk', _⟩
  · exact hf
  · omega
theorem splitL_len (b : UInt8) : ∀ l : List UInt8, (splitL b l).length ≤ l.length + 1
  | [] => by simp [splitL]
  | c :: r => by
    have ih := splitL_len b r
    unfold splitL
    split
    · simp; omega
    · cases h : splitL b r with
      | nil => simp [joinHead]
      | cons y ys => rw [h] at ih; simp [joinHead] at ih ⊢; omega
theorem splitL_word (b : UInt8) : ∀ (l : List UInt8) (x : List UInt8), x ∈ splitL b l → x.length ≤ l.length
  | [], x, h => by simp [splitL] at h; subst h; simp
  | c :: r, x, h => by
    unfold splitL at h
    split at h
    · rcases List.mem_cons.1 h with rfl | h
      · simp
      · have := splitL_word b r x h; simp; omega
    · cases hs : splitL b r with
      | nil => exact absurd hs (splitL_ne b r)
      | cons y ys =>
        rw [hs] at h
        simp only [joinHead, List.mem_cons] at h
        rcases h with rfl | h
        · have := splitL_word b r y (by rw [hs]; simp)
          simp; omega
        · have := splitL_word b r x (by rw [hs]; simp [h])
          simp; omega
end Go.Proofs.YtljamlgnobpjeaaGreatDoor

/- Plain mathematics of l1Read's loop: digits read one behind the other. -/
namespace Go.Proofs.YtljamlgnobpjeaaGreatDoor

def byteAt (l : List UInt8) (k : Nat) : UInt8 := l.getD k 0
def isDig (c : UInt8) : Bool := decide (48 ≤ c.toNat ∧ c.toNat ≤ 57)
theorem digV_snoc (c : UInt8) : ∀ (a : Int) (xs : List UInt8), digV a (xs ++ [c]) = (digV a xs).bind fun n => if isDig c = true then some (n * 10 + ((c.toNat : Int) - 48)) else none
  | a, [] => by simp [digV, isDig]
  | a, x :: xs => by
    rw [List.cons_append, digV, digV]
    split
    · exact digV_snoc c _ xs
    · rfl
theorem digV_app : ∀ (a : Int) (xs ys : List UInt8), digV a (xs ++ ys) = (digV a xs).bind fun n => digV n ys
  | a, [], ys => by simp [digV]
  | a, x :: xs, ys => by
    rw [List.cons_append, digV, digV]
    split
    · exact digV_app _ xs ys
    · rfl
theorem digV_bad {a n : Int} {xs ys : List UInt8} {c : UInt8} (h : digV a xs = some n) (hc : isDig c = false) : digV a (xs ++ c :: ys) = none := by
  rw [digV_app, h]
  simp only [Option.bind_some, digV]
  rw [if_neg (by simpa [isDig] using hc)]
theorem digV_bound : ∀ (xs : List UInt8) (a n : Int), 0 ≤ a → digV a xs = some n → 0 ≤ n ∧ n + 1 ≤ (a + 1) * 10 ^ xs.length
  | [], a, n, ha, h => by simp [digV] at h; subst h; simp; omega
  | x :: xs, a, n, ha, h => by
    rw [digV] at h
    split at h
    · have ih := digV_bound xs _ n (by omega) h
      refine ⟨ih.1, Int.le_trans ih.2 ?_⟩
      rw [List.length_cons, Int.pow_succ]
      have hp : (0 : Int) ≤ 10 ^ xs.length := Int.pow_nonneg (by omega)
      have : (a * 10 + ((x.toNat : Int) - 48) + 1) ≤ (a + 1) * 10 := by omega
      calc _ ≤ (a + 1) * 10 * 10 ^ xs.length := Int.mul_le_mul_of_nonneg_right this hp
        _ = (a + 1) * (10 ^ xs.length * 10) := by rw [Int.mul_assoc, Int.mul_comm 10]
    · simp at h
theorem pow_le9 {n : Nat} (h : n ≤ 9) : (10 : Int) ^ n ≤ 1000000000 := by
  have : n = 0 ∨ n = 1 ∨ n = 2 ∨ n = 3 ∨ n = 4 ∨ n = 5 ∨ n = 6 ∨ n = 7 ∨ n = 8 ∨ n = 9 := by omega
  rcases this with rfl | rfl | rfl | rfl | rfl | rfl | rfl | rfl | rfl | rfl <;> decide
/-- What l1Read has read of a text behind the first i signs. -/
def readInv (l : List UInt8) (i j : Nat) (n : Int) : Prop := digV 0 (segL l i (i + j)) = some n
theorem readInv_start (l : List UInt8) (i : Nat) : readInv l i 0 0 := by simp [readInv, segL, digV]
theorem readInv_hit {l : List UInt8} {i j : Nat} {n : Int} (h : readInv l i j n) (hk : i + j < l.length) (hd : isDig (byteAt l (i + j)) = true) : readInv l i (j + 1) (n * 10 + (((byteAt l (i + j)).toNat : Int) - 48)) := by
  unfold readInv at h ⊢
  rw [show i + (j + 1) = (i + j) + 1 by omega, segL_snoc l i (i + j) (by omega) hk, digV_snoc, h]
  show (if isDig (byteAt l (i + j)) = true then _ else _) = _
  rw [if_pos hd]
  rfl
theorem readInv_bound {l : List UInt8} {i j : Nat} {n : Int} (h : readInv l i j n) (hj : j ≤ 9) (hk : i + j ≤ l.length) : 0 ≤ n ∧ n < 1000000000 := by
  have := digV_bound _ 0 n (by omega) h
  have hl : (segL l i (i + j)).length = j := by simp [segL]; omega
  rw [hl] at this
  have := pow_le9 hj
  omega
/-- The same, told by the place to be read next. -/
def readQ (l : List UInt8) (i q : Nat) (n : Int) : Prop := i ≤ q ∧ readInv l i (q - i) n
theorem readQ_start (l : List UInt8) (i : Nat) : readQ l i i 0 := ⟨Nat.le_refl _, by rw [Nat.sub_self]; exact readInv_start l i⟩
theorem readQ_hit {l : List UInt8} {i q : Nat} {n : Int} (h : readQ l i q n) (hk : q < l.length) (hd : isDig (byteAt l q) = true) : readQ l i (q + 1) (n * 10 + (((byteAt l q).toNat : Int) - 48)) := by
  obtain ⟨hq, h⟩ := h
  have e : i + (q - i) = q := by omega
  refine ⟨by omega, ?_⟩
  have := readInv_hit h (by rw [e]; exact hk) (by rw [e]; exact hd)
  rw [e] at this
  rw [show q + 1 - i = (q - i) + 1 by omega]
  exact this
theorem readQ_bound {l : List UInt8} {i q : Nat} {n : Int} (h : readQ l i q n) (hk : q ≤ l.length) (h9 : l.length ≤ i + 9) : 0 ≤ n ∧ n < 1000000000 :=
  readInv_bound h.2 (by omega) (by have := h.1; omega)
theorem body_drop (l : List UInt8) : bodyR l = l.drop (if negR l = true then 1 else 0) := by
  unfold bodyR; split <;> simp
theorem readInv_bad {l : List UInt8} {i j : Nat} {n : Int} (h : readInv l i j n) (hk : i + j < l.length) (hd : isDig (byteAt l (i + j)) = false) : digV 0 (l.drop i) = none := by
  have e : l.drop i = segL l i (i + j) ++ byteAt l (i + j) :: l.drop (i + j + 1) := by
    conv => lhs; rw [← List.take_append_drop j (l.drop i)]
    rw [List.drop_drop, drop_cons l (i + j) hk]
    simp [segL, byteAt]
  rw [e]
  exact digV_bad h hd
theorem readInv_end {l : List UInt8} {i j : Nat} {n : Int} (h : readInv l i j n) (hk : l.length = i + j) : digV 0 (l.drop i) = some n := by
  have e : segL l i (i + j) = l.drop i := by
    unfold segL
    rw [List.take_of_length_le]
    simp; omega
  rw [← e]; exact h
theorem readQ_bad {l : List UInt8} {i q : Nat} {n : Int} (h : readQ l i q n) (hk : q < l.length) (hd : isDig (byteAt l q) = false) : digV 0 (l.drop i) = none := by
  obtain ⟨hq, h⟩ := h
  have e : i + (q - i) = q := by omega
  exact readInv_bad h (by rw [e]; exact hk) (by rw [e]; exact hd)
theorem readQ_end {l : List UInt8} {i : Nat} {n : Int} (h : readQ l i l.length n) : digV 0 (l.drop i) = some n := by
  have := h.1
  exact readInv_end h.2 (by omega)
theorem negR_at (l : List UInt8) : negR l = (decide (1 ≤ l.length) && decide (byteAt l 0 = 45)) := by
  cases l with
  | nil => rfl
  | cons c r => simp [negR, byteAt]
/-- What l1Read answers, told by the place behind the sign. -/
theorem readO_short {l : List UInt8} {i : Nat} (hi : i = if negR l = true then 1 else 0) (h : l.length - i < 1 ∨ 9 < l.length - i) : readO l = none := by
  unfold readO
  rw [if_pos (by rw [body_drop, ← hi, List.length_drop]; exact h)]
theorem readO_bad {l : List UInt8} {i : Nat} (hi : i = if negR l = true then 1 else 0) (h : digV 0 (l.drop i) = none) : readO l = none := by
  unfold readO
  split
  · rfl
  · rw [body_drop, ← hi, h]
theorem readO_zero {l : List UInt8} {i : Nat} (hi : i = if negR l = true then 1 else 0) (hl : i < l.length) (h0 : byteAt l i = 48) (h1 : negR l = true ∨ 1 < l.length) : readO l = none := by
  unfold readO
  split
  · rfl
  · split
    · rfl
    · rw [if_pos]
      refine ⟨?_, h1⟩
      rw [body_drop, ← hi, List.head?_drop, List.getElem?_eq_getElem hl]
      have : byteAt l i = l[i] := by unfold byteAt; rw [List.getD_eq_getElem?_getD, List.getElem?_eq_getElem hl]; rfl
      rw [← this, h0]
theorem readO_ok {l : List UInt8} {i : Nat} {n : Int} (hi : i = if negR l = true then 1 else 0) (hl : i < l.length) (h9 : l.length - i ≤ 9) (h : digV 0 (l.drop i) = some n) (h0 : ¬ (byteAt l i = 48 ∧ (negR l = true ∨ 1 < l.length))) :
    readO l = some (if negR l = true then -n else n) := by
  unfold readO
  have e1 : (bodyR l).length = l.length - i := by rw [body_drop, ← hi, List.length_drop]
  have e2 : (bodyR l).head? = some (byteAt l i) := by
    rw [body_drop, ← hi, List.head?_drop, List.getElem?_eq_getElem hl]
    unfold byteAt; rw [List.getD_eq_getElem?_getD, List.getElem?_eq_getElem hl]; rfl
  have e3 : digV 0 (bodyR l) = some n := by rw [body_drop, ← hi]; exact h
  rw [if_neg (by rw [e1]; omega), e3]
  simp only
  rw [if_neg]
  rintro ⟨a, b⟩
  apply h0
  refine ⟨?_, b⟩
  rw [e2] at a
  simpa using a
end Go.Proofs.YtljamlgnobpjeaaGreatDoor

/- Plain mathematics of texts that are joined and cut. -/
namespace Go.Proofs.YtljamlgnobpjeaaGreatDoor

/-- Texts with b between each two, as l1Words puts them. -/
def joinK (b : List UInt8) (ts : List (List UInt8)) : Nat → List UInt8
  | 0 => []
  | k + 1 => (if k = 0 then joinK b ts k else joinK b ts k ++ b) ++ ts.getD k []
def joinL (b : List UInt8) : List (List UInt8) → List UInt8
  | [] => []
  | [t] => t
  | t :: u :: r => t ++ b ++ joinL b (u :: r)
theorem joinL_cons (b t : List UInt8) {r : List (List UInt8)} (h : r ≠ []) : joinL b (t :: r) = t ++ b ++ joinL b r := by
  cases r with
  | nil => exact absurd rfl h
  | cons u r => rfl
theorem joinL_snoc (b t : List UInt8) : ∀ {r : List (List UInt8)}, r ≠ [] → joinL b (r ++ [t]) = joinL b r ++ b ++ t
  | [], h => absurd rfl h
  | [u], _ => by simp [joinL]
  | u :: v :: r, _ => by
    rw [List.cons_append, joinL_cons b u (by simp), joinL_snoc b t (r := v :: r) (by simp), joinL_cons b u (by simp)]
    simp
theorem take_moreL {α : Type} (l : List α) (k : Nat) (z : α) (h : k < l.length) : l.take (k + 1) = l.take k ++ [l.getD k z] := by
  rw [List.take_add_one, List.getElem?_eq_getElem h, List.getD_eq_getElem?_getD, List.getElem?_eq_getElem h]
  rfl
theorem joinK_take (b : List UInt8) (ts : List (List UInt8)) : ∀ k : Nat, k ≤ ts.length → joinK b ts k = joinL b (ts.take k)
  | 0, _ => by simp [joinK, joinL]
  | k + 1, h => by
    rw [joinK, joinK_take b ts k (by omega), take_moreL ts k [] (by omega)]
    by_cases h0 : k = 0
    · subst h0; simp [joinL]
    · rw [if_neg h0, joinL_snoc b _ (by
        intro e
        have := congrArg List.length e
        rw [List.length_take, List.length_nil] at this
        omega)]
/-- What l5Cut has behind i rounds: the pieces, and where the next one begins. -/
def cutK (b s : List UInt8) : Nat → List (List UInt8) × Nat
  | 0 => ([], 0)
  | i + 1 => if (cutK b s i).2 ≤ i ∧ (s.drop i).take b.length = b then ((cutK b s i).1 ++ [segL s (cutK b s i).2 i], i + b.length) else cutK b s i
def cutL (b s : List UInt8) : List (List UInt8) := (cutK b s (s.length + 1 - b.length)).1 ++ [s.drop (cutK b s (s.length + 1 - b.length)).2]
def flatB (b : List UInt8) (ts : List (List UInt8)) : List UInt8 := (ts.map (· ++ b)).flatten
theorem joinL_flat (b t : List UInt8) : ∀ ts : List (List UInt8), joinL b (ts ++ [t]) = flatB b ts ++ t
  | [] => by simp [joinL, flatB]
  | u :: r => by
    rw [List.cons_append, joinL_cons b u (by simp), joinL_flat b t r]
    simp [flatB]
theorem cutK_flat (b s : List UInt8) : ∀ i : Nat, (cutK b s i).2 ≤ i + b.length - 1 + 1 ∧ flatB b (cutK b s i).1 = s.take (cutK b s i).2
  | 0 => by simp [cutK, flatB]
  | i + 1 => by
    obtain ⟨h1, h2⟩ := cutK_flat b s i
    rw [cutK]
    split
    · rename_i h
      refine ⟨by simp only; omega, ?_⟩
      simp only [flatB, List.map_append, List.flatten_append] at h2 ⊢
      rw [h2]
      simp only [List.map_cons, List.map_nil, List.flatten_cons, List.flatten_nil, List.append_nil]
      rw [← List.append_assoc, segL]
      rw [show s.take (cutK b s i).2 ++ (s.drop (cutK b s i).2).take (i - (cutK b s i).2) = s.take i by
        rw [← List.take_add, show (cutK b s i).2 + (i - (cutK b s i).2) = i by omega]]
      conv => lhs; rw [← h.2]
      rw [← List.take_add]
    · exact ⟨by omega, h2⟩
/-- A text that was cut, joined again. -/
theorem join_cut (b s : List UInt8) : joinL b (cutL b s) = s := by
  rw [cutL, joinL_flat, (cutK_flat b s _).2, List.take_append_drop]
theorem cutL_ne (b s : List UInt8) : cutL b s ≠ [] := by simp [cutL]
theorem cutK_shift (b x r : List UInt8) (o : List (List UInt8)) (h : cutK b (x ++ r) x.length = (o, x.length)) :
    ∀ i : Nat, cutK b (x ++ r) (x.length + i) = (o ++ (cutK b r i).1, x.length + (cutK b r i).2)
  | 0 => by simp [h, cutK]
  | i + 1 => by
    have ih := cutK_shift b x r o h i
    rw [← Nat.add_assoc, cutK, ih, cutK]
    have e1 : (x ++ r).drop (x.length + i) = r.drop i := by rw [List.drop_append, List.drop_eq_nil_of_le (by omega), Nat.add_sub_cancel_left]; rfl
    rw [e1]
    by_cases hh : (cutK b r i).2 ≤ i ∧ (r.drop i).take b.length = b
    · rw [if_pos hh, if_pos ⟨by simp only; omega, hh.2⟩]
      simp only [Prod.mk.injEq]
      refine ⟨?_, by omega⟩
      have e2 : segL (x ++ r) (x.length + (cutK b r i).2) (x.length + i) = segL r (cutK b r i).2 i := by
        unfold segL
        rw [List.drop_append, List.drop_eq_nil_of_le (by omega), Nat.add_sub_cancel_left, show x.length + i - (x.length + (cutK b r i).2) = i - (cutK b r i).2 by omega]
        rfl
      rw [e2, List.append_assoc]
    · rw [if_neg hh, if_neg (by simp only; intro hc; exact hh ⟨by omega, hc.2⟩)]
theorem cutK_none (b s : List UInt8) : ∀ n : Nat, (∀ i, i < n → (s.drop i).take b.length ≠ b) → cutK b s n = ([], 0)
  | 0, _ => rfl
  | n + 1, h => by
    rw [cutK, cutK_none b s n (fun i hi => h i (by omega)), if_neg (fun hc => h n (by omega) hc.2)]
theorem cutK_wait (b s : List UInt8) (n : Nat) (o : List (List UInt8)) (f : Nat) (h : cutK b s n = (o, f)) : ∀ k : Nat, n + k ≤ f → cutK b s (n + k) = (o, f)
  | 0, _ => h
  | k + 1, hk => by
    rw [← Nat.add_assoc, cutK, cutK_wait b s n o f h k (by omega), if_neg (by simp only; omega)]
/-- The sign c, first met in b behind j others, is not in the text p: then b begins nowhere in p. -/
theorem no_hit {b p r : List UInt8} {c : UInt8} {j : Nat} (hj : b[j]? = some c) (hb : ∀ m, m < j → b[m]? ≠ some c) (hp : c ∉ p) (hr : r = [] ∨ ∃ r', r = b ++ r') :
    ∀ i, i < p.length → ((p ++ r).drop i).take b.length ≠ b := by
  intro i hi he
  have h1 : (((p ++ r).drop i).take b.length)[j]? = some c := by rw [he]; exact hj
  have hjl : j < b.length := (List.getElem?_eq_some_iff.1 hj).1
  rw [List.getElem?_take, if_pos hjl, List.getElem?_drop] at h1
  by_cases hlt : i + j < p.length
  · rw [List.getElem?_append_left hlt] at h1
    exact hp (List.mem_of_getElem? h1)
  · rw [List.getElem?_append_right (by omega)] at h1
    rcases hr with rfl | ⟨r', rfl⟩
    · simp at h1
    · rw [List.getElem?_append_left (by omega)] at h1
      exact hb _ (by omega) h1
/-- Texts that were joined, cut again. -/
theorem cut_join {b : List UInt8} {c : UInt8} {j : Nat} (hj : b[j]? = some c) (hb : ∀ m, m < j → b[m]? ≠ some c) : ∀ {ts : List (List UInt8)}, ts ≠ [] → (∀ t, t ∈ ts → c ∉ t) → cutL b (joinL b ts) = ts
  | [], h, _ => absurd rfl h
  | [t], _, ht => by
    have hp := ht t (by simp)
    have hjl : j < b.length := (List.getElem?_eq_some_iff.1 hj).1
    have h0 := no_hit hj hb hp (.inl rfl)
    rw [List.append_nil] at h0
    rw [joinL, cutL, cutK_none b t _ (fun i hi => h0 i (by omega))]
    simp
  | t :: u :: r, _, ht => by
    have hp := ht t (by simp)
    have hjl : j < b.length := (List.getElem?_eq_some_iff.1 hj).1
    have ih := cut_join hj hb (ts := u :: r) (by simp) (fun x hx => ht x (by simp only [List.mem_cons] at hx ⊢; exact .inr hx))
    rw [joinL_cons b t (by simp)]
    obtain ⟨R, hR⟩ : ∃ R, R = joinL b (u :: r) := ⟨_, rfl⟩
    rw [← hR] at ih ⊢
    have h0 := cutK_none b (t ++ b ++ R) t.length (by rw [List.append_assoc]; exact no_hit hj hb hp (.inr ⟨R, rfl⟩))
    have h1 : cutK b (t ++ b ++ R) (t.length + 1) = ([t], t.length + b.length) := by
      rw [cutK, h0, if_pos ⟨by simp, by simp⟩]
      simp [segL]
    have h2 := cutK_wait b (t ++ b ++ R) (t.length + 1) [t] (t.length + b.length) h1 (b.length - 1) (by omega)
    rw [show t.length + 1 + (b.length - 1) = (t ++ b).length by simp; omega] at h2
    rw [show t.length + b.length = (t ++ b).length by simp] at h2
    have h3 := cutK_shift b (t ++ b) R [t] h2 (R.length + 1 - b.length)
    by_cases hl : b.length ≤ R.length + 1
    · rw [cutL, show (t ++ b ++ R).length + 1 - b.length = (t ++ b).length + (R.length + 1 - b.length) by simp; omega, h3]
      simp only
      rw [show (t ++ b ++ R).drop ((t ++ b).length + (cutK b R (R.length + 1 - b.length)).2) = R.drop (cutK b R (R.length + 1 - b.length)).2 by
        rw [List.drop_append, List.drop_eq_nil_of_le (by omega), Nat.add_sub_cancel_left]; rfl]
      rw [List.append_assoc, ← cutL, ih]
      rfl
    · have h4 := cutK_wait b (t ++ b ++ R) (t.length + 1) [t] (t.length + b.length) h1 R.length (by omega)
      have h5 : R.length + 1 - b.length = 0 := by omega
      have h6 : cutL b R = [R] := by rw [cutL, h5]; simp [cutK]
      rw [cutL, show (t ++ b ++ R).length + 1 - b.length = t.length + 1 + R.length by simp; omega, h4]
      simp only
      rw [show t.length + b.length = (t ++ b).length by simp, List.drop_left, ← ih, h6]
      rfl
end Go.Proofs.YtljamlgnobpjeaaGreatDoor

/- Plain mathematics of works as texts: shown and read again. -/
namespace Go.Proofs.YtljamlgnobpjeaaGreatDoor

def shD (d : Dd) : List UInt8 := showL d.1 d.2.1 d.2.2.1 d.2.2.2
def showC (ds : List Dd) : List UInt8 := if ds = [] then [45] else joinL [59, 32] (ds.map shD)
def showW (dss : List (List Dd)) : List UInt8 := joinL [32, 124, 32] (dss.map showC)
def showB (dss : List (List Dd)) : List UInt8 := if workB dss = true then showW dss else []
/-- Each of a list, or nothing where one is nothing. -/
def seqO {α β : Type} (f : α → Option β) : List α → Option (List β)
  | [] => some []
  | x :: r => match f x with
    | none => none
    | some y => match seqO f r with
      | none => none
      | some ys => some (y :: ys)
theorem seqO_snoc {α β : Type} {f : α → Option β} {x : α} {y : β} (hx : f x = some y) : ∀ {l : List α} {ys : List β}, seqO f l = some ys → seqO f (l ++ [x]) = some (ys ++ [y])
  | [], ys, h => by
    simp only [seqO, Option.some.injEq] at h
    subst h
    simp [seqO, hx]
  | z :: r, ys, h => by
    rw [seqO] at h
    split at h
    · cases h
    · rename_i y0 h0
      split at h
      · cases h
      · rename_i ys0 h1
        simp only [Option.some.injEq] at h
        subst h
        rw [List.cons_append, seqO, h0]
        simp only
        rw [seqO_snoc hx h1]
        rfl
theorem seqO_none {α β : Type} {f : α → Option β} {x : α} (hx : f x = none) : ∀ {l : List α}, x ∈ l → seqO f l = none
  | [], h => by simp at h
  | z :: r, h => by
    rw [seqO]
    rcases List.mem_cons.1 h with rfl | h
    · rw [hx]
    · rw [seqO_none hx h]
      split <;> rfl
theorem seqO_more {α β : Type} {f : α → Option β} {l : List α} {ys : List β} {k : Nat} (z : α) (hk : k < l.length) (h : seqO f (l.take k) = some ys) {y : β} (hy : f (l.getD k z) = some y) : seqO f (l.take (k + 1)) = some (ys ++ [y]) := by
  rw [take_moreL l k z hk]
  exact seqO_snoc hy h
theorem seqO_stop {α β : Type} {f : α → Option β} {l : List α} {k : Nat} (z : α) (hk : k < l.length) (hy : f (l.getD k z) = none) : seqO f l = none := by
  refine seqO_none hy ?_
  rw [List.getD_eq_getElem?_getD, List.getElem?_eq_getElem hk]
  exact List.getElem_mem hk
theorem seqO_back {α β : Type} {f : α → Option β} {g : β → α} (hfg : ∀ x y, f x = some y → g y = x) : ∀ {l : List α} {ys : List β}, seqO f l = some ys → ys.map g = l
  | [], ys, h => by simp only [seqO, Option.some.injEq] at h; subst h; rfl
  | z :: r, ys, h => by
    rw [seqO] at h
    split at h
    · cases h
    · rename_i y0 h0
      split at h
      · cases h
      · rename_i ys0 h1
        simp only [Option.some.injEq] at h
        subst h
        rw [List.map_cons, hfg _ _ h0, seqO_back hfg h1]
theorem seqO_on {α β : Type} {f : α → Option β} {g : β → α} : ∀ {ys : List β}, (∀ y, y ∈ ys → f (g y) = some y) → seqO f (ys.map g) = some ys
  | [], _ => rfl
  | y :: ys, h => by
    rw [List.map_cons, seqO, h y (by simp), seqO_on (fun z hz => h z (by simp [hz]))]
def rdD (t : List UInt8) : Option Dd := if fitS t = true then some (gSk (splitL 32 t), gSp (splitL 32 t), gSv (splitL 32 t), gSg (splitL 32 t)) else none
def readC (s : List UInt8) : Option (List Dd) := if s = [45] then some [] else seqO rdD (cutL [59, 32] s)
def readWo (s : List UInt8) : Option (List (List Dd)) := seqO readC (cutL [32, 124, 32] s)
def readW (s : List UInt8) : Option (List (List Dd)) := match readWo s with
  | none => none
  | some x => if workB x = true then some x else none
theorem rdD_show {t : List UInt8} {d : Dd} (h : rdD t = some d) : shD d = t := by
  unfold rdD at h
  split at h
  · rename_i hf
    simp only [Option.some.injEq] at h
    subst h
    simp only [fitS, fits, Bool.and_eq_true, decide_eq_true_eq] at hf
    exact hf.2
  · cases h
theorem rdD_ok {t : List UInt8} {d : Dd} (h : rdD t = some d) : okD d = true := by
  unfold rdD at h
  split at h
  · rename_i hf
    simp only [Option.some.injEq] at h
    subst h
    simp only [fitS, fits, Bool.and_eq_true, decide_eq_true_eq] at hf
    exact hf.1
  · cases h
theorem show_rdD {d : Dd} (h : okD d = true) : rdD (shD d) = some d := by
  obtain ⟨k, p, v, g⟩ := d
  have h1 := fit_show (k := k) (p := p) (v := v) (g := g) h
  have h2 := guess_same h1.1
  unfold rdD shD
  simp only
  rw [fit_same, if_pos h1.1, h2.1, h2.2.1, h2.2.2.1, h2.2.2.2, h1.2.1, h1.2.2.1, h1.2.2.2.1, h1.2.2.2.2]
def cleanT (t : List UInt8) : Bool := !t.contains 45 && !t.contains 59 && !t.contains 124
theorem all_clean : (okList.all fun d => cleanT (showL d.1 d.2.1 d.2.2.1 d.2.2.2)) = true := by decide +kernel
theorem clean {d : Dd} (h : okD d = true) : 45 ∉ shD d ∧ 59 ∉ shD d ∧ 124 ∉ shD d := by
  have h1 := List.all_eq_true.1 all_clean _ (ok_mem _ _ _ _ h)
  simp only [cleanT, Bool.and_eq_true, Bool.not_eq_true', List.contains_eq_mem, decide_eq_false_iff_not] at h1
  exact ⟨h1.1.1, h1.1.2, h1.2⟩
theorem not_joined {b : List UInt8} {c : UInt8} (hb : c ∉ b) : ∀ {ts : List (List UInt8)}, (∀ t, t ∈ ts → c ∉ t) → c ∉ joinL b ts
  | [], _ => by simp [joinL]
  | [t], h => by rw [joinL]; exact h t (by simp)
  | t :: u :: r, h => by
    rw [joinL_cons b t (by simp)]
    have ih := not_joined hb (ts := u :: r) (fun x hx => h x (by simp only [List.mem_cons] at hx ⊢; exact .inr hx))
    have h1 := h t (by simp)
    simp only [List.mem_append, not_or]
    exact ⟨⟨h1, hb⟩, ih⟩
theorem readC_show {s : List UInt8} {ds : List Dd} (h : readC s = some ds) : showC ds = s := by
  unfold readC at h
  split at h
  · rename_i h0
    simp only [Option.some.injEq] at h
    subst h
    rw [h0]; rfl
  · have h1 := seqO_back (g := shD) (fun _ _ => rdD_show) h
    have h2 : ds ≠ [] := by
      rintro rfl
      exact cutL_ne [59, 32] s h1.symm
    rw [showC, if_neg h2, h1, join_cut]
/-- What is read is shown as the text that it was read from. -/
theorem readW_show {s : List UInt8} {dss : List (List Dd)} (h : readW s = some dss) : showB dss = s := by
  unfold readW at h
  split at h
  · cases h
  · rename_i x hx
    split at h
    · rename_i hw
      simp only [Option.some.injEq] at h
      subst h
      rw [showB, if_pos hw, showW, seqO_back (g := showC) (fun _ _ => readC_show) hx, join_cut]
    · cases h
theorem show_readC {ds : List Dd} (h : ∀ d, d ∈ ds → okD d = true) : readC (showC ds) = some ds := by
  by_cases h0 : ds = []
  · subst h0; rfl
  · have hc : ∀ t, t ∈ ds.map shD → 59 ∉ t := by
      intro t ht
      obtain ⟨d, hd, rfl⟩ := List.mem_map.1 ht
      exact (clean (h d hd)).2.1
    have hm : (45 : UInt8) ∉ joinL [59, 32] (ds.map shD) := by
      refine not_joined (by decide) ?_
      intro t ht
      obtain ⟨d, hd, rfl⟩ := List.mem_map.1 ht
      exact (clean (h d hd)).1
    rw [showC, if_neg h0, readC, if_neg (fun e => hm (by rw [e]; simp)), cut_join (c := 59) (j := 0) rfl (by omega) (by simpa using h0) hc]
    exact seqO_on (fun d hd => show_rdD (h d hd))
theorem showC_bar {ds : List Dd} (h : ∀ d, d ∈ ds → okD d = true) : 124 ∉ showC ds := by
  unfold showC
  split
  · decide
  · refine not_joined (by decide) ?_
    intro t ht
    obtain ⟨d, hd, rfl⟩ := List.mem_map.1 ht
    exact (clean (h d hd)).2.2
theorem workB_parts {dss : List (List Dd)} (h : workB dss = true) : dss ≠ [] ∧ ∀ ds, ds ∈ dss → ∀ d, d ∈ ds → okD d = true := by
  simp only [workB, Bool.and_eq_true, decide_eq_true_eq] at h
  obtain ⟨⟨⟨⟨h1, h2⟩, _⟩, _⟩, _⟩ := h
  refine ⟨by rintro rfl; simp at h1, ?_⟩
  intro ds hds d hd
  have h3 := List.all_eq_true.1 h2 ds hds
  simp only [okL, Bool.and_eq_true] at h3
  exact List.all_eq_true.1 h3.1 d hd
/-- A right work, shown and read, is the work. -/
theorem show_readW {dss : List (List Dd)} (h : workB dss = true) : readW (showB dss) = some dss := by
  obtain ⟨h0, h1⟩ := workB_parts h
  have h2 : readWo (showW dss) = some dss := by
    rw [readWo, showW, cut_join (c := 124) (j := 1) rfl (by intro m hm; obtain rfl : m = 0 := by omega
                                                            decide) (by simpa using h0) (by
      intro t ht
      obtain ⟨ds, hds, rfl⟩ := List.mem_map.1 ht
      exact showC_bar (h1 ds hds))]
    exact seqO_on (fun ds hds => show_readC (h1 ds hds))
  rw [showB, if_pos h, readW, h2]
  simp only [h, if_true]
theorem readW_right {s : List UInt8} {dss : List (List Dd)} (h : readW s = some dss) : workB dss = true := by
  unfold readW at h
  split at h
  · cases h
  · split at h
    · rename_i hw
      simp only [Option.some.injEq] at h
      subst h
      exact hw
    · cases h
end Go.Proofs.YtljamlgnobpjeaaGreatDoor

/- Plain mathematics of the program's cuts: at most so many pieces, each read as a deed or left as none; that what is read so is what the specification reads. -/
namespace Go.Proofs.YtljamlgnobpjeaaGreatDoor

theorem cut_one {b s : List UInt8} (h : ∀ j, j < s.length + 1 - b.length → (s.drop j).take b.length ≠ b) : cutL b s = [s] := by
  rw [cutL, cutK_none b s _ h]; simp
theorem cut_step {b t R : List UInt8} (hb : 0 < b.length) (h : ∀ j, j < t.length → ((t ++ b ++ R).drop j).take b.length ≠ b) : cutL b (t ++ b ++ R) = t :: cutL b R := by
  have h0 := cutK_none b (t ++ b ++ R) t.length h
  have h1 : cutK b (t ++ b ++ R) (t.length + 1) = ([t], t.length + b.length) := by
    rw [cutK, h0, if_pos ⟨by simp, by simp⟩]
    simp [segL]
  have h2 := cutK_wait b (t ++ b ++ R) (t.length + 1) [t] (t.length + b.length) h1 (b.length - 1) (by omega)
  rw [show t.length + 1 + (b.length - 1) = (t ++ b).length by simp; omega] at h2
  rw [show t.length + b.length = (t ++ b).length by simp] at h2
  have h3 := cutK_shift b (t ++ b) R [t] h2 (R.length + 1 - b.length)
  by_cases hl : b.length ≤ R.length + 1
  · rw [cutL, show (t ++ b ++ R).length + 1 - b.length = (t ++ b).length + (R.length + 1 - b.length) by simp; omega, h3]
    simp only
    rw [show (t ++ b ++ R).drop ((t ++ b).length + (cutK b R (R.length + 1 - b.length)).2) = R.drop (cutK b R (R.length + 1 - b.length)).2 by
      rw [List.drop_append, List.drop_eq_nil_of_le (by omega), Nat.add_sub_cancel_left]; rfl]
    rw [List.append_assoc, ← cutL]
    rfl
  · have h4 := cutK_wait b (t ++ b ++ R) (t.length + 1) [t] (t.length + b.length) h1 R.length (by omega)
    have h5 : R.length + 1 - b.length = 0 := by omega
    have h6 : cutL b R = [R] := by rw [cutL, h5]; simp [cutK]
    rw [cutL, show (t ++ b ++ R).length + 1 - b.length = t.length + 1 + R.length by simp; omega, h4]
    simp only
    rw [show t.length + b.length = (t ++ b).length by simp, List.drop_left, h6]
    rfl
theorem occ_take {s b : List UInt8} {j : Nat} : Lib.occAt s b j = true ↔ (s.drop j).take b.length = b := by
  unfold Lib.occAt
  rw [List.isPrefixOf_iff_prefix, List.prefix_iff_eq_take]
  exact ⟨fun h => h.symm, fun h => h.symm⟩
theorem cut_miss {b s : List UInt8} (h : Lib.index s b = -1) : cutL b s = [s] := by
  rcases Lib.index_spec s b with ⟨_, hn⟩ | ⟨i, hi, _⟩
  · refine cut_one (fun j hj => ?_)
    by_cases hl : j ≤ s.length
    · intro e
      have := hn j hl
      rw [occ_take.2 e] at this
      cases this
    · omega
  · omega
theorem cut_hit {b s : List UInt8} {i : Nat} (hb : 0 < b.length) (h : Lib.index s b = (i : Int)) : i + b.length ≤ s.length ∧ cutL b s = s.take i :: cutL b (s.drop (i + b.length)) := by
  rcases Lib.index_spec s b with ⟨hm, _⟩ | ⟨i', hi, hl, ho, hno⟩
  · omega
  · obtain rfl : i' = i := by omega
    have hroom := Lib.index_room s b (by omega)
    have hr : i' + b.length ≤ s.length := by omega
    refine ⟨hr, ?_⟩
    have e : s = s.take i' ++ b ++ s.drop (i' + b.length) := by
      have h1 := occ_take.1 ho
      conv => lhs; rw [← List.take_append_drop i' s]
      rw [List.append_assoc]
      congr 1
      conv => lhs; rw [← List.take_append_drop b.length (s.drop i')]
      rw [h1, List.drop_drop]
    have h2 := cut_step (b := b) (t := s.take i') (R := s.drop (i' + b.length)) hb (by
      intro j hj
      rw [← e]
      have hj' : j < i' := by rw [List.length_take] at hj; omega
      intro e2
      have := hno j hj'
      rw [occ_take.2 e2] at this
      cases this)
    rw [← e] at h2
    exact h2
theorem split_all {b : List UInt8} (hb : 0 < b.length) : ∀ (k : Nat) (s : List UInt8), s.length ≤ k → Lib.splitK b 0 k s = cutL b s
  | 0, s, h => by
    have : s = [] := List.eq_nil_of_length_eq_zero (by omega)
    subst this
    rw [cut_one (by intro j hj; simp at hj; omega)]
    rfl
  | k + 1, s, h => by
    rw [Lib.splitK]
    split
    · rename_i hm
      rw [cut_miss (by simpa using hm)]
    · rename_i hm
      have hge := Lib.index_ge s b
      have hne : Lib.index s b ≠ -1 := by simpa using hm
      obtain ⟨i, hi⟩ : ∃ i : Nat, Lib.index s b = (i : Int) := ⟨(Lib.index s b).toNat, by omega⟩
      obtain ⟨hr, hc⟩ := cut_hit hb hi
      rw [hc, hi, Int.toNat_natCast, Nat.add_zero, split_all hb k _ (by rw [List.length_drop]; omega)]
theorem split_some {b : List UInt8} (hb : 0 < b.length) : ∀ (k : Nat) (s : List UInt8), ((Lib.splitK b 0 k s).length ≤ k → Lib.splitK b 0 k s = cutL b s) ∧ (Lib.splitK b 0 k s).length ≤ k + 1 ∧ (k < (Lib.splitK b 0 k s).length → k < (cutL b s).length)
  | 0, s => by
    refine ⟨fun h => by simp [Lib.splitK] at h, by simp [Lib.splitK], fun _ => ?_⟩
    exact List.length_pos_iff.2 (cutL_ne b s)
  | k + 1, s => by
    rw [Lib.splitK]
    split
    · rename_i hm
      rw [cut_miss (by simpa using hm)]
      exact ⟨fun _ => rfl, by simp, fun h => h⟩
    · rename_i hm
      have hge := Lib.index_ge s b
      have hne : Lib.index s b ≠ -1 := by simpa using hm
      obtain ⟨i, hi⟩ : ∃ i : Nat, Lib.index s b = (i : Int) := ⟨(Lib.index s b).toNat, by omega⟩
      obtain ⟨hr, hc⟩ := cut_hit hb hi
      obtain ⟨i1, i2, i3⟩ := split_some hb k (s.drop (i + b.length))
      rw [hc, hi, Int.toNat_natCast, Nat.add_zero]
      simp only [List.length_cons]
      refine ⟨fun h => by rw [i1 (by omega)], by omega, fun h => by have := i3 (by omega); omega⟩
theorem splitN_cut {b : List UInt8} (hb : 0 < b.length) {n : Nat} (hn : 0 < n) (s : List UInt8) : (Lib.splitN s b n).length ≤ n ∧ ((Lib.splitN s b n).length < n → Lib.splitN s b n = cutL b s) ∧ ((Lib.splitN s b n).length = n → n ≤ (cutL b s).length) := by
  unfold Lib.splitN
  by_cases h : n ≤ s.length + 1
  · rw [Nat.min_eq_left h]
    obtain ⟨i1, i2, i3⟩ := split_some hb (n - 1) s
    exact ⟨by omega, fun h => i1 (by omega), fun h => by have := i3 (by omega); omega⟩
  · rw [Nat.min_eq_right (by omega), Nat.add_sub_cancel]
    have e := split_all hb s.length s (Nat.le_refl _)
    obtain ⟨i1, i2, i3⟩ := split_some hb s.length s
    rw [e] at i2 ⊢
    exact ⟨by omega, fun _ => rfl, fun h => by omega⟩
theorem splitK_le (b : List UInt8) : ∀ (k : Nat) (s p : List UInt8), p ∈ Lib.splitK b 0 k s → p.length ≤ s.length
  | 0, s, p, h => by simp [Lib.splitK] at h; subst h; exact Nat.le_refl _
  | k + 1, s, p, h => by
    rw [Lib.splitK] at h
    split at h
    · simp at h; subst h; exact Nat.le_refl _
    · rcases List.mem_cons.1 h with rfl | h
      · rw [List.length_take]; omega
      · have := splitK_le b k _ p h
        rw [List.length_drop] at this
        omega
theorem seqO_len {α β : Type} {f : α → Option β} : ∀ {l : List α} {ys : List β}, seqO f l = some ys → ys.length = l.length
  | [], ys, h => by simp only [seqO, Option.some.injEq] at h; subst h; rfl
  | z :: r, ys, h => by
    rw [seqO] at h
    split at h
    · cases h
    · split at h
      · cases h
      · rename_i h1
        simp only [Option.some.injEq] at h
        subst h
        rw [List.length_cons, List.length_cons, seqO_len h1]
theorem seqO_at {α β : Type} {f : α → Option β} {g : α → β} (hg : ∀ x y, f x = some y → g x = y) : ∀ {l : List α} {ys : List β}, seqO f l = some ys → ys = l.map g
  | [], ys, h => by simp only [seqO, Option.some.injEq] at h; subst h; rfl
  | z :: r, ys, h => by
    rw [seqO] at h
    split at h
    · cases h
    · rename_i y0 h0
      split at h
      · cases h
      · rename_i ys0 h1
        simp only [Option.some.injEq] at h
        subst h
        rw [List.map_cons, hg _ _ h0, seqO_at hg h1]
theorem seqO_map {α β : Type} {f : α → Option β} {g : α → β} : ∀ {l : List α}, (∀ x, x ∈ l → f x = some (g x)) → seqO f l = some (l.map g)
  | [], _ => rfl
  | z :: r, h => by
    rw [seqO, h z (by simp), seqO_map (fun x hx => h x (by simp [hx]))]
    rfl
theorem seqO_each {α β : Type} {f : α → Option β} : ∀ {l : List α} {ys : List β}, seqO f l = some ys → ∀ x, x ∈ l → ∃ y, y ∈ ys ∧ f x = some y
  | [], ys, h, x, hx => by simp at hx
  | z :: r, ys, h, x, hx => by
    rw [seqO] at h
    split at h
    · cases h
    · rename_i y0 h0
      split at h
      · cases h
      · rename_i ys0 h1
        simp only [Option.some.injEq] at h
        subst h
        rcases List.mem_cons.1 hx with rfl | hx
        · exact ⟨y0, by simp, h0⟩
        · obtain ⟨y, hy, e⟩ := seqO_each h1 x hx
          exact ⟨y, by simp [hy], e⟩
/-- A deed that is read, or the zero one. -/
def rdZ (t : List UInt8) : Dd := match rdD t with
  | some d => d
  | none => zD
def readP (t : List UInt8) : List Dd := if t = [45] then [] else (Lib.splitN t [59, 32] 6).map rdZ
def readWP (s : List UInt8) : List (List Dd) := (Lib.splitN s [32, 124, 32] 4).map readP
theorem zD_bad : okD zD = false := by decide
theorem rdZ_of {t : List UInt8} {d : Dd} (h : rdD t = some d) : rdZ t = d := by rw [rdZ, h]
theorem rdZ_ok {t : List UInt8} (h : okD (rdZ t) = true) : rdD t = some (rdZ t) := by
  cases hq : rdD t with
  | none => rw [rdZ, hq] at h; rw [zD_bad] at h; cases h
  | some d => rw [rdZ_of hq]
theorem readP_ok {t : List UInt8} (h : okL (readP t) = true) : readC t = some (readP t) := by
  by_cases h0 : t = [45]
  · rw [readC, readP, if_pos h0, if_pos h0]
  · rw [readP, if_neg h0] at h ⊢
    rw [readC, if_neg h0]
    obtain ⟨i1, i2, i3⟩ := splitN_cut (b := [59, 32]) (by simp) (n := 6) (by omega) t
    simp only [okL, Bool.and_eq_true, decide_eq_true_eq, List.length_map] at h
    rw [i2 (by omega)] at h ⊢
    refine seqO_map (fun x hx => rdZ_ok ?_)
    exact List.all_eq_true.1 h.1 _ (List.mem_map.2 ⟨x, hx, rfl⟩)
theorem readP_of {t : List UInt8} {ds : List Dd} (h : readC t = some ds) (hk : okL ds = true) : readP t = ds := by
  by_cases h0 : t = [45]
  · rw [readC, if_pos h0] at h
    rw [readP, if_pos h0]
    exact Option.some.inj h
  · rw [readC, if_neg h0] at h
    rw [readP, if_neg h0]
    obtain ⟨i1, i2, i3⟩ := splitN_cut (b := [59, 32]) (by simp) (n := 6) (by omega) t
    have hl := seqO_len h
    simp only [okL, Bool.and_eq_true, decide_eq_true_eq] at hk
    have : (Lib.splitN t [59, 32] 6).length ≠ 6 := fun e => by have := i3 e; omega
    rw [i2 (by omega)]
    exact (seqO_at (fun _ _ => rdZ_of) h).symm
theorem workB_okL {dss : List (List Dd)} (h : workB dss = true) : dss.length ≤ 3 ∧ ∀ ds, ds ∈ dss → okL ds = true := by
  simp only [workB, Bool.and_eq_true, decide_eq_true_eq] at h
  obtain ⟨⟨⟨⟨h1, h2⟩, _⟩, _⟩, _⟩ := h
  exact ⟨h1.2, fun ds hd => List.all_eq_true.1 h2 ds hd⟩
/-- What the program reads is what the specification reads. -/
theorem readW_same (s : List UInt8) : readW s = if workB (readWP s) = true then some (readWP s) else none := by
  obtain ⟨i1, i2, i3⟩ := splitN_cut (b := [32, 124, 32]) (by simp) (n := 4) (by omega) s
  by_cases hw : workB (readWP s) = true
  · rw [if_pos hw]
    obtain ⟨l3, hok⟩ := workB_okL hw
    have hlt : (Lib.splitN s [32, 124, 32] 4).length < 4 := by rw [readWP, List.length_map] at l3; omega
    have e : readWo s = some (readWP s) := by
      rw [readWo, readWP, i2 hlt]
      refine seqO_map (fun x hx => readP_ok (hok _ ?_))
      rw [readWP, i2 hlt]
      exact List.mem_map.2 ⟨x, hx, rfl⟩
    rw [readW, e]
    simp only
    rw [if_pos hw]
  · rw [if_neg hw]
    cases hq : readWo s with
    | none => rw [readW, hq]
    | some x =>
      rw [readW, hq]
      simp only
      by_cases hx : workB x = true
      · exfalso
        obtain ⟨l3, hok⟩ := workB_okL hx
        have hl := seqO_len hq
        have hlt : (Lib.splitN s [32, 124, 32] 4).length < 4 := by
          have : (Lib.splitN s [32, 124, 32] 4).length ≠ 4 := fun e => by have := i3 e; omega
          omega
        apply hw
        have e : readWP s = x := by
          rw [readWP, i2 hlt]
          have h1 : seqO readC (cutL [32, 124, 32] s) = some ((cutL [32, 124, 32] s).map readP) := by
            refine seqO_map (fun t ht => ?_)
            obtain ⟨y, hy, e⟩ := seqO_each hq t ht
            rw [e, readP_of e (hok y hy)]
          exact Option.some.inj (h1.symm.trans hq)
        rw [e]; exact hx
      · rw [if_neg hx]
theorem join_same (b : List UInt8) : ∀ ts : List (List UInt8), Lib.join ts b = joinL b ts
  | [] => rfl
  | [t] => by rw [Lib.join_one]; rfl
  | t :: u :: r => by
    have ih := join_same b (u :: r)
    rw [joinL_cons b t (by simp), ← ih, Lib.join_cons, Lib.join_cons, Lib.joinTail, Lib.joinTail]
    simp
end Go.Proofs.YtljamlgnobpjeaaGreatDoor

/- Plain mathematics of Waited: waits between each two deeds, and no groups. -/
namespace Go.Proofs.YtljamlgnobpjeaaGreatDoor

def waitD : Dd := (4, 0, 0, 0)
def bareD (d : Dd) : Dd := (d.1, d.2.1, d.2.2.1, 0)
/-- What Waited has made of the first k deeds of a clerk. -/
def waitK (ds : List Dd) : Nat → List Dd
  | 0 => []
  | k + 1 => if (ds.getD k zD).1 = 4 then waitK ds k else if waitK ds k = [] then [bareD (ds.getD k zD)] else waitK ds k ++ [waitD] ++ [bareD (ds.getD k zD)]
def waitC (ds : List Dd) : List Dd := waitK ds ds.length
def waitW (dss : List (List Dd)) : List (List Dd) := dss.map waitC
def waitB (dss : List (List Dd)) : List (List Dd) := if workB dss = true then (if workB (waitW dss) = true then waitW dss else []) else []
def btw : List Dd → List Dd
  | [] => []
  | [d] => [d]
  | d :: e :: r => d :: waitD :: btw (e :: r)
def strip : List Dd → List Dd
  | [] => []
  | d :: r => if d.1 = 4 then strip r else bareD d :: strip r
theorem btw_cons (d : Dd) {r : List Dd} (h : r ≠ []) : btw (d :: r) = d :: waitD :: btw r := by
  cases r with
  | nil => exact absurd rfl h
  | cons e r => rfl
theorem btw_snoc (d : Dd) : ∀ {l : List Dd}, l ≠ [] → btw (l ++ [d]) = btw l ++ [waitD] ++ [d]
  | [], h => absurd rfl h
  | [e], _ => rfl
  | e :: f :: r, _ => by
    rw [List.cons_append, btw_cons e (by simp), btw_snoc d (l := f :: r) (by simp), btw_cons e (by simp)]
    simp
theorem btw_nil {l : List Dd} : btw l = [] ↔ l = [] := by
  cases l with
  | nil => simp [btw]
  | cons d r =>
    cases r with
    | nil => simp [btw]
    | cons e r => simp [btw]
theorem strip_app : ∀ (l m : List Dd), strip (l ++ m) = strip l ++ strip m
  | [], m => by simp [strip]
  | d :: r, m => by
    rw [List.cons_append, strip, strip, strip_app r m]
    split
    · rfl
    · rfl
theorem take_moreW {α : Type} (l : List α) (k : Nat) (z : α) (h : k < l.length) : l.take (k + 1) = l.take k ++ [l.getD k z] := by
  rw [List.take_add_one, List.getElem?_eq_getElem h, List.getD_eq_getElem?_getD, List.getElem?_eq_getElem h]
  rfl
theorem waitK_btw (ds : List Dd) : ∀ k : Nat, k ≤ ds.length → waitK ds k = btw (strip (ds.take k))
  | 0, _ => by simp [waitK, strip, btw]
  | k + 1, h => by
    rw [waitK, waitK_btw ds k (by omega), take_moreW ds k zD (by omega), strip_app]
    simp only [strip]
    split
    · simp
    · split
      · rename_i h0
        rw [btw_nil] at h0
        rw [h0]
        rfl
      · rename_i h0
        rw [btw_nil] at h0
        rw [btw_snoc _ h0]
theorem waitC_btw (ds : List Dd) : waitC ds = btw (strip ds) := by
  rw [waitC, waitK_btw ds _ (Nat.le_refl _), List.take_length]
def bareB (l : List Dd) : Prop := ∀ d, d ∈ l → d.1 ≠ 4 ∧ d.2.2.2 = 0
theorem strip_bare : ∀ l : List Dd, bareB (strip l)
  | [] => by simp [bareB, strip]
  | d :: r => by
    have ih := strip_bare r
    rw [strip]
    split
    · exact ih
    · rename_i h
      intro x hx
      rcases List.mem_cons.1 hx with rfl | hx
      · exact ⟨h, rfl⟩
      · exact ih x hx
theorem bareD_same {d : Dd} (h : d.2.2.2 = 0) : bareD d = d := by
  obtain ⟨a, b, c, e⟩ := d
  simp only at h
  subst h
  rfl
theorem strip_btw : ∀ {l : List Dd}, bareB l → strip (btw l) = l
  | [], _ => rfl
  | [d], h => by
    have h1 := h d (by simp)
    simp only [btw, strip]
    rw [if_neg h1.1, bareD_same h1.2]
  | d :: e :: r, h => by
    have h1 := h d (by simp)
    have ih := strip_btw (l := e :: r) (fun x hx => h x (by simp only [List.mem_cons] at hx ⊢; exact .inr hx))
    rw [btw_cons d (by simp), strip, if_neg h1.1, bareD_same h1.2, strip, if_pos (show waitD.1 = 4 from rfl), ih]
/-- What is waited stays so. -/
theorem waitC_twice (ds : List Dd) : waitC (waitC ds) = waitC ds := by
  rw [waitC_btw, waitC_btw, strip_btw (strip_bare ds)]
theorem waitW_twice (dss : List (List Dd)) : waitW (waitW dss) = waitW dss := by
  simp only [waitW, List.map_map]
  congr 1
  funext ds
  exact waitC_twice ds
def evS (ds : List Dd) : Int := (ds.map evD).sum
theorem evK_take (ds : List Dd) : ∀ k : Nat, k ≤ ds.length → evK ds k = evS (ds.take k)
  | 0, _ => by simp [evK, evS]
  | k + 1, h => by
    rw [evK, evK_take ds k (by omega), take_moreW ds k zD (by omega)]
    simp [evS]
theorem evK_sum (ds : List Dd) : evK ds ds.length = evS ds := by rw [evK_take ds _ (Nat.le_refl _), List.take_length]
theorem evD_bare (d : Dd) : evD (bareD d) = evD d := rfl
theorem evS_strip : ∀ l : List Dd, evS (strip l) = evS l
  | [] => rfl
  | d :: r => by
    have ih := evS_strip r
    rw [strip]
    split
    · rename_i h
      rw [ih]
      simp [evS, evD, h]
    · simp only [evS, List.map_cons, List.sum_cons, evD_bare] at ih ⊢
      rw [ih]
theorem evS_btw : ∀ l : List Dd, evS (btw l) = evS l
  | [] => rfl
  | [d] => rfl
  | d :: e :: r => by
    have ih := evS_btw (e :: r)
    rw [btw_cons d (by simp)]
    simp only [evS, List.map_cons, List.sum_cons] at ih ⊢
    rw [ih]
    simp [evD, waitD]
theorem evS_wait (ds : List Dd) : evS (waitC ds) = evS ds := by rw [waitC_btw, evS_btw, evS_strip]
theorem evW_map (dss : List (List Dd)) (f : List Dd → List Dd) (hf : ∀ ds, evS (f ds) = evS ds) (h0 : f [] = []) : ∀ i : Nat, evW (dss.map f) i = evW dss i
  | 0 => rfl
  | i + 1 => by
    have e1 : (dss.map f).getD i [] = f (dss.getD i []) := by
      rw [List.getD_eq_getElem?_getD, List.getElem?_map, List.getD_eq_getElem?_getD]
      cases dss[i]? with
      | none => exact h0.symm
      | some x => rfl
    rw [evW, evW, evW_map dss f hf h0 i, e1, evK_sum, evK_sum, hf]
/-- A waited work has as many events. -/
theorem evW_wait (dss : List (List Dd)) : evW (waitW dss) (waitW dss).length = evW dss dss.length := by
  rw [waitW, List.length_map, evW_map dss waitC evS_wait rfl]
theorem waitK_pre (ds : List Dd) (k : Nat) : ∀ n : Nat, k ≤ n → ∃ t, waitK ds n = waitK ds k ++ t
  | 0, h => by
    obtain rfl : k = 0 := by omega
    exact ⟨[], by simp⟩
  | n + 1, h => by
    by_cases e : k = n + 1
    · subst e; exact ⟨[], by simp⟩
    · obtain ⟨t, ht⟩ := waitK_pre ds k n (by omega)
      rw [waitK]
      split
      · exact ⟨t, ht⟩
      · split
        · rename_i h0
          rw [h0] at ht
          have h1 : waitK ds k = [] := by
            cases hw : waitK ds k with
            | nil => rfl
            | cons a b => rw [hw] at ht; cases ht
          rw [h1]
          exact ⟨_, rfl⟩
        · rw [ht]
          exact ⟨t ++ [waitD] ++ [bareD (ds.getD n zD)], by simp⟩
theorem waitK_len (ds : List Dd) : ∀ k : Nat, (waitK ds k).length ≤ 2 * k
  | 0 => by simp [waitK]
  | k + 1 => by
    have ih := waitK_len ds k
    rw [waitK]
    split
    · omega
    · split
      · simp; omega
      · simp; omega
end Go.Proofs.YtljamlgnobpjeaaGreatDoor

/- Plain bounds on what Waited answers. -/
namespace Go.Proofs.YtljamlgnobpjeaaGreatDoor
theorem workB_small {x : List (List Dd)} (h : workB x = true) : x.length ≤ 1048576 ∧ lenW x ≤ 1048576 ∧ ∀ i, i < x.length → (x.getD i []).length ≤ 1048576 := by
  simp only [workB, Bool.and_eq_true, decide_eq_true_eq] at h
  obtain ⟨⟨⟨⟨h1, h2⟩, h3⟩, _⟩, _⟩ := h
  refine ⟨by omega, by omega, fun i hi => ?_⟩
  have := all_get [] h2 i hi
  simp only [okL, Bool.and_eq_true, decide_eq_true_eq] at this
  omega
theorem waitB_small (dss : List (List Dd)) : (waitB dss).length ≤ 1048576 ∧ lenW (waitB dss) ≤ 1048576 ∧ ∀ i, i < (waitB dss).length → ((waitB dss).getD i []).length ≤ 1048576 := by
  unfold waitB
  split
  · split
    · rename_i h
      exact workB_small h
    · exact ⟨by simp, by simp [lenW], by simp⟩
  · exact ⟨by simp, by simp [lenW], by simp⟩
end Go.Proofs.YtljamlgnobpjeaaGreatDoor
