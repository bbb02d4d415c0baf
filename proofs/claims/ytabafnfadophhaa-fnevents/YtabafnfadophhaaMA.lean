/- Several texts in one. -/
import Derived.WalkKit
import Derived.ProofKit
import Derived.Laws.BitsAllLaws
import Derived.Laws.BitsLemmas
import Derived.Lib.IndexMore
import Derived.Lib.ParseIntB
import Derived.Lib.ItoaNum
/- Plain facts on numbers, bits and lists that the contracts of this seat speak of: nothing of the program. -/
namespace Go.Proofs.Ytabafnfadophhaa
open Go.RowKit

theorem ret_bool {a b : Bool} (h : a = b) : Ending.returned (.bool a) = .returned (.bool b) := by rw [h]
theorem ret_int {k : IntKind} {a b : Int} (h : a = b) : Ending.returned (.int k a) = .returned (.int k b) := by rw [h]

theorem ofInt_i64 (a : Nat) (ha : a < 9223372036854775808) : (BitVec.ofInt 64 (a : Int)).toNat = a := ofInt_u64 a (by omega)
theorem i64_or_nat (a b : Nat) (ha : a < 9223372036854775808) (hb : b < 9223372036854775808) : bits .or .i64 (a : Int) (b : Int) = ((a ||| b : Nat) : Int) := by
  have hx : a ||| b < 2 ^ 63 := Nat.or_lt_two_pow (by omega) (by omega)
  show IntKind.i64.wrap ((BitVec.ofInt 64 (a : Int) ||| BitVec.ofInt 64 (b : Int)).toNat : Int) = _
  rw [BitVec.toNat_or, ofInt_i64 a ha, ofInt_i64 b hb, IntKind.wrap_i64]
  omega
theorem i64_and_nat (a b : Nat) (ha : a < 9223372036854775808) (hb : b < 9223372036854775808) : bits .and .i64 (a : Int) (b : Int) = ((a &&& b : Nat) : Int) := by
  have hx : a &&& b < 2 ^ 63 := Nat.and_lt_two_pow _ (by omega)
  show IntKind.i64.wrap ((BitVec.ofInt 64 (a : Int) &&& BitVec.ofInt 64 (b : Int)).toNat : Int) = _
  rw [BitVec.toNat_and, ofInt_i64 a ha, ofInt_i64 b hb, IntKind.wrap_i64]
  omega
theorem pow_le12 (n : Nat) (h : n ≤ 12) : (2 : Int) ^ n ≤ 4096 ∧ (1 : Int) ≤ 2 ^ n := by
  have : n = 0 ∨ n = 1 ∨ n = 2 ∨ n = 3 ∨ n = 4 ∨ n = 5 ∨ n = 6 ∨ n = 7 ∨ n = 8 ∨ n = 9 ∨ n = 10 ∨ n = 11 ∨ n = 12 := by omega
  rcases this with rfl | rfl | rfl | rfl | rfl | rfl | rfl | rfl | rfl | rfl | rfl | rfl | rfl <;> decide
theorem wrap64_small (x : Int) (h1 : -9223372036854775808 ≤ x) (h2 : x ≤ 9223372036854775807) : wrap64 x = x := by
  simp only [wrap64]; omega
theorem wrap64_pow (n : Int) (h0 : 0 ≤ n) (h : n ≤ 12) : wrap64 (2 ^ n.toNat) = 2 ^ n.toNat := by
  have := pow_le12 n.toNat (by omega)
  exact wrap64_small _ (by omega) (by omega)

/-- Is x from lo to hi? -/
def inB (x lo hi : Int) : Bool := decide (lo ≤ x ∧ x ≤ hi)
/-- Is s a set of n? -/
def okB (n s : Int) : Bool := decide ((0 ≤ n ∧ n ≤ 12) ∧ 0 ≤ s ∧ s < 2 ^ n.toNat)
/-- Is the bit i in s? -/
def bitB (s i : Int) : Bool := bits .and .i64 (s / 2 ^ i.toNat) 1 == 1
/-- Is i in the set s? -/
def inSetB (s i : Int) : Bool := inB i 0 11 && inB s 0 4095 && bitB s i
/-- Those of the first k that are in s. -/
def mem (s : Int) : Nat → List Int
  | 0 => []
  | k + 1 => mem s k ++ (if inSetB s k = true then [(k : Int)] else [])
/-- One more is gathered. -/
def gAdd (s i : Int) : Int := if s = -1 ∨ inB i 0 11 = false then -1 else bits .or .i64 s (wrap64 (2 ^ i.toNat))
/-- The set of a list; -1 where there is none. -/
def gath (l : List Int) : Int := l.foldl gAdd 0

/-- Is n in the list? -/
def hasB (n : Int) (zs : List Int) : Bool := decide (n ∈ zs)

theorem mem_len (s : Int) (k : Nat) : (mem s k).length ≤ k := by
  induction k with
  | zero => simp [mem]
  | succ k ih => unfold mem; split <;> simp <;> omega
theorem mem_out (s : Int) (h : inB s 0 4095 = false) (k : Nat) : mem s k = [] := by
  induction k with
  | zero => rfl
  | succ k ih => unfold mem; rw [ih]; simp [inSetB, h]
theorem gath_snoc (l : List Int) (i : Int) : gath (l ++ [i]) = gAdd (gath l) i := by simp [gath]
theorem gAdd_bad (s i : Int) (h : inB i 0 11 = false) : gAdd s i = -1 := by simp [gAdd, h]
theorem gAdd_none (i : Int) : gAdd (-1) i = -1 := by simp [gAdd]
theorem gAdd_ok (s i : Int) (h0 : 0 ≤ s) (h : inB i 0 11 = true) : gAdd s i = bits .or .i64 s (wrap64 (2 ^ i.toNat)) := by
  have : ¬ s = -1 := by omega
  simp [gAdd, h, this]
theorem gAdd_range (s i : Int) (h0 : 0 ≤ s) (h1 : s ≤ 4095) (h : inB i 0 11 = true) : 0 ≤ gAdd s i ∧ gAdd s i ≤ 4095 := by
  rw [gAdd_ok s i h0 h]
  simp [inB] at h
  obtain ⟨a, rfl⟩ := Int.eq_ofNat_of_zero_le h0
  rw [wrap64_pow i (by omega) (by omega)]
  have hp := pow_le12 i.toNat (by omega)
  have hq : (2 : Nat) ^ i.toNat < 2 ^ 12 := Nat.pow_lt_pow_right (by omega) (by omega)
  have e : ((2 : Int) ^ i.toNat) = ((2 ^ i.toNat : Nat) : Int) := by simp
  rw [e, i64_or_nat a _ (by omega) (by omega)]
  have hx : a ||| 2 ^ i.toNat < 2 ^ 12 := Nat.or_lt_two_pow (by omega) hq
  omega
theorem foldl_none (l : List Int) : l.foldl gAdd (-1) = -1 := by
  induction l with
  | nil => rfl
  | cons a l ih => simp only [List.foldl_cons, gAdd_none]; exact ih
theorem gath_bad (l : List Int) (k : Nat) (hk : k < l.length) (h : inB (l.getD k 0) 0 11 = false) : gath l = -1 := by
  have e : l = l.take k ++ (l.getD k 0) :: l.drop (k + 1) := by
    rw [List.getD_eq_getElem?_getD, List.getElem?_eq_getElem hk]; simp
  unfold gath
  rw [e, List.foldl_append, List.foldl_cons]
  have hb : gAdd (List.foldl gAdd 0 (l.take k)) (l.getD k 0) = -1 := gAdd_bad _ _ h
  rw [hb]
  exact foldl_none _
theorem take_snoc (l : List Int) (k : Nat) (h : k < l.length) : l.take (k + 1) = l.take k ++ [l.getD k 0] := by
  rw [List.take_succ_eq_append_getElem h, List.getD_eq_getElem?_getD, List.getElem?_eq_getElem h]; rfl
end Go.Proofs.Ytabafnfadophhaa

/- Plain mathematics of deeds: which four numbers are a deed, its text, the two guesses that are made of a text (the specification's by words, the program's by cuts), and that each guess of a right deed's text is that deed. -/
namespace Go.Proofs.Ytabafnfadophhaa

def deedB (k p v g : Int) : Bool :=
  decide ((1 ≤ k ∧ k ≤ 4) ∧ (0 ≤ p ∧ p ≤ 2) ∧ (0 ≤ g ∧ g ≤ 9) ∧ (k = 4 → p = 0) ∧ (2 < k → g = 0) ∧ ((k = 2 ∨ k = 3) → 1 ≤ v ∧ v ≤ 9) ∧ (¬ (k = 2 ∨ k = 3) → v = 0))

def kindL (k : Int) : List UInt8 :=
  if k = 1 then [114, 101, 97, 100] else if k = 2 then [119, 114, 105, 116, 101] else if k = 3 then [115, 119, 97, 112] else if k = 4 then [119, 97, 105, 116] else []
def digL (n : Int) : List UInt8 := [UInt8.ofNat (48 + n.toNat)]
def placeL (p : Int) : List UInt8 := [UInt8.ofNat (120 + p.toNat)]
def partP (k p : Int) : List UInt8 := if k = 4 then [] else 32 :: placeL p
def partV (v : Int) : List UInt8 := if v = 0 then [] else 32 :: digL v
def partG (g : Int) : List UInt8 := if g = 0 then [] else [32, 105, 110, 32] ++ digL g
def showL (k p v g : Int) : List UInt8 := kindL k ++ partP k p ++ partV v ++ partG g
def showD (k p v g : Int) : List UInt8 := if deedB k p v g = true then showL k p v g else []

def kindNo (w : List UInt8) : Int :=
  if kindL 1 = w then 1 else if kindL 2 = w then 2 else if kindL 3 = w then 3 else if kindL 4 = w then 4 else 0
def numI (w : List UInt8) : Int := match Lib.parseIntB 64 w with
  | .ok v => v
  | _ => 0
def cutIn (s : List UInt8) : List UInt8 × List UInt8 × Bool := Lib.cut s [32, 105, 110, 32]
def cutB (s : List UInt8) : List UInt8 × List UInt8 × Bool := Lib.cut s [32]
def gIk (s : List UInt8) : Int := kindNo (cutB (cutIn s).1).1
def gIp (s : List UInt8) : Int := Lib.index [120, 121, 122] (cutB (cutB (cutIn s).1).2.1).1
def gIv (s : List UInt8) : Int := numI (cutB (cutB (cutIn s).1).2.1).2.1
def gIg (s : List UInt8) : Int := numI (cutIn s).2.1

/-- The words of a text: as l1Split parts them. -/
def joinHead (x : List UInt8) : List (List UInt8) → List (List UInt8)
  | [] => [x]
  | y :: ys => (x ++ y) :: ys
def splitL (b : UInt8) : List UInt8 → List (List UInt8)
  | [] => [[]]
  | c :: r => if c = b then [] :: splitL b r else joinHead [c] (splitL b r)
theorem splitL_ne (b : UInt8) : ∀ s : List UInt8, splitL b s ≠ []
  | [] => by simp [splitL]
  | c :: r => by
    unfold splitL
    split
    · simp
    · cases h : splitL b r <;> simp [joinHead]
theorem joinHead_join (x y : List UInt8) : ∀ l : List (List UInt8), joinHead x (joinHead y l) = joinHead (x ++ y) l
  | [] => rfl
  | z :: zs => by simp [joinHead]
theorem joinHead_nil (l : List (List UInt8)) (h : l ≠ []) : joinHead [] l = l := by
  cases l with
  | nil => exact absurd rfl h
  | cons y ys => rfl

/-- The number that l1Read makes of digits, behind those read. -/
def digV (acc : Int) : List UInt8 → Option Int
  | [] => some acc
  | c :: r => if 48 ≤ c.toNat ∧ c.toNat ≤ 57 then digV (acc * 10 + ((c.toNat : Int) - 48)) r else none
def negR (s : List UInt8) : Bool := match s with
  | [] => false
  | c :: _ => decide (c = 45)
def bodyR (s : List UInt8) : List UInt8 := if negR s = true then s.drop 1 else s
def readO (s : List UInt8) : Option Int :=
  if (bodyR s).length < 1 ∨ 9 < (bodyR s).length then none else
  match digV 0 (bodyR s) with
  | none => none
  | some n => if (bodyR s).head? = some 48 ∧ (negR s = true ∨ 1 < s.length) then none else some (if negR s = true then -n else n)
def numS (s : List UInt8) : Int := (readO s).getD 0

def placeNo (w : List UInt8) : Int := if w = [120] then 0 else if w = [121] then 1 else if w = [122] then 2 else -1
def wordAt (ws : List (List UInt8)) (i : Nat) : List UInt8 := ws.getD i []
def gSk (ws : List (List UInt8)) : Int := kindNo (wordAt ws 0)
/-- Whether a place is read, whether a value is, and where the words behind stand. -/
def hasP (ws : List (List UInt8)) : Bool := decide (gSk ws ≠ 4 ∧ 1 < ws.length)
def atV (ws : List (List UInt8)) : Nat := if hasP ws = true then 2 else 1
def hasV (ws : List (List UInt8)) : Bool := decide ((gSk ws = 2 ∨ gSk ws = 3) ∧ atV ws < ws.length)
def atG (ws : List (List UInt8)) : Nat := if hasV ws = true then atV ws + 1 else atV ws
def hasG (ws : List (List UInt8)) : Bool := decide (ws.length = atG ws + 2 ∧ wordAt ws (atG ws) = [105, 110])
def gSp (ws : List (List UInt8)) : Int := if hasP ws = true then placeNo (wordAt ws 1) else 0
def gSv (ws : List (List UInt8)) : Int := if hasV ws = true then numS (wordAt ws (atV ws)) else 0
def gSg (ws : List (List UInt8)) : Int := if hasG ws = true then numS (wordAt ws (atG ws + 1)) else 0

/-- The kind that the specification has found behind k words held against the first. -/
def kindUp (x : List UInt8) : Nat → Int
  | 0 => 0
  | k + 1 => if kindL ((k : Int) + 1) = x then (k : Int) + 1 else kindUp x k
theorem kindUp_four (x : List UInt8) : kindUp x 4 = kindNo x := by
  unfold kindNo
  by_cases h1 : kindL 1 = x
  · subst h1; decide
  · by_cases h2 : kindL 2 = x
    · subst h2; decide
    · by_cases h3 : kindL 3 = x
      · subst h3; decide
      · by_cases h4 : kindL 4 = x
        · subst h4; decide
        · rw [if_neg h1, if_neg h2, if_neg h3, if_neg h4]
          simp [kindUp, h1, h2, h3, h4]
theorem kindNo_in (x : List UInt8) : 0 ≤ kindNo x ∧ kindNo x ≤ 4 := by
  unfold kindNo
  repeat' split
  all_goals omega
/-- All right deeds, by four numbers from a few. -/
def okList : List (Int × Int × Int × Int) :=
  [1, 2, 3, 4].flatMap fun k => [0, 1, 2].flatMap fun p => [0, 1, 2, 3, 4, 5, 6, 7, 8, 9].flatMap fun v => ([0, 1, 2, 3, 4, 5, 6, 7, 8, 9].map fun g => (k, p, v, g)).filter fun d => deedB d.1 d.2.1 d.2.2.1 d.2.2.2
theorem ok_mem (k p v g : Int) (h : deedB k p v g = true) : (k, p, v, g) ∈ okList := by
  have h' := h
  simp only [deedB, decide_eq_true_eq] at h'
  obtain ⟨⟨k1, k2⟩, ⟨p1, p2⟩, ⟨g1, g2⟩, h4, h5, h6, h7⟩ := h'
  have v1 : 0 ≤ v ∧ v ≤ 9 := by
    by_cases hk : k = 2 ∨ k = 3
    · have := h6 hk; omega
    · have := h7 hk; omega
  simp only [okList, List.mem_flatMap, List.mem_filter, List.mem_map]
  refine ⟨k, ?_, p, ?_, v, ?_, ⟨g, ?_, rfl⟩, h⟩
  · have : k = 1 ∨ k = 2 ∨ k = 3 ∨ k = 4 := by omega
    simpa using this
  · have : p = 0 ∨ p = 1 ∨ p = 2 := by omega
    simpa using this
  · have : v = 0 ∨ v = 1 ∨ v = 2 ∨ v = 3 ∨ v = 4 ∨ v = 5 ∨ v = 6 ∨ v = 7 ∨ v = 8 ∨ v = 9 := by omega
    simpa using this
  · have : g = 0 ∨ g = 1 ∨ g = 2 ∨ g = 3 ∨ g = 4 ∨ g = 5 ∨ g = 6 ∨ g = 7 ∨ g = 8 ∨ g = 9 := by omega
    simpa using this
def hitI (d : Int × Int × Int × Int) : Bool :=
  let s := showL d.1 d.2.1 d.2.2.1 d.2.2.2
  decide (gIk s = d.1) && decide (gIp s = d.2.1) && decide (gIv s = d.2.2.1) && decide (gIg s = d.2.2.2)
def hitS (d : Int × Int × Int × Int) : Bool :=
  let ws := splitL 32 (showL d.1 d.2.1 d.2.2.1 d.2.2.2)
  decide (gSk ws = d.1) && decide (gSp ws = d.2.1) && decide (gSv ws = d.2.2.1) && decide (gSg ws = d.2.2.2)
theorem all_hitI : okList.all hitI = true := by decide +kernel
theorem all_hitS : okList.all hitS = true := by decide +kernel
theorem okList_length : okList.length = 328 := by decide +kernel

/-- What ReadDeed answers of a guess: the guess where it is right and has just this text, else nothing. -/
def fits (s : List UInt8) (k p v g : Int) : Bool := deedB k p v g && decide (showL k p v g = s)
theorem guessI_show {k p v g : Int} {s : List UInt8} (h : fits s k p v g = true) : gIk s = k ∧ gIp s = p ∧ gIv s = v ∧ gIg s = g := by
  simp only [fits, Bool.and_eq_true, decide_eq_true_eq] at h
  obtain ⟨h, rfl⟩ := h
  have := List.all_eq_true.1 all_hitI _ (ok_mem k p v g h)
  simpa [hitI, and_assoc] using this
theorem guessS_show {k p v g : Int} {s : List UInt8} (h : fits s k p v g = true) : gSk (splitL 32 s) = k ∧ gSp (splitL 32 s) = p ∧ gSv (splitL 32 s) = v ∧ gSg (splitL 32 s) = g := by
  simp only [fits, Bool.and_eq_true, decide_eq_true_eq] at h
  obtain ⟨h, rfl⟩ := h
  have := List.all_eq_true.1 all_hitS _ (ok_mem k p v g h)
  simpa [hitS, and_assoc] using this
def fitI (s : List UInt8) : Bool := fits s (gIk s) (gIp s) (gIv s) (gIg s)
def fitS (s : List UInt8) : Bool := fits s (gSk (splitL 32 s)) (gSp (splitL 32 s)) (gSv (splitL 32 s)) (gSg (splitL 32 s))
theorem fit_same (s : List UInt8) : fitS s = fitI s := by
  rw [Bool.eq_iff_iff]
  constructor
  · intro h
    obtain ⟨a, b, c, d⟩ := guessI_show h
    unfold fitI
    rw [a, b, c, d]
    exact h
  · intro h
    obtain ⟨a, b, c, d⟩ := guessS_show h
    unfold fitS
    rw [a, b, c, d]
    exact h
theorem guess_same {s : List UInt8} (h : fitI s = true) : gSk (splitL 32 s) = gIk s ∧ gSp (splitL 32 s) = gIp s ∧ gSv (splitL 32 s) = gIv s ∧ gSg (splitL 32 s) = gIg s := guessS_show h
theorem fit_show {k p v g : Int} (h : deedB k p v g = true) : fitI (showL k p v g) = true ∧ gIk (showL k p v g) = k ∧ gIp (showL k p v g) = p ∧ gIv (showL k p v g) = v ∧ gIg (showL k p v g) = g := by
  have hf : fits (showL k p v g) k p v g = true := by simp [fits, h]
  obtain ⟨a, b, c, d⟩ := guessI_show hf
  refine ⟨?_, a, b, c, d⟩
  unfold fitI
  rw [a, b, c, d]
  exact hf
theorem kindL_ne {k : Int} (h1 : 1 ≤ k) (h2 : k ≤ 4) : kindL k ≠ [] := by
  have : k = 1 ∨ k = 2 ∨ k = 3 ∨ k = 4 := by omega
  rcases this with rfl | rfl | rfl | rfl <;> decide
theorem showL_ne {k p v g : Int} (h : deedB k p v g = true) : showL k p v g ≠ [] := by
  simp only [deedB, decide_eq_true_eq] at h
  have := kindL_ne h.1.1 h.1.2
  unfold showL
  simp [this]
theorem showL_length (k p v g : Int) : (showL k p v g).length ≤ 14 := by
  unfold showL partP partV partG kindL digL placeL
  repeat' split
  all_goals simp
end Go.Proofs.Ytabafnfadophhaa

/- Plain mathematics of works: which lists of deeds are one, how many events it has. -/
namespace Go.Proofs.Ytabafnfadophhaa

/-- A deed as four numbers: its kind, place, value and group. -/
abbrev Dd := Int × Int × Int × Int
def zD : Dd := (0, 0, 0, 0)
def okD (d : Dd) : Bool := deedB d.1 d.2.1 d.2.2.1 d.2.2.2
def evD (d : Dd) : Int := if d.1 = 1 then 1 else if d.1 = 2 then 1 else if d.1 = 3 then 2 else 0
def evK (ds : List Dd) : Nat → Int
  | 0 => 0
  | k + 1 => evK ds k + evD (ds.getD k zD)
def evW (dss : List (List Dd)) : Nat → Int
  | 0 => 0
  | i + 1 => evW dss i + evK (dss.getD i []) (dss.getD i []).length
theorem evD_in (d : Dd) : 0 ≤ evD d ∧ evD d ≤ 2 := by
  unfold evD
  repeat' split
  all_goals omega
theorem evK_in (ds : List Dd) : ∀ k : Nat, 0 ≤ evK ds k ∧ evK ds k ≤ 2 * k
  | 0 => by simp [evK]
  | k + 1 => by have := evK_in ds k; have := evD_in (ds.getD k zD); rw [evK]; omega
/-- Whose a group is (0: nobody's), as the specification keeps it, behind k deeds of clerk i. -/
def grpK (i : Nat) (own : List Int) (ds : List Dd) : Nat → Option (List Int)
  | 0 => some own
  | k + 1 => match grpK i own ds k with
    | none => none
    | some o =>
      if (ds.getD k zD).2.2.2 = 0 then some o
      else if o.getD (ds.getD k zD).2.2.2.toNat 0 ≠ 0 ∧ (o.getD (ds.getD k zD).2.2.2.toNat 0 ≠ (i : Int) + 1 ∨ k = 0 ∨ (ds.getD (k - 1) zD).2.2.2 ≠ (ds.getD k zD).2.2.2) then none
      else some (o.set (ds.getD k zD).2.2.2.toNat ((i : Int) + 1))
def grpW (dss : List (List Dd)) : Nat → Option (List Int)
  | 0 => some (List.replicate 10 0)
  | i + 1 => match grpW dss i with
    | none => none
    | some o => grpK i o (dss.getD i []) (dss.getD i []).length
def grpB (dss : List (List Dd)) : Bool := (grpW dss dss.length).isSome
def lenW : List (List Dd) → Nat
  | [] => 0
  | d :: r => d.length + lenW r
def okL (ds : List Dd) : Bool := ds.all okD && decide (ds.length ≤ 5)
def workB (dss : List (List Dd)) : Bool :=
  decide (1 ≤ dss.length ∧ dss.length ≤ 3) && dss.all okL && decide (lenW dss ≤ 12) && decide (evW dss dss.length ≤ 6) && grpB dss
theorem grpK_none {i : Nat} {own : List Int} {ds : List Dd} {k : Nat} (h : grpK i own ds k = none) : ∀ n : Nat, k ≤ n → grpK i own ds n = none
  | 0, hn => by
    obtain rfl : k = 0 := by omega
    exact h
  | n + 1, hn => by
    by_cases e : k = n + 1
    · rw [← e]; exact h
    · rw [grpK, grpK_none h n (by omega)]
theorem grpW_none {dss : List (List Dd)} {i : Nat} (h : grpW dss i = none) : ∀ n : Nat, i ≤ n → grpW dss n = none
  | 0, hn => by
    obtain rfl : i = 0 := by omega
    exact h
  | n + 1, hn => by
    by_cases e : i = n + 1
    · rw [← e]; exact h
    · rw [grpW, grpW_none h n (by omega)]
theorem grpK_len {i : Nat} {own : List Int} {ds : List Dd} : ∀ {k : Nat} {o : List Int}, grpK i own ds k = some o → o.length = own.length
  | 0, o, h => by simp only [grpK, Option.some.injEq] at h; rw [← h]
  | k + 1, o, h => by
    rw [grpK] at h
    split at h
    · cases h
    · rename_i o' ho'
      have ih := grpK_len ho'
      split at h
      · simp only [Option.some.injEq] at h; rw [← h]; exact ih
      · split at h
        · cases h
        · simp only [Option.some.injEq] at h; rw [← h, List.length_set]; exact ih
theorem grpW_len {dss : List (List Dd)} : ∀ {i : Nat} {o : List Int}, grpW dss i = some o → o.length = 10
  | 0, o, h => by simp only [grpW, Option.some.injEq] at h; rw [← h]; simp
  | i + 1, o, h => by
    rw [grpW] at h
    split at h
    · cases h
    · rename_i o' ho'
      rw [grpK_len h]
      exact grpW_len ho'
theorem all_get {α : Type} {f : α → Bool} {l : List α} (z : α) (h : l.all f = true) (i : Nat) (hi : i < l.length) : f (l.getD i z) = true := by
  rw [List.getD_eq_getElem?_getD, List.getElem?_eq_getElem hi]
  exact List.all_eq_true.1 h _ (List.getElem_mem hi)
theorem all_of {α : Type} {f : α → Bool} {l : List α} (z : α) (h : ∀ i, i < l.length → f (l.getD i z) = true) : l.all f = true := by
  rw [List.all_eq_true]
  intro x hx
  obtain ⟨i, hi, rfl⟩ := List.getElem_of_mem hx
  have := h i hi
  rwa [List.getD_eq_getElem?_getD, List.getElem?_eq_getElem hi] at this
theorem all_not {α : Type} {f : α → Bool} {l : List α} (z : α) (i : Nat) (hi : i < l.length) (h : f (l.getD i z) = false) : l.all f = false := by
  cases hb : l.all f
  · rfl
  · rw [all_get z hb i hi] at h; cases h
end Go.Proofs.Ytabafnfadophhaa

/- Plain mathematics of events: which ones a work has, and what the law on them asks. -/
namespace Go.Proofs.Ytabafnfadophhaa

/-- An event: clerk, deed, does it read, place, value, class. -/
abbrev Ev := Int × Int × Bool × Int × Int × Int
def zE : Ev := (0, 0, false, 0, 0, 0)
def csE (e : Ev) : Int := e.2.2.2.2.2
def evBeg : List Ev := [(-1, -1, false, 0, 0, 0), (-1, -1, false, 1, 0, 1), (-1, -1, false, 2, 0, 2)]
/-- The events of one deed (none of a wait). -/
def oneE (i k : Nat) (d : Dd) (c : Int) : List Ev :=
  if d.1 = 4 then [] else if d.1 = 3 then [((i : Int), (k : Int), true, d.2.1, 0, c), ((i : Int), (k : Int), false, d.2.1, d.2.2.1, c)]
  else if d.1 = 2 then [((i : Int), (k : Int), false, d.2.1, d.2.2.1, c)] else [((i : Int), (k : Int), true, d.2.1, 0, c)]
/-- Where a Group began (0: nowhere yet), once one more deed is met. -/
def fstE (g : Int) (at0 : Nat) (f : List Int) : List Int := if 0 < g ∧ f.getD g.toNat 0 = 0 then f.set g.toNat (at0 : Int) else f
def clsE (g : Int) (at0 : Nat) (f : List Int) : Int := if 0 < g then (fstE g at0 f).getD g.toNat 0 else (at0 : Int)
def stepE (i k : Nat) (d : Dd) (s : List Ev × List Int) : List Ev × List Int :=
  if d.1 = 4 then s else (s.1 ++ oneE i k d (clsE d.2.2.2 s.1.length s.2), fstE d.2.2.2 s.1.length s.2)
def clkE (i : Nat) (ds : List Dd) (out : List Ev) : Nat → List Ev × List Int
  | 0 => (out, List.replicate 10 0)
  | k + 1 => stepE i k (ds.getD k zD) (clkE i ds out k)
def evsW (dss : List (List Dd)) : Nat → List Ev
  | 0 => evBeg
  | i + 1 => (clkE i (dss.getD i []) (evsW dss i) (dss.getD i []).length).1
def eventsB (dss : List (List Dd)) : List Ev := if workB dss = true then evsW dss dss.length else []
theorem oneE_len (i k : Nat) (d : Dd) (c : Int) (h : d.1 = 1 ∨ d.1 = 2 ∨ d.1 = 3 ∨ d.1 = 4) : ((oneE i k d c).length : Int) = evD d := by
  unfold oneE evD
  rcases h with h | h | h | h <;> simp [h]
theorem okD_kindE {d : Dd} (h : okD d = true) : d.1 = 1 ∨ d.1 = 2 ∨ d.1 = 3 ∨ d.1 = 4 := by
  simp [okD, deedB] at h
  omega
theorem okD_restE {d : Dd} (h : okD d = true) : 0 ≤ d.2.1 ∧ d.2.1 ≤ 2 ∧ 0 ≤ d.2.2.2 ∧ d.2.2.2 ≤ 9 ∧ (2 < d.1 → d.2.2.2 = 0) := by
  simp [okD, deedB] at h
  omega
theorem clkE_len {i : Nat} {ds : List Dd} {out : List Ev} (hok : ∀ j, j < ds.length → okD (ds.getD j zD) = true) : ∀ k : Nat, k ≤ ds.length → ((clkE i ds out k).1.length : Int) = out.length + evK ds k
  | 0, _ => by simp [clkE, evK]
  | k + 1, h => by
    have ih := clkE_len (i := i) (out := out) hok k (by omega)
    have hk := okD_kindE (hok k (by omega))
    rw [clkE, stepE, evK]
    split
    · rename_i h4
      rw [ih]
      unfold evD
      rw [h4]
      simp
    · have := oneE_len i k (ds.getD k zD) (clsE (ds.getD k zD).2.2.2 (clkE i ds out k).1.length (clkE i ds out k).2) hk
      rw [List.length_append]
      omega
theorem evsW_len {dss : List (List Dd)} (hok : ∀ i, i < dss.length → okL (dss.getD i []) = true) : ∀ n : Nat, n ≤ dss.length → ((evsW dss n).length : Int) = 3 + evW dss n
  | 0, _ => by simp [evsW, evBeg, evW]
  | n + 1, h => by
    have ih := evsW_len hok n (by omega)
    have hn := hok n (by omega)
    simp only [okL, Bool.and_eq_true, decide_eq_true_eq] at hn
    rw [evsW, clkE_len (fun j hj => all_get zD hn.1 j hj) _ (Nat.le_refl _), ih, evW]
    omega
/-- What the law asks of the event number j. -/
def GoodE (dss : List (List Dd)) (out : List Ev) (j : Nat) : Prop :=
  ∃ (i k c : Nat) (rd : Bool) (vl : Int), out[j]? = some ((i : Int), (k : Int), rd, ((dss.getD i []).getD k zD).2.1, vl, (c : Int)) ∧ i < dss.length ∧ k < (dss.getD i []).length ∧
    (rd = true → vl = 0) ∧ (rd = false → vl = ((dss.getD i []).getD k zD).2.2.1) ∧ c ≤ j ∧
    ∃ (k' : Nat) (rd' : Bool) (pl' vl' : Int), out[c]? = some ((i : Int), (k' : Int), rd', pl', vl', (c : Int)) ∧ k' < (dss.getD i []).length ∧
      (c ≠ j → ((dss.getD i []).getD k zD).1 ≠ 3 → ((dss.getD i []).getD k zD).2.2.2 ≠ 0 ∧ ((dss.getD i []).getD k' zD).2.2.2 = ((dss.getD i []).getD k zD).2.2.2)
theorem at_left {α : Type} {l : List α} {j : Nat} {x : α} (t : List α) (h : l[j]? = some x) : (l ++ t)[j]? = some x := by
  rw [List.getElem?_append_left (List.getElem?_eq_some_iff.1 h).1]; exact h
theorem GoodE.more {dss : List (List Dd)} {out : List Ev} {j : Nat} (h : GoodE dss out j) (t : List Ev) : GoodE dss (out ++ t) j := by
  obtain ⟨i, k, c, rd, vl, h1, h2, h3, h4, h5, h6, k', rd', pl', vl', g1, g2, g3⟩ := h
  exact ⟨i, k, c, rd, vl, at_left t h1, h2, h3, h4, h5, h6, k', rd', pl', vl', at_left t g1, g2, g3⟩
/-- Where a Group began, an event of it stands. -/
def FstOk (dss : List (List Dd)) (i : Nat) (out : List Ev) (f : List Int) : Prop :=
  f.length = 10 ∧ ∀ g : Nat, 0 < g → g < 10 → f.getD g 0 = 0 ∨ ∃ (c k' : Nat) (rd' : Bool) (pl' vl' : Int), f.getD g 0 = (c : Int) ∧ out[c]? = some ((i : Int), (k' : Int), rd', pl', vl', (c : Int)) ∧ k' < (dss.getD i []).length ∧ ((dss.getD i []).getD k' zD).2.2.2 = (g : Int)
theorem getD_setE (o : List Int) (g : Nat) (x : Int) (j : Nat) (hg : g < o.length) : (o.set g x).getD j 0 = if g = j then x else o.getD j 0 := by
  rw [List.getD_eq_getElem?_getD, List.getElem?_set]
  by_cases e : g = j
  · subst e; rw [if_pos rfl, if_pos hg, if_pos rfl]; rfl
  · rw [if_neg e, if_neg e, List.getD_eq_getElem?_getD]
/-- The first event of a deed stands at the end of what was there, with its class. -/
theorem oneE_first (i k : Nat) (d : Dd) (c : Int) (h4 : d.1 ≠ 4) : ∃ rd vl, (oneE i k d c)[0]? = some ((i : Int), (k : Int), rd, d.2.1, vl, c) ∧ (rd = true → vl = 0) ∧ (rd = false → vl = d.2.2.1) := by
  unfold oneE
  rw [if_neg h4]
  split
  · exact ⟨true, 0, rfl, by simp, by simp⟩
  · split
    · exact ⟨false, d.2.2.1, rfl, by simp, by simp⟩
    · exact ⟨true, 0, rfl, by simp, by simp⟩
theorem step_good {dss : List (List Dd)} {i k : Nat} {out : List Ev} {f : List Int} (hi : i < dss.length) (hk : k < (dss.getD i []).length) (hok : okD ((dss.getD i []).getD k zD) = true)
    (hG : ∀ j, 3 ≤ j → j < out.length → GoodE dss out j) (hF : FstOk dss i out f) :
    (∀ j, 3 ≤ j → j < (stepE i k ((dss.getD i []).getD k zD) (out, f)).1.length → GoodE dss (stepE i k ((dss.getD i []).getD k zD) (out, f)).1 j) ∧ FstOk dss i (stepE i k ((dss.getD i []).getD k zD) (out, f)).1 (stepE i k ((dss.getD i []).getD k zD) (out, f)).2 := by
  obtain ⟨d, hd⟩ : ∃ d, d = (dss.getD i []).getD k zD := ⟨_, rfl⟩
  rw [← hd] at hok ⊢
  by_cases h4 : d.1 = 4
  · rw [stepE, if_pos h4]; exact ⟨hG, hF⟩
  rw [stepE, if_neg h4]
  dsimp only
  obtain ⟨r0, r1, r2, r3, r4⟩ := okD_restE hok
  obtain ⟨g, hg⟩ := Int.eq_ofNat_of_zero_le r2
  obtain ⟨hl, hf⟩ := hF
  -- the class: an event with it stands there
  have hcls : ∃ (c k' : Nat) (rd' : Bool) (pl' vl' : Int), clsE d.2.2.2 out.length f = (c : Int) ∧ c ≤ out.length ∧ (out ++ oneE i k d (clsE d.2.2.2 out.length f))[c]? = some ((i : Int), (k' : Int), rd', pl', vl', (c : Int)) ∧ k' < (dss.getD i []).length ∧
      (c ≠ out.length → d.2.2.2 ≠ 0 ∧ ((dss.getD i []).getD k' zD).2.2.2 = d.2.2.2) ∧ (c = out.length → k' = k) := by
    obtain ⟨rd, vl, ho, _, _⟩ := oneE_first i k d (clsE d.2.2.2 out.length f) h4
    have new : clsE d.2.2.2 out.length f = (out.length : Int) → (out ++ oneE i k d (clsE d.2.2.2 out.length f))[out.length]? = some ((i : Int), (k : Int), rd, d.2.1, vl, ((out.length : Nat) : Int)) := fun e => by
      rw [List.getElem?_append_right (Nat.le_refl _), Nat.sub_self, ho, e]
    by_cases hg0 : g = 0
    · have e : clsE d.2.2.2 out.length f = (out.length : Int) := by unfold clsE; rw [hg, if_neg (by omega)]
      exact ⟨out.length, k, rd, d.2.1, vl, e, Nat.le_refl _, new e, hk, fun h => absurd rfl h, fun _ => rfl⟩
    · have gp : (0 : Int) < d.2.2.2 := by rw [hg]; omega
      have g10 : g < 10 := by rw [hg] at r3; omega
      rcases hf g (by omega) g10 with h0 | ⟨c, k', rd', pl', vl', e1, e2, e3, e4⟩
      · have e : clsE d.2.2.2 out.length f = (out.length : Int) := by
          unfold clsE fstE
          rw [if_pos gp, hg, Int.toNat_natCast, if_pos ⟨by omega, h0⟩, getD_setE f g _ g (by omega), if_pos rfl]
        exact ⟨out.length, k, rd, d.2.1, vl, e, Nat.le_refl _, new e, hk, fun h => absurd rfl h, fun _ => rfl⟩
      · have cl : c < out.length := (List.getElem?_eq_some_iff.1 e2).1
        by_cases hc0 : (c : Int) = 0
        · have e : clsE d.2.2.2 out.length f = (out.length : Int) := by
            unfold clsE fstE
            rw [if_pos gp, hg, Int.toNat_natCast, if_pos ⟨by omega, by rw [e1]; exact hc0⟩, getD_setE f g _ g (by omega), if_pos rfl]
          exact ⟨out.length, k, rd, d.2.1, vl, e, Nat.le_refl _, new e, hk, fun h => absurd rfl h, fun _ => rfl⟩
        · have e : clsE d.2.2.2 out.length f = (c : Int) := by
            unfold clsE fstE
            rw [if_pos gp, hg, Int.toNat_natCast, if_neg (by rw [e1]; omega), e1]
          exact ⟨c, k', rd', pl', vl', e, by omega, at_left _ e2, e3, fun _ => ⟨by omega, by rw [e4, hg]⟩, fun h => by omega⟩
  obtain ⟨c, k', rd', pl', vl', hc, hcl, hce, hk', hcg, hcn⟩ := hcls
  rw [hc] at hce ⊢
  refine ⟨fun j hj3 hj => ?_, ?_⟩
  · by_cases hold : j < out.length
    · exact (hG j hj3 hold).more _
    · have e1 : (out ++ oneE i k d (c : Int))[j]? = (oneE i k d (c : Int))[j - out.length]? := List.getElem?_append_right (by omega)
      have hjl : j - out.length < (oneE i k d (c : Int)).length := by rw [List.length_append] at hj; omega
      have form : ∃ rd vl, (oneE i k d (c : Int))[j - out.length]? = some ((i : Int), (k : Int), rd, d.2.1, vl, (c : Int)) ∧ (rd = true → vl = 0) ∧ (rd = false → vl = d.2.2.1) ∧ (j ≠ out.length → d.1 = 3) := by
        by_cases hz : j - out.length = 0
        · obtain ⟨rd, vl, ho, h5, h6⟩ := oneE_first i k d (c : Int) h4
          exact ⟨rd, vl, by rw [hz]; exact ho, h5, h6, fun h => by omega⟩
        · unfold oneE at hjl ⊢
          rw [if_neg h4] at hjl ⊢
          split at hjl
          · rename_i h3
            rw [if_pos h3]
            have : j - out.length = 1 := by simp at hjl; omega
            rw [this]
            exact ⟨false, d.2.2.1, rfl, by simp, by simp, fun _ => h3⟩
          · split at hjl
            · simp at hjl; omega
            · simp at hjl; omega
      obtain ⟨rd, vl, h1, h5, h6, h7⟩ := form
      refine ⟨i, k, c, rd, vl, by rw [e1, ← hd]; exact h1, hi, hk, h5, by rw [← hd]; exact h6, by omega, k', rd', pl', vl', hce, hk', fun hcj h3 => ?_⟩
      rw [← hd] at h3 ⊢
      have : j = out.length := by
        apply Classical.byContradiction
        intro hne
        exact h3 (h7 hne)
      exact hcg (by omega)
  · refine ⟨by unfold fstE; split <;> simp [hl], fun q hq0 hq => ?_⟩
    have keepOld : f.getD q 0 = 0 ∨ ∃ (c' k'' : Nat) (rd'' : Bool) (pl'' vl'' : Int), f.getD q 0 = (c' : Int) ∧ (out ++ oneE i k d (c : Int))[c']? = some ((i : Int), (k'' : Int), rd'', pl'', vl'', (c' : Int)) ∧ k'' < (dss.getD i []).length ∧ ((dss.getD i []).getD k'' zD).2.2.2 = (q : Int) := by
      rcases hf q hq0 hq with h0 | ⟨c', k'', rd'', pl'', vl'', e1, e2, e3, e4⟩
      · exact .inl h0
      · exact .inr ⟨c', k'', rd'', pl'', vl'', e1, at_left _ e2, e3, e4⟩
    unfold fstE
    split
    · rename_i hcond
      rw [hg, Int.toNat_natCast] at hcond ⊢
      rw [getD_setE f g _ q (by rw [hg] at r3; omega)]
      by_cases e : g = q
      · subst e
        rw [if_pos rfl]
        right
        have ec : c = out.length := by
          have : clsE d.2.2.2 out.length f = (out.length : Int) := by
            unfold clsE fstE
            rw [if_pos (by rw [hg]; exact hcond.1), hg, Int.toNat_natCast, if_pos hcond, getD_setE f g _ g (by rw [hg] at r3; omega), if_pos rfl]
          omega
        have ek := hcn ec
        subst ek
        refine ⟨out.length, k', rd', pl', vl', rfl, ?_, hk', by rw [← hd, hg]⟩
        rw [ec] at hce
        rw [ec]
        exact hce
      · rw [if_neg e]; exact keepOld
    · exact keepOld
theorem clk_good {dss : List (List Dd)} {i : Nat} {out : List Ev} (hi : i < dss.length) (hok : ∀ j, j < (dss.getD i []).length → okD ((dss.getD i []).getD j zD) = true) (hG : ∀ j, 3 ≤ j → j < out.length → GoodE dss out j) :
    ∀ k : Nat, k ≤ (dss.getD i []).length → (∃ t, (clkE i (dss.getD i []) out k).1 = out ++ t) ∧ (∀ j, 3 ≤ j → j < (clkE i (dss.getD i []) out k).1.length → GoodE dss (clkE i (dss.getD i []) out k).1 j) ∧ FstOk dss i (clkE i (dss.getD i []) out k).1 (clkE i (dss.getD i []) out k).2
  | 0, _ => ⟨⟨[], by simp [clkE]⟩, hG, by simp [clkE], fun g _ hg => .inl (by simp only [clkE]; rw [List.getD_eq_getElem?_getD, List.getElem?_replicate, if_pos hg]; rfl)⟩
  | k + 1, h => by
    obtain ⟨⟨t, ht⟩, h2, h3⟩ := clk_good hi hok hG k (by omega)
    have := step_good (k := k) hi (by omega) (hok k (by omega)) h2 h3
    refine ⟨?_, this⟩
    rw [clkE, stepE]
    split
    · exact ⟨t, ht⟩
    · exact ⟨t ++ oneE i k ((dss.getD i []).getD k zD) (clsE ((dss.getD i []).getD k zD).2.2.2 (clkE i (dss.getD i []) out k).1.length (clkE i (dss.getD i []) out k).2), by simp only; rw [ht, List.append_assoc]⟩
/-- All events are as the law asks. -/
theorem evs_good {dss : List (List Dd)} (hok : ∀ i, i < dss.length → okL (dss.getD i []) = true) : ∀ n : Nat, n ≤ dss.length → (∃ t, evsW dss n = evBeg ++ t) ∧ ∀ j, 3 ≤ j → j < (evsW dss n).length → GoodE dss (evsW dss n) j
  | 0, _ => ⟨⟨[], by simp [evsW]⟩, fun j h1 h2 => by simp [evsW, evBeg] at h2; omega⟩
  | n + 1, h => by
    obtain ⟨⟨t, ht⟩, h2⟩ := evs_good hok n (by omega)
    have hn := hok n (by omega)
    simp only [okL, Bool.and_eq_true, decide_eq_true_eq] at hn
    obtain ⟨⟨t2, ht2⟩, h3, _⟩ := clk_good (i := n) (out := evsW dss n) (by omega) (fun j hj => all_get zD hn.1 j hj) h2 (dss.getD n []).length (Nat.le_refl _)
    rw [evsW]
    exact ⟨⟨t ++ t2, by rw [ht2, ht, List.append_assoc]⟩, h3⟩
end Go.Proofs.Ytabafnfadophhaa

/- Plain mathematics of events: their numbers by a test, rising; each one is a read or a write to one of three places. -/
namespace Go.Proofs.Ytabafnfadophhaa

def rdE (e : Ev) : Bool := e.2.2.1
def toE (p : Int) (e : Ev) : Bool := !e.2.2.1 && (e.2.2.2.1 == p)
/-- The numbers of those of the first k that pass the test. -/
def idxK (f : Ev → Bool) (l : List Ev) : Nat → List Int
  | 0 => []
  | k + 1 => if f (l.getD k zE) = true then idxK f l k ++ [(k : Int)] else idxK f l k
def idxB (f : Ev → Bool) (l : List Ev) : List Int := if l.length ≤ 12 then idxK f l l.length else []
def clsB (l : List Ev) : List Int := if l.length ≤ 12 then l.map csE else []
theorem idxK_len (f : Ev → Bool) (l : List Ev) : ∀ k : Nat, (idxK f l k).length ≤ k
  | 0 => by simp [idxK]
  | k + 1 => by
    have ih := idxK_len f l k
    rw [idxK]
    split
    · simp; omega
    · omega
theorem idxK_lt (f : Ev → Bool) (l : List Ev) : ∀ (k : Nat) (x : Int), x ∈ idxK f l k → 0 ≤ x ∧ x < (k : Int)
  | 0, x, h => by simp [idxK] at h
  | k + 1, x, h => by
    rw [idxK] at h
    split at h
    · rcases List.mem_append.1 h with h | h
      · have := idxK_lt f l k x h; omega
      · simp at h; omega
    · have := idxK_lt f l k x h; omega
theorem idxK_rises (f : Ev → Bool) (l : List Ev) : ∀ k : Nat, (idxK f l k).Pairwise (· < ·)
  | 0 => by simp [idxK]
  | k + 1 => by
    have ih := idxK_rises f l k
    rw [idxK]
    split
    · rw [List.pairwise_append]
      refine ⟨ih, by simp, fun a ha b hb => ?_⟩
      simp at hb
      have := idxK_lt f l k a ha
      omega
    · exact ih
theorem idxK_pre (f : Ev → Bool) (l : List Ev) (k : Nat) : ∀ n : Nat, k ≤ n → ∃ t, idxK f l n = idxK f l k ++ t
  | 0, h => by
    obtain rfl : k = 0 := by omega
    exact ⟨[], by simp⟩
  | n + 1, h => by
    by_cases e : k = n + 1
    · subst e; exact ⟨[], by simp⟩
    · obtain ⟨t, ht⟩ := idxK_pre f l k n (by omega)
      rw [idxK]
      split
      · exact ⟨t ++ [(n : Int)], by rw [ht, List.append_assoc]⟩
      · exact ⟨t, ht⟩
/-- Each is a read or a write to one of the three places. -/
theorem idx_sum {l : List Ev} : ∀ k : Nat, (∀ j, j < k → 0 ≤ (l.getD j zE).2.2.2.1 ∧ (l.getD j zE).2.2.2.1 ≤ 2) → (idxK rdE l k).length + (idxK (toE 0) l k).length + (idxK (toE 1) l k).length + (idxK (toE 2) l k).length = k
  | 0, _ => by simp [idxK]
  | k + 1, h => by
    have ih := idx_sum (l := l) k (fun j hj => h j (by omega))
    have hp := h k (by omega)
    obtain ⟨e, he⟩ : ∃ e, e = l.getD k zE := ⟨_, rfl⟩
    rw [← he] at hp
    simp only [idxK, ← he]
    clear he
    obtain ⟨a, b, r, p, v, c⟩ := e
    simp only at hp
    cases r
    · have hr : rdE (a, b, false, p, v, c) = false := rfl
      have : p = 0 ∨ p = 1 ∨ p = 2 := by omega
      rcases this with rfl | rfl | rfl
      · have t0 : toE 0 (a, b, false, 0, v, c) = true := rfl
        have t1 : toE 1 (a, b, false, 0, v, c) = false := rfl
        have t2 : toE 2 (a, b, false, 0, v, c) = false := rfl
        simp only [hr, t0, t1, t2, if_true, Bool.false_eq_true, if_false, List.length_append, List.length_cons, List.length_nil]
        omega
      · have t0 : toE 0 (a, b, false, 1, v, c) = false := rfl
        have t1 : toE 1 (a, b, false, 1, v, c) = true := rfl
        have t2 : toE 2 (a, b, false, 1, v, c) = false := rfl
        simp only [hr, t0, t1, t2, if_true, Bool.false_eq_true, if_false, List.length_append, List.length_cons, List.length_nil]
        omega
      · have t0 : toE 0 (a, b, false, 2, v, c) = false := rfl
        have t1 : toE 1 (a, b, false, 2, v, c) = false := rfl
        have t2 : toE 2 (a, b, false, 2, v, c) = true := rfl
        simp only [hr, t0, t1, t2, if_true, Bool.false_eq_true, if_false, List.length_append, List.length_cons, List.length_nil]
        omega
    · have hr : rdE (a, b, true, p, v, c) = true := rfl
      have t : ∀ q, toE q (a, b, true, p, v, c) = false := fun _ => rfl
      simp only [hr, t, if_true, Bool.false_eq_true, if_false, List.length_append, List.length_cons, List.length_nil]
      omega
theorem beg_get {l t : List Ev} (h : l = evBeg ++ t) : l.getD 0 zE = (-1, -1, false, 0, 0, 0) ∧ l.getD 1 zE = (-1, -1, false, 1, 0, 1) ∧ l.getD 2 zE = (-1, -1, false, 2, 0, 2) := by
  subst h
  exact ⟨rfl, rfl, rfl⟩
theorem idx_first {l t : List Ev} (h : l = evBeg ++ t) (p : Nat) (hp : p < 3) : ∃ r, idxK (toE (p : Int)) l l.length = (p : Int) :: r := by
  obtain ⟨h0, h1, h2⟩ := beg_get h
  have hl : 3 ≤ l.length := by rw [h]; simp [evBeg]
  obtain ⟨r, hr⟩ := idxK_pre (toE (p : Int)) l 3 l.length hl
  have e : ∃ q, idxK (toE (p : Int)) l 3 = (p : Int) :: q := by
    have : p = 0 ∨ p = 1 ∨ p = 2 := by omega
    simp only [idxK, h0, h1, h2, toE]
    rcases this with rfl | rfl | rfl
    · exact ⟨[], by simp⟩
    · exact ⟨[], by simp⟩
    · exact ⟨[], by simp⟩
  obtain ⟨q, hq⟩ := e
  exact ⟨q ++ r, by rw [hr, hq]; rfl⟩
theorem good_place {dss : List (List Dd)} {out : List Ev} {j : Nat} (hok : ∀ i, i < dss.length → okL (dss.getD i []) = true) (h : GoodE dss out j) : 0 ≤ (out.getD j zE).2.2.2.1 ∧ (out.getD j zE).2.2.2.1 ≤ 2 := by
  obtain ⟨i, k, c, rd, vl, h1, h2, h3, _⟩ := h
  have hi := hok i h2
  simp only [okL, Bool.and_eq_true, decide_eq_true_eq] at hi
  have := okD_restE (all_get zD hi.1 k h3)
  rw [List.getD_eq_getElem?_getD, h1]
  exact ⟨this.1, this.2.1⟩
/-- All that the law on events asks of a work, in numbers. -/
theorem events_law {dss : List (List Dd)} (h : workB dss = true) : (evsW dss dss.length).length ≤ 12 ∧ ((evsW dss dss.length).length : Int) = 3 + evW dss dss.length ∧
    (idxK rdE (evsW dss dss.length) (evsW dss dss.length).length).length + (idxK (toE 0) (evsW dss dss.length) (evsW dss dss.length).length).length + (idxK (toE 1) (evsW dss dss.length) (evsW dss dss.length).length).length + (idxK (toE 2) (evsW dss dss.length) (evsW dss dss.length).length).length = (evsW dss dss.length).length ∧
    (∀ p : Nat, p < 3 → ∃ r, idxK (toE (p : Int)) (evsW dss dss.length) (evsW dss dss.length).length = (p : Int) :: r) ∧ ∀ j, 3 ≤ j → j < (evsW dss dss.length).length → GoodE dss (evsW dss dss.length) j := by
  simp only [workB, Bool.and_eq_true, decide_eq_true_eq] at h
  obtain ⟨⟨⟨⟨h1, h2⟩, h3⟩, h4⟩, _⟩ := h
  have hok : ∀ i, i < dss.length → okL (dss.getD i []) = true := fun i hi => all_get [] h2 i hi
  have hl := evsW_len hok dss.length (Nat.le_refl _)
  obtain ⟨⟨t, ht⟩, hg⟩ := evs_good hok dss.length (Nat.le_refl _)
  refine ⟨by omega, hl, idx_sum _ (fun j hj => ?_), fun p hp => idx_first ht p hp, hg⟩
  by_cases hj3 : 3 ≤ j
  · exact good_place hok (hg j hj3 hj)
  · obtain ⟨b0, b1, b2⟩ := beg_get ht
    have : j = 0 ∨ j = 1 ∨ j = 2 := by omega
    rcases this with rfl | rfl | rfl
    · rw [b0]; decide
    · rw [b1]; decide
    · rw [b2]; decide
end Go.Proofs.Ytabafnfadophhaa

/- How many events a right work has. -/
namespace Go.Proofs.Ytabafnfadophhaa

def evB (dss : List (List Dd)) : Int := if workB dss = true then evW dss dss.length else -1
theorem workB_use {dss : List (List Dd)} (h : workB dss = true) : dss.length ≤ 3 ∧ ∀ i, i < dss.length → okL (dss.getD i []) = true := by
  simp only [workB, Bool.and_eq_true, decide_eq_true_eq] at h
  obtain ⟨⟨⟨⟨h1, h2⟩, _⟩, _⟩, _⟩ := h
  exact ⟨h1.2, fun i hi => all_get [] h2 i hi⟩
end Go.Proofs.Ytabafnfadophhaa

/- Plain mathematics of events as the program lists them: a deed of the Group of the deed ahead has the class of the last event. Of a right work that is what the specification lists. -/
namespace Go.Proofs.Ytabafnfadophhaa

/-- Does the deed k go on with the Group of the deed ahead? -/
def goB (ds : List Dd) (k : Nat) : Bool := decide (0 < k) && ((ds.getD k zD).2.2.2 != 0) && ((ds.getD k zD).2.2.2 == (ds.getD (k - 1) zD).2.2.2)
def lastC (out : List Ev) : Int := csE (out.getD (out.length - 1) zE)
def ncE (out : List Ev) (go : Bool) : Int := if go = true then lastC out else (out.length : Int)
def clkP (i : Nat) (ds : List Dd) (out : List Ev) : Nat → List Ev
  | 0 => out
  | k + 1 => clkP i ds out k ++ oneE i k (ds.getD k zD) (ncE (clkP i ds out k) (goB ds k))
def evsP (dss : List (List Dd)) : Nat → List Ev
  | 0 => evBeg
  | i + 1 => clkP i (dss.getD i []) (evsP dss i) (dss.getD i []).length
/-- Deeds of one Group stand side by side. -/
def Tog (ds : List Dd) : Prop := ∀ k j, k < ds.length → j < k → (ds.getD k zD).2.2.2 ≠ 0 → (ds.getD j zD).2.2.2 = (ds.getD k zD).2.2.2 → (ds.getD (k - 1) zD).2.2.2 = (ds.getD k zD).2.2.2
theorem grpK_own {i : Nat} {own : List Int} {ds : List Dd} (hl : own.length = 10) : ∀ (k : Nat) (o : List Int), grpK i own ds k = some o → (∀ j, j < k → okD (ds.getD j zD) = true) →
    ∀ j, j < k → (ds.getD j zD).2.2.2 ≠ 0 → o.getD (ds.getD j zD).2.2.2.toNat 0 = (i : Int) + 1
  | 0, o, h, _, j, hj, _ => by omega
  | k + 1, o', h, hok, j, hj, h0 => by
    rw [grpK] at h
    cases hq : grpK i own ds k with
    | none => rw [hq] at h; cases h
    | some o =>
      rw [hq] at h
      have ih := grpK_own hl k o hq (fun j hj => hok j (by omega))
      have hol := grpK_len hq
      simp only at h
      have okj := okD_restE (hok j hj)
      split at h
      · rename_i hz
        simp only [Option.some.injEq] at h
        subst h
        by_cases e : j = k
        · subst e; exact absurd hz h0
        · exact ih j (by omega) h0
      · rename_i hz
        split at h
        · cases h
        · simp only [Option.some.injEq] at h
          subst h
          have okk := okD_restE (hok k (by omega))
          rw [getD_setE o _ _ _ (by omega)]
          by_cases e : (ds.getD k zD).2.2.2.toNat = (ds.getD j zD).2.2.2.toNat
          · rw [if_pos e]
          · rw [if_neg e]
            by_cases e2 : j = k
            · subst e2; exact absurd rfl e
            · exact ih j (by omega) h0
theorem grpK_tog {i : Nat} {own : List Int} {ds : List Dd} (hl : own.length = 10) {o : List Int} (h : grpK i own ds ds.length = some o) (hok : ∀ j, j < ds.length → okD (ds.getD j zD) = true) : Tog ds := by
  intro k j hk hj h0 he
  have step : ∃ o', grpK i own ds (k + 1) = some o' := by
    cases hq : grpK i own ds (k + 1) with
    | none => rw [grpK_none hq ds.length (by omega)] at h; cases h
    | some o' => exact ⟨o', rfl⟩
  obtain ⟨o', ho'⟩ := step
  rw [grpK] at ho'
  cases hq : grpK i own ds k with
  | none => rw [hq] at ho'; cases ho'
  | some o1 =>
    rw [hq] at ho'
    have hown := grpK_own hl k o1 hq (fun j hj => hok j (by omega)) j hj (by rw [he]; exact h0)
    rw [he] at hown
    simp only at ho'
    rw [if_neg h0] at ho'
    split at ho'
    · cases ho'
    · rename_i hn
      apply Classical.byContradiction
      intro hc
      exact hn ⟨by rw [hown]; omega, .inr (.inr hc)⟩
theorem work_tog {dss : List (List Dd)} (hb : workB dss = true) : ∀ i, i < dss.length → Tog (dss.getD i []) := by
  intro i hi
  simp only [workB, Bool.and_eq_true, decide_eq_true_eq] at hb
  obtain ⟨⟨⟨⟨_, h2⟩, _⟩, _⟩, hg⟩ := hb
  have hok := all_get [] h2 i hi
  simp only [okL, Bool.and_eq_true, decide_eq_true_eq] at hok
  have hs : ∀ n, n ≤ dss.length → ∃ o, grpW dss n = some o := by
    intro n hn
    cases hq : grpW dss n with
    | none => rw [grpB, grpW_none hq dss.length hn] at hg; cases hg
    | some o => exact ⟨o, rfl⟩
  obtain ⟨o, ho⟩ := hs i (by omega)
  obtain ⟨o', ho'⟩ := hs (i + 1) (by omega)
  rw [grpW, ho] at ho'
  exact grpK_tog (grpW_len ho) ho' (fun j hj => all_get zD hok.1 j hj)
theorem last_snoc (out t : List Ev) (e : Ev) : lastC (out ++ (t ++ [e])) = csE e := by
  unfold lastC
  rw [← List.append_assoc, List.length_append, List.getD_eq_getElem?_getD]
  simp
theorem clkP_same {i : Nat} {ds : List Dd} {out : List Ev} (ht : Tog ds) (hok : ∀ j, j < ds.length → okD (ds.getD j zD) = true) (ho : 1 ≤ out.length) :
    ∀ k : Nat, k ≤ ds.length → clkP i ds out k = (clkE i ds out k).1 ∧ (clkE i ds out k).2.length = 10 ∧ 1 ≤ (clkE i ds out k).1.length ∧
      (∀ g : Nat, 0 < g → g < 10 → (∀ j, j < k → (ds.getD j zD).2.2.2 ≠ (g : Int)) → (clkE i ds out k).2.getD g 0 = 0) ∧
      (∀ j, j < k → (ds.getD j zD).2.2.2 ≠ 0 → (clkE i ds out k).2.getD (ds.getD j zD).2.2.2.toNat 0 ≠ 0) ∧
      (0 < k → (ds.getD (k - 1) zD).2.2.2 ≠ 0 → (clkE i ds out k).2.getD (ds.getD (k - 1) zD).2.2.2.toNat 0 = lastC (clkE i ds out k).1)
  | 0, _ => ⟨rfl, by simp [clkE], ho, fun g _ hg _ => by simp only [clkE]; rw [List.getD_eq_getElem?_getD, List.getElem?_replicate, if_pos hg]; rfl, fun j hj => by omega, fun h => by omega⟩
  | k + 1, hk => by
    obtain ⟨h1, h2, h3, h4, h5, h6⟩ := clkP_same ht hok ho k (by omega)
    have hd := hok k (by omega)
    obtain ⟨r0, r1, r2, r3, r4⟩ := okD_restE hd
    have hkd := okD_kindE hd
    rw [clkP, clkE, h1, Nat.add_sub_cancel]
    generalize hS : clkE i ds out k = S at h2 h3 h4 h5 h6
    obtain ⟨L, f⟩ := S
    simp only at h2 h3 h4 h5 h6
    generalize hdd : ds.getD k zD = d at hd r0 r1 r2 r3 r4 hkd
    have hg : goB ds k = (decide (0 < k) && (d.2.2.2 != 0) && (d.2.2.2 == (ds.getD (k - 1) zD).2.2.2)) := by rw [goB, hdd]
    -- deeds ahead that have Group 0 or not
    have old5 : ∀ j, j < k → (ds.getD j zD).2.2.2 ≠ 0 → (ds.getD j zD).2.2.2.toNat < 10 := fun j hj _ => by
      have := okD_restE (hok j (by omega)); omega
    by_cases h4k : d.1 = 4
    · have g0 : d.2.2.2 = 0 := r4 (by omega)
      have e1 : oneE i k d (ncE L (goB ds k)) = [] := by unfold oneE; rw [if_pos h4k]
      rw [stepE, if_pos h4k, e1, List.append_nil]
      refine ⟨rfl, h2, h3, fun g hg0 hg10 hn => h4 g hg0 hg10 (fun j hj => hn j (by omega)), fun j hj hne => ?_, fun _ hne => absurd g0 hne⟩
      by_cases e : j = k
      · subst e; rw [hdd] at hne; exact absurd g0 hne
      · exact h5 j (by omega) hne
    · rw [stepE, if_neg h4k]
      by_cases g0 : d.2.2.2 = 0
      · have e1 : ncE L (goB ds k) = clsE d.2.2.2 L.length f := by
          rw [hg, g0]
          simp [ncE, clsE]
        have e2 : fstE d.2.2.2 L.length f = f := by unfold fstE; rw [if_neg (by rw [g0]; omega)]
        rw [e1]
        simp only
        rw [e2]
        refine ⟨by trivial, h2, by rw [List.length_append]; omega, fun g hg0 hg10 hn => h4 g hg0 hg10 (fun j hj => hn j (by omega)), fun j hj hne => ?_, fun _ hne => absurd g0 hne⟩
        by_cases e : j = k
        · subst e; rw [hdd] at hne; exact absurd g0 hne
        · exact h5 j (by omega) hne
      · have gp : (0 : Int) < d.2.2.2 := by omega
        have k2 : d.1 = 1 ∨ d.1 = 2 := by
          apply Classical.byContradiction
          intro hn
          exact g0 (r4 (by omega))
        have one : ∀ c, ∃ e, oneE i k d c = [e] ∧ csE e = c := by
          intro c
          unfold oneE
          rcases k2 with e | e
          · exact ⟨_, by rw [if_neg h4k, if_neg (by omega), if_neg (by omega)], rfl⟩
          · exact ⟨_, by rw [if_neg h4k, if_neg (by omega), if_pos e], rfl⟩
        have fin : ∀ c, lastC (L ++ oneE i k d c) = c := fun c => by
          obtain ⟨e, he, hc⟩ := one c
          rw [he, ← hc]
          exact last_snoc L [] e
        by_cases hgo : 0 < k ∧ (ds.getD (k - 1) zD).2.2.2 = d.2.2.2
        · obtain ⟨k0, hgo⟩ := hgo
          have e0 : goB ds k = true := by rw [hg, hgo]; simp [k0, g0]
          have f0 : f.getD d.2.2.2.toNat 0 ≠ 0 := by have := h5 (k - 1) (by omega) (by rw [hgo]; exact g0); rw [hgo] at this; exact this
          have f1 : f.getD d.2.2.2.toNat 0 = lastC L := by have := h6 k0 (by rw [hgo]; exact g0); rw [hgo] at this; exact this
          have e2 : fstE d.2.2.2 L.length f = f := by unfold fstE; rw [if_neg (fun h => f0 h.2)]
          have e1 : ncE L (goB ds k) = clsE d.2.2.2 L.length f := by
            rw [e0]
            unfold ncE clsE
            rw [if_pos rfl, if_pos gp, e2, f1]
          have e3 : clsE d.2.2.2 L.length f = f.getD d.2.2.2.toNat 0 := by unfold clsE; rw [if_pos gp, e2]
          rw [e1]
          simp only
          rw [e2]
          refine ⟨by trivial, h2, by rw [List.length_append]; omega, fun g hg0 hg10 hn => h4 g hg0 hg10 (fun j hj => hn j (by omega)), fun j hj hne => ?_, fun _ _ => ?_⟩
          · by_cases e : j = k
            · subst e; rw [hdd]; exact f0
            · exact h5 j (by omega) hne
          · rw [fin, e3]
        · have none : ∀ j, j < k → (ds.getD j zD).2.2.2 ≠ d.2.2.2 := by
            intro j hj he
            refine hgo ⟨by omega, ?_⟩
            have := ht k j (by omega) hj (by rw [hdd]; exact g0) (by rw [hdd]; exact he)
            rw [hdd] at this
            exact this
          obtain ⟨g, hgg⟩ := Int.eq_ofNat_of_zero_le r2
          have g10 : g < 10 := by omega
          have f0 : f.getD d.2.2.2.toNat 0 = 0 := by
            rw [hgg, Int.toNat_natCast]
            exact h4 g (by omega) g10 (fun j hj => by rw [← hgg]; exact none j hj)
          have e0 : goB ds k = false := by
            rw [hg]
            by_cases k0 : 0 < k
            · have : ¬ (d.2.2.2 = (ds.getD (k - 1) zD).2.2.2) := fun e => hgo ⟨k0, e.symm⟩
              have e : (d.2.2.2 == (ds.getD (k - 1) zD).2.2.2) = false := by simpa using this
              rw [e, Bool.and_false]
            · simp [k0]
          have e2 : fstE d.2.2.2 L.length f = f.set d.2.2.2.toNat (L.length : Int) := by unfold fstE; rw [if_pos ⟨gp, f0⟩]
          have e3 : clsE d.2.2.2 L.length f = (L.length : Int) := by
            unfold clsE
            rw [if_pos gp, e2, getD_setE f _ _ _ (by omega), if_pos rfl]
          have e1 : ncE L (goB ds k) = clsE d.2.2.2 L.length f := by rw [e0, e3]; simp [ncE]
          rw [e1]
          simp only
          rw [e2]
          refine ⟨by trivial, by rw [List.length_set]; exact h2, by rw [List.length_append]; omega, fun q hq0 hq10 hn => ?_, fun j hj hne => ?_, fun _ _ => ?_⟩
          · have hqk := hn k (by omega)
            rw [hdd] at hqk
            rw [getD_setE f _ _ _ (by omega), if_neg (by omega)]
            exact h4 q hq0 hq10 (fun j hj => hn j (by omega))
          · by_cases e : j = k
            · subst e
              rw [hdd, getD_setE f _ _ _ (by omega), if_pos rfl]
              omega
            · have nj := none j (by omega)
              have okj := okD_restE (hok j (by omega))
              rw [getD_setE f _ _ _ (by omega), if_neg (by omega)]
              exact h5 j (by omega) hne
          · rw [fin, e3, getD_setE f _ _ _ (by omega), if_pos rfl]
theorem evsP_same {dss : List (List Dd)} (hb : workB dss = true) : ∀ n : Nat, n ≤ dss.length → evsP dss n = evsW dss n ∧ 1 ≤ (evsW dss n).length
  | 0, _ => ⟨rfl, by simp [evsW, evBeg]⟩
  | n + 1, h => by
    obtain ⟨h1, h2⟩ := evsP_same hb n (by omega)
    have ht := work_tog hb n (by omega)
    simp only [workB, Bool.and_eq_true, decide_eq_true_eq] at hb
    obtain ⟨⟨⟨⟨_, ha⟩, _⟩, _⟩, _⟩ := hb
    have hok := all_get [] ha n (by omega)
    simp only [okL, Bool.and_eq_true, decide_eq_true_eq] at hok
    obtain ⟨q1, _, q3, _⟩ := clkP_same (i := n) ht (fun j hj => all_get zD hok.1 j hj) h2 (dss.getD n []).length (Nat.le_refl _)
    rw [evsP, evsW, h1, q1]
    exact ⟨rfl, q3⟩
end Go.Proofs.Ytabafnfadophhaa

/- Plain facts on sets as numbers: a set is gathered from its members, which rise; what is gathered from a list has just the list's numbers. -/
namespace Go.Proofs.Ytabafnfadophhaa
open Go.RowKit

theorem bitB_nat (a i : Nat) (ha : a < 4096) : bitB (a : Int) (i : Int) = a.testBit i := by
  unfold bitB
  have hd : a / 2 ^ i ≤ a := Nat.div_le_self _ _
  have e : ((a : Int) / 2 ^ (i : Int).toNat) = ((a / 2 ^ i : Nat) : Int) := by simp
  rw [e, show (1 : Int) = ((1 : Nat) : Int) from rfl, i64_and_nat _ _ (by omega) (by omega), Nat.and_one_is_mod, Nat.testBit_eq_decide_div_mod_eq]
  generalize a / 2 ^ i % 2 = r
  rw [Bool.eq_iff_iff, beq_iff_eq, decide_eq_true_eq]
  omega
theorem inSetB_nat (a i : Nat) (ha : a < 4096) (hi : i < 12) : inSetB (a : Int) (i : Int) = a.testBit i := by
  have h1 : inB (i : Int) 0 11 = true := by unfold inB; simp; omega
  have h2 : inB (a : Int) 0 4095 = true := by unfold inB; simp; omega
  simp [inSetB, h1, h2, bitB_nat a i ha]
theorem gAdd_nat (a i : Nat) (ha : a < 4096) (hi : i < 12) : gAdd (a : Int) (i : Int) = ((a ||| 2 ^ i : Nat) : Int) := by
  have h1 : inB (i : Int) 0 11 = true := by unfold inB; simp; omega
  rw [gAdd_ok _ _ (by omega) h1, wrap64_pow _ (by omega) (by omega)]
  have hq : (2 : Nat) ^ i < 2 ^ 12 := Nat.pow_lt_pow_right (by omega) hi
  have e : ((2 : Int) ^ (i : Int).toNat) = ((2 ^ i : Nat) : Int) := by simp
  rw [e, i64_or_nat a _ (by omega) (by omega)]
theorem or_lt (a i : Nat) (ha : a < 4096) (hi : i < 12) : a ||| 2 ^ i < 4096 := by
  have hq : (2 : Nat) ^ i < 2 ^ 12 := Nat.pow_lt_pow_right (by omega) hi
  exact Nat.or_lt_two_pow (n := 12) ha hq
theorem fold_all (l : List Int) (h : ∀ x ∈ l, inB x 0 11 = true) (a : Nat) (ha : a < 4096) :
    ∃ b : Nat, b < 4096 ∧ l.foldl gAdd (a : Int) = b ∧ ∀ k : Nat, k < 12 → b.testBit k = (a.testBit k || decide ((k : Int) ∈ l)) := by
  induction l generalizing a with
  | nil => exact ⟨a, ha, rfl, by simp⟩
  | cons x l ih =>
    have hx := h x (by simp)
    have hx' := hx
    simp only [inB, decide_eq_true_eq] at hx'
    obtain ⟨i, rfl⟩ := Int.eq_ofNat_of_zero_le hx'.1
    have hi : i < 12 := by omega
    obtain ⟨b, hb, he, hk⟩ := ih (fun y hy => h y (by simp [hy])) (a ||| 2 ^ i) (or_lt a i ha hi)
    refine ⟨b, hb, ?_, fun k hk12 => ?_⟩
    · rw [List.foldl_cons, gAdd_nat a i ha hi]; exact he
    · rw [hk k hk12, Nat.testBit_or, Nat.testBit_two_pow, Bool.or_assoc]
      congr 1
      rw [Bool.eq_iff_iff, Bool.or_eq_true, decide_eq_true_eq, decide_eq_true_eq, decide_eq_true_eq, List.mem_cons]
      constructor
      · rintro (h | h)
        · exact .inl (by omega)
        · exact .inr h
      · rintro (h | h)
        · exact .inl (by omega)
        · exact .inr h
theorem fold_neg (l : List Int) (x : Int) (hx : x ∈ l) (h : inB x 0 11 = false) (s : Int) : l.foldl gAdd s = -1 := by
  induction l generalizing s with
  | nil => simp at hx
  | cons y l ih =>
    rw [List.foldl_cons]
    rcases List.mem_cons.1 hx with rfl | hx
    · rw [gAdd_bad _ _ h]; exact foldl_none l
    · exact ih hx _
theorem gath_has (l : List Int) (h : 0 ≤ gath l) (k : Nat) (hk : k < 12) : inSetB (gath l) (k : Int) = hasB (k : Int) l := by
  have hall : ∀ x ∈ l, inB x 0 11 = true := by
    intro x hx
    cases hb : inB x 0 11 with
    | true => rfl
    | false => have := fold_neg l x hx hb 0; unfold gath at h; omega
  obtain ⟨b, hb, he, hbit⟩ := fold_all l hall 0 (by omega)
  have e : gath l = (b : Int) := he
  rw [e, inSetB_nat b k hb hk, hbit k hk]
  simp [hasB]
theorem mem_iff (s : Int) (n : Nat) (x : Int) : x ∈ mem s n ↔ ∃ k : Nat, k < n ∧ x = k ∧ inSetB s k = true := by
  induction n with
  | zero => simp [mem]
  | succ n ih =>
    unfold mem
    rw [List.mem_append, ih]
    constructor
    · rintro (⟨k, hk, rfl, h⟩ | h)
      · exact ⟨k, by omega, rfl, h⟩
      · split at h
        · rename_i hs
          simp at h
          exact ⟨n, by omega, h, hs⟩
        · simp at h
    · rintro ⟨k, hk, rfl, h⟩
      by_cases hkn : k = n
      · subst hkn; right; simp [h]
      · exact .inl ⟨k, by omega, rfl, h⟩
theorem mem_rises (s : Int) (n : Nat) : (mem s n).Pairwise (· < ·) := by
  induction n with
  | zero => simp [mem]
  | succ n ih =>
    unfold mem
    rw [List.pairwise_append]
    refine ⟨ih, by split <;> simp, fun a ha b hb => ?_⟩
    obtain ⟨k, hk, rfl, _⟩ := (mem_iff s n a).1 ha
    split at hb
    · simp at hb; omega
    · simp at hb
theorem mem_step (s : Int) (n i : Nat) (h : i + 1 < (mem s n).length) : (mem s n).getD i 0 < (mem s n).getD (i + 1) 0 := by
  have := (List.pairwise_iff_getElem.1 (mem_rises s n)) i (i + 1) (by omega) h (by omega)
  rw [List.getD_eq_getElem?_getD, List.getD_eq_getElem?_getD, List.getElem?_eq_getElem h, List.getElem?_eq_getElem (show i < (mem s n).length by omega)]
  exact this
theorem gath_mem (s : Int) (h : inB s 0 4095 = true) : gath (mem s 12) = s := by
  simp only [inB, decide_eq_true_eq] at h
  obtain ⟨a, rfl⟩ := Int.eq_ofNat_of_zero_le h.1
  have ha : a < 4096 := by omega
  have hall : ∀ x ∈ mem (a : Int) 12, inB x 0 11 = true := by
    intro x hx
    obtain ⟨k, hk, rfl, _⟩ := (mem_iff _ _ _).1 hx
    unfold inB; simp; omega
  obtain ⟨b, hb, he, hbit⟩ := fold_all _ hall 0 (by omega)
  have e : gath (mem (a : Int) 12) = (b : Int) := he
  show gath (mem (a : Int) 12) = (a : Int)
  rw [e]
  have : b = a := by
    apply Nat.eq_of_testBit_eq
    intro k
    by_cases hk : k < 12
    · rw [hbit k hk, Nat.zero_testBit, Bool.false_or]
      rw [← inSetB_nat a k ha hk, Bool.eq_iff_iff, decide_eq_true_eq, mem_iff]
      constructor
      · rintro ⟨j, hj, he, h⟩; have : j = k := by omega
        subst this; exact h
      · intro h; exact ⟨k, hk, rfl, h⟩
    · have hp : (2 : Nat) ^ 12 ≤ 2 ^ k := Nat.pow_le_pow_right (by omega) (by omega)
      rw [Nat.testBit_lt_two_pow (by omega), Nat.testBit_lt_two_pow (by omega)]
  rw [this]
end Go.Proofs.Ytabafnfadophhaa

/- Plain mathematics of the program's clerks: the Groups that they have, as sets; that the program's test on them is the specification's. -/
namespace Go.Proofs.Ytabafnfadophhaa
open Go.RowKit

def grD (d : Dd) : Int := d.2.2.2
/-- The Groups of the first k deeds, as a set. -/
def gK (ds : List Dd) : Nat → Int
  | 0 => 0
  | k + 1 => if grD (ds.getD k zD) = 0 then gK ds k else gAdd (gK ds k) (grD (ds.getD k zD))
def gC (ds : List Dd) : Int := gK ds ds.length
/-- Does the deed k begin a Group that was there before? -/
def partK (ds : List Dd) (k : Nat) : Bool := decide (0 < k) && (grD (ds.getD k zD) != grD (ds.getD (k - 1) zD)) && inSetB (gK ds k) (grD (ds.getD k zD))
def togK (ds : List Dd) : Nat → Bool
  | 0 => true
  | k + 1 => togK ds k && !partK ds k
/-- The Groups of the clerks ahead. -/
def takW (dss : List (List Dd)) : Nat → Int
  | 0 => 0
  | i + 1 => bits .or .i64 (takW dss i) (gC (dss.getD i []))
def rightB (ds : List Dd) (t : Int) : Bool := decide (ds.length ≤ 5) && ds.all okD && togK ds ds.length && (bits .and .i64 (gC ds) t == 0)
def rightsW (dss : List (List Dd)) : Nat → Bool
  | 0 => true
  | i + 1 => rightsW dss i && rightB (dss.getD i []) (takW dss i)
theorem take_getD {α : Type} (l : List α) (i k : Nat) (z : α) (h : k < i) : (l.take i).getD k z = l.getD k z := by
  rw [List.getD_eq_getElem?_getD, List.getElem?_take, if_pos h, List.getD_eq_getElem?_getD]
theorem gK_take (ds : List Dd) (i : Nat) : ∀ k : Nat, k ≤ i → gK (ds.take i) k = gK ds k
  | 0, _ => rfl
  | k + 1, h => by rw [gK, gK, gK_take ds i k (by omega), take_getD ds i k zD (by omega)]
theorem gC_take (ds : List Dd) (i : Nat) (h : i ≤ ds.length) : gC (ds.take i) = gK ds i := by
  rw [gC, List.length_take, Nat.min_eq_left h, gK_take ds i i (Nat.le_refl _)]
theorem togK_false {ds : List Dd} {k : Nat} (h : togK ds k = false) : ∀ n : Nat, k ≤ n → togK ds n = false
  | 0, hn => by
    obtain rfl : k = 0 := by omega
    exact h
  | n + 1, hn => by
    by_cases e : k = n + 1
    · rw [← e]; exact h
    · rw [togK, togK_false h n (by omega)]; rfl
theorem rightsW_false {dss : List (List Dd)} {k : Nat} (h : rightsW dss k = false) : ∀ n : Nat, k ≤ n → rightsW dss n = false
  | 0, hn => by
    obtain rfl : k = 0 := by omega
    exact h
  | n + 1, hn => by
    by_cases e : k = n + 1
    · rw [← e]; exact h
    · rw [rightsW, rightsW_false h n (by omega)]; rfl
/-- No number is in both. -/
def Dis (a b : Nat) : Prop := ∀ k, a.testBit k = true → b.testBit k = false
theorem dis_iff (a b : Nat) : Dis a b ↔ a &&& b = 0 := by
  constructor
  · intro h
    apply Nat.eq_of_testBit_eq
    intro k
    rw [Nat.testBit_and, Nat.zero_testBit]
    cases ha : a.testBit k
    · rfl
    · rw [h k ha]; rfl
  · intro h k ha
    have h1 : (a &&& b).testBit k = false := by rw [h, Nat.zero_testBit]
    rw [Nat.testBit_and, ha] at h1
    simpa using h1
theorem or_bit (a g k : Nat) : (a ||| 2 ^ g).testBit k = (a.testBit k || decide (g = k)) := by
  rw [Nat.testBit_or, Nat.testBit_two_pow]
theorem set_getD (o : List Int) (g : Nat) (x : Int) (j : Nat) (hg : g < o.length) : (o.set g x).getD j 0 = if g = j then x else o.getD j 0 := by
  rw [List.getD_eq_getElem?_getD, List.getElem?_set]
  by_cases e : g = j
  · subst e; rw [if_pos rfl, if_pos hg, if_pos rfl]; rfl
  · rw [if_neg e, if_neg e, List.getD_eq_getElem?_getD]
theorem okD_grp {d : Dd} (h : okD d = true) : 0 ≤ grD d ∧ grD d ≤ 9 := by
  simp [okD, deedB] at h
  unfold grD
  omega
theorem clerk_same {i : Nat} {own : List Int} {T : Nat} {ds : List Dd} (hl : own.length = 10) (hT : ∀ g, g < 10 → (own.getD g 0 ≠ 0 ↔ T.testBit g = true)) (hi : ∀ g, g < 10 → own.getD g 0 ≠ (i : Int) + 1) (hT0 : T.testBit 0 = false) :
    ∀ k : Nat, (∀ j, j < k → okD (ds.getD j zD) = true) → ∃ G : Nat, G < 4096 ∧ gK ds k = (G : Int) ∧ G.testBit 0 = false ∧ (k = 0 → G = 0) ∧
      (grpK i own ds k = none → togK ds k = false ∨ ¬ Dis G T) ∧
      ∀ o, grpK i own ds k = some o → togK ds k = true ∧ Dis G T ∧ o.length = 10 ∧ ∀ g, g < 10 → o.getD g 0 = if G.testBit g = true then (i : Int) + 1 else own.getD g 0
  | 0, _ => ⟨0, by omega, rfl, by simp, fun _ => rfl, by simp [grpK], by
      intro o ho
      simp only [grpK, Option.some.injEq] at ho
      subst ho
      exact ⟨rfl, fun k hk => by simp at hk, hl, by simp⟩⟩
  | k + 1, hok => by
    obtain ⟨G, hG, hgK, hG0, hz, hN, hS⟩ := clerk_same hl hT hi hT0 k (fun j hj => hok j (by omega))
    obtain ⟨h0, h9⟩ := okD_grp (hok k (by omega))
    obtain ⟨g, hg⟩ := Int.eq_ofNat_of_zero_le h0
    have hgg : (ds.getD k zD).2.2.2 = (g : Int) := hg
    by_cases hg0 : g = 0
    · subst hg0
      have hz0 : (ds.getD k zD).2.2.2 = 0 := hgg
      have e1 : gK ds (k + 1) = (G : Int) := by rw [gK, hg, if_pos (by simp), hgK]
      have e2 : partK ds k = false := by
        have : inSetB (gK ds k) (grD (ds.getD k zD)) = false := by rw [hgK, hg, inSetB_nat G 0 hG (by omega), hG0]
        rw [partK, this, Bool.and_false]
      have e3 : togK ds (k + 1) = togK ds k := by rw [togK, e2]; simp
      have e4 : grpK i own ds (k + 1) = grpK i own ds k := by
        rw [grpK]
        cases hq : grpK i own ds k with
        | none => rfl
        | some o => simp only; rw [if_pos hz0]
      refine ⟨G, hG, e1, hG0, by omega, ?_, ?_⟩
      · rw [e3, e4]; exact hN
      · rw [e3, e4]; exact hS
    · have hgne : (ds.getD k zD).2.2.2 ≠ 0 := by rw [hgg]; omega
      have g9 : g ≤ 9 := by rw [hg] at h9; omega
      have e1 : gK ds (k + 1) = ((G ||| 2 ^ g : Nat) : Int) := by
        rw [gK, hg, if_neg (by omega), hgK, gAdd_nat G g hG (by omega)]
      have e0 : (G ||| 2 ^ g).testBit 0 = false := by rw [or_bit, hG0]; simp [hg0]
      have inS : inSetB (gK ds k) (grD (ds.getD k zD)) = G.testBit g := by rw [hgK, hg, inSetB_nat G g hG (by omega)]
      refine ⟨G ||| 2 ^ g, or_lt G g hG (by omega), e1, e0, by omega, ?_, ?_⟩
      · intro hn
        rw [grpK] at hn
        cases hq : grpK i own ds k with
        | none =>
          rcases hN hq with h | h
          · left; rw [togK, h]; rfl
          · right
            intro hd
            refine h (fun b hb => hd b ?_)
            rw [or_bit, hb]; rfl
        | some o =>
          rw [hq] at hn
          simp only at hn
          rw [if_neg hgne, hgg, Int.toNat_natCast] at hn
          obtain ⟨ht, hd, hlen, ho⟩ := hS o hq
          split at hn
          · rename_i hc
            cases hTg : T.testBit g with
            | true =>
              right
              intro hd2
              have := hd2 g (by rw [or_bit]; simp)
              rw [hTg] at this
              cases this
            | false =>
              left
              have hown : own.getD g 0 = 0 := by
                apply Classical.byContradiction
                intro hne
                rw [(hT g (by omega)).1 hne] at hTg
                cases hTg
              cases hGg : G.testBit g with
              | false =>
                exfalso
                have := ho g (by omega)
                rw [hGg, hown] at this
                exact hc.1 (by simpa using this)
              | true =>
                have hk0 : k ≠ 0 := by
                  intro hk
                  rw [hz hk] at hGg
                  simp at hGg
                have hog := ho g (by omega)
                rw [hGg, if_pos rfl] at hog
                have hp : (ds.getD (k - 1) zD).2.2.2 ≠ (g : Int) := by
                  rcases hc.2 with h | h | h
                  · exact absurd hog h
                  · exact absurd h hk0
                  · exact h
                have : partK ds k = true := by
                  rw [partK, inS, hGg, hg]
                  have hp' : ((g : Int) != grD (ds.getD (k - 1) zD)) = true := by
                    rw [bne_iff_ne]; exact fun e => hp e.symm
                  rw [hp']
                  simp; omega
                rw [togK, this]; simp
          · cases hn
      · intro o' hn
        rw [grpK] at hn
        cases hq : grpK i own ds k with
        | none => rw [hq] at hn; cases hn
        | some o =>
          rw [hq] at hn
          simp only at hn
          rw [if_neg hgne, hgg, Int.toNat_natCast] at hn
          obtain ⟨ht, hd, hlen, ho⟩ := hS o hq
          split at hn
          · cases hn
          · rename_i hc
            simp only [Option.some.injEq] at hn
            subst hn
            have hog := ho g (by omega)
            have hTg : T.testBit g = false := by
              cases hTg : T.testBit g with
              | false => rfl
              | true =>
                exfalso
                have hGg : G.testBit g = false := by
                  cases hGg : G.testBit g with
                  | false => rfl
                  | true => rw [hd g hGg] at hTg; cases hTg
                rw [hGg] at hog
                simp only [Bool.false_eq_true, if_false] at hog
                exact hc ⟨by rw [hog]; exact (hT g (by omega)).2 hTg, .inl (by rw [hog]; exact hi g (by omega))⟩
            refine ⟨?_, ?_, by rw [List.length_set]; exact hlen, ?_⟩
            · have : partK ds k = false := by
                cases hp : partK ds k with
                | false => rfl
                | true =>
                  exfalso
                  rw [partK, inS, hg, Bool.and_eq_true, Bool.and_eq_true, decide_eq_true_eq, bne_iff_ne] at hp
                  obtain ⟨⟨hk, hne⟩, hGg⟩ := hp
                  rw [hGg, if_pos rfl] at hog
                  exact hc ⟨by rw [hog]; omega, .inr (.inr (fun e => hne e.symm))⟩
              rw [togK, ht, this]; rfl
            · intro b hb
              rw [or_bit, Bool.or_eq_true, decide_eq_true_eq] at hb
              rcases hb with hb | rfl
              · exact hd b hb
              · exact hTg
            · intro j hj
              rw [set_getD o g _ j (by omega), or_bit]
              by_cases e : g = j
              · subst e; simp
              · rw [if_neg e, ho j hj]; simp [e]
theorem work_same {dss : List (List Dd)} : ∀ n : Nat, (∀ i, i < n → okL (dss.getD i []) = true) → ∃ T : Nat, T < 4096 ∧ takW dss n = (T : Int) ∧ T.testBit 0 = false ∧
      (grpW dss n = none → rightsW dss n = false) ∧
      ∀ o, grpW dss n = some o → rightsW dss n = true ∧ o.length = 10 ∧ (∀ g, g < 10 → (o.getD g 0 ≠ 0 ↔ T.testBit g = true)) ∧ ∀ g, g < 10 → 0 ≤ o.getD g 0 ∧ o.getD g 0 ≤ (n : Int)
  | 0, _ => ⟨0, by omega, rfl, by simp, by simp [grpW], by
      intro o ho
      simp only [grpW, Option.some.injEq] at ho
      subst ho
      refine ⟨rfl, by simp, fun g hg => ?_, fun g hg => ?_⟩
      · rw [List.getD_eq_getElem?_getD, List.getElem?_replicate, if_pos hg]; simp
      · rw [List.getD_eq_getElem?_getD, List.getElem?_replicate, if_pos hg]; simp⟩
  | n + 1, hok => by
    obtain ⟨T, hT, htk, hT0, hN, hS⟩ := work_same n (fun i hi => hok i (by omega))
    have okn := hok n (by omega)
    simp only [okL, Bool.and_eq_true, decide_eq_true_eq] at okn
    have hall := okn.1
    have hok2 : ∀ j, j < (dss.getD n []).length → okD ((dss.getD n []).getD j zD) = true := fun j hj => all_get zD hall j hj
    obtain ⟨G0, hG0, hgK0, hG00, -⟩ := clerk_same (i := 0) (own := List.replicate 10 0) (T := 0) (ds := dss.getD n []) (by simp) (fun g hg => by rw [List.getD_eq_getElem?_getD, List.getElem?_replicate, if_pos hg]; simp) (fun g hg => by rw [List.getD_eq_getElem?_getD, List.getElem?_replicate, if_pos hg]; simp) (by simp) (dss.getD n []).length hok2
    have hor : takW dss (n + 1) = ((T ||| G0 : Nat) : Int) := by
      rw [takW, htk, gC, hgK0, i64_or_nat T G0 (by omega) (by omega)]
    have hand : bits .and .i64 (gC (dss.getD n [])) (takW dss n) = ((G0 &&& T : Nat) : Int) := by
      rw [gC, hgK0, htk, i64_and_nat G0 T (by omega) (by omega)]
    have hR : rightB (dss.getD n []) (takW dss n) = (togK (dss.getD n []) (dss.getD n []).length && decide (G0 &&& T = 0)) := by
      rw [rightB, hall, decide_eq_true okn.2, hand]
      simp only [Bool.true_and]
      congr 1
      rw [Bool.eq_iff_iff, beq_iff_eq, decide_eq_true_eq]
      omega
    refine ⟨T ||| G0, Nat.or_lt_two_pow (n := 12) hT hG0, hor, by rw [Nat.testBit_or, hT0, hG00]; rfl, ?_, ?_⟩
    · intro hn
      rw [grpW] at hn
      cases hq : grpW dss n with
      | none => rw [rightsW, hN hq]; rfl
      | some o =>
        rw [hq] at hn
        simp only at hn
        obtain ⟨hr, hl, hb, hle⟩ := hS o hq
        obtain ⟨G, hG, hgK, -, -, hN2, -⟩ := clerk_same (i := n) (own := o) (T := T) (ds := dss.getD n []) hl hb (fun g hg => by have := hle g hg; omega) hT0 (dss.getD n []).length hok2
        obtain rfl : G = G0 := by rw [hgK0] at hgK; omega
        rw [rightsW, hr, hR]
        rcases hN2 hn with h | h
        · rw [h]; rfl
        · rw [decide_eq_false (fun e => h ((dis_iff _ _).2 e))]; simp
    · intro o' hn
      rw [grpW] at hn
      cases hq : grpW dss n with
      | none => rw [hq] at hn; cases hn
      | some o =>
        rw [hq] at hn
        simp only at hn
        obtain ⟨hr, hl, hb, hle⟩ := hS o hq
        obtain ⟨G, hG, hgK, -, -, -, hS2⟩ := clerk_same (i := n) (own := o) (T := T) (ds := dss.getD n []) hl hb (fun g hg => by have := hle g hg; omega) hT0 (dss.getD n []).length hok2
        obtain rfl : G = G0 := by rw [hgK0] at hgK; omega
        obtain ⟨h1, h2, h3, h4⟩ := hS2 o' hn
        refine ⟨by rw [rightsW, hr, hR, h1, decide_eq_true ((dis_iff _ _).1 h2)]; rfl, h3, fun g hg => ?_, fun g hg => ?_⟩
        · rw [h4 g hg, Nat.testBit_or, Bool.or_eq_true]
          cases hGg : G.testBit g
          · simp only [Bool.false_eq_true, if_false, or_false]; exact hb g hg
          · simp only [if_true, or_true, iff_true]; omega
        · rw [h4 g hg]
          have := hle g hg
          split <;> omega
/-- The program's test is the specification's. -/
theorem rights_same {dss : List (List Dd)} (h : dss.all okL = true) : rightsW dss dss.length = grpB dss := by
  obtain ⟨T, -, -, -, hN, hS⟩ := work_same (dss := dss) dss.length (fun i hi => all_get [] h i hi)
  rw [grpB]
  cases hq : grpW dss dss.length with
  | none => rw [hN hq]; rfl
  | some o => rw [(hS o hq).1]; rfl
theorem rights_okL {dss : List (List Dd)} (h : rightsW dss dss.length = true) : dss.all okL = true := by
  refine all_of [] (fun i hi => ?_)
  cases hb : rightsW dss (i + 1) with
  | false => rw [rightsW_false hb _ hi] at h; cases h
  | true =>
    rw [rightsW, Bool.and_eq_true] at hb
    have := hb.2
    simp only [rightB, Bool.and_eq_true] at this
    rw [okL, this.1.1.2, Bool.true_and]
    exact this.1.1.1
theorem work_rights (dss : List (List Dd)) : workB dss = (decide (1 ≤ dss.length ∧ dss.length ≤ 3) && rightsW dss dss.length && decide (lenW dss ≤ 12) && decide (evW dss dss.length ≤ 6)) := by
  rw [workB]
  cases h : dss.all okL with
  | true =>
    rw [rights_same h]
    cases grpB dss <;> simp
  | false =>
    cases hr : rightsW dss dss.length with
    | false => simp
    | true => rw [rights_okL hr] at h; cases h
end Go.Proofs.Ytabafnfadophhaa
