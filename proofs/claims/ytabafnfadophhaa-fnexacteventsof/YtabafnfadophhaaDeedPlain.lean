/- Plain mathematics of deeds: which four numbers are a deed, its text, the two guesses that are made of a text (the specification's by words, the program's by cuts), and that each guess of a right deed's text is that deed. -/
import Derived.Lib.IndexMore
import Derived.Lib.ParseIntB
import Derived.Lib.ItoaNum
namespace Go.Proofs.Ytabafnfadophhaa

def deedB (k p v g : Int) : Bool :=
  decide ((1 ≤ k ∧ k ≤ 4) ∧ (0 ≤ p ∧ p ≤ 2) ∧ (0 ≤ g ∧ g ≤ 9) ∧ (k = 4 → p = 0) ∧ (2 < k → g = 0) ∧ ((k = 2 ∨ k = 3) → 1 ≤ v ∧ v ≤ 9) ∧ (¬ (k = 2 ∨ k = 3) → v = 0))

def kindL (k : Int) : List UInt8 :=
  if k = 1 then [114, 101, 97, 100] else if k = 2 then [119, 114, 105, 116, 101] else if k = 3 then [115, 119, 97, 112] else if k = 4 then [119, 97, 105, 116] else []
def digL (n : Int) : List UInt8 := [UInt8.ofNat (48 + n.toNat)]
def placeL (p : Int) : List UInt8 := [UInt8.ofNat (120 + p.toNat)]
def partP (k p : Int) : List UInt8 := if k = 4 then [] else 32 :: placeL p
def partV (v : Int) : List UInt8 := if v = 0 then [] else 32 :: digL v
def partG (g : Int) : List UInt8 := if g = 0 then [] else [32, 105, 110, 32] ++ digL g
def showL (k p v g : Int) : List UInt8 := kindL k ++ partP k p ++ partV v ++ partG g
def showD (k p v g : Int) : List UInt8 := if deedB k p v g = true then showL k p v g else []

def kindNo (w : List UInt8) : Int :=
  if kindL 1 = w then 1 else if kindL 2 = w then 2 else if kindL 3 = w then 3 else if kindL 4 = w then 4 else 0
def numI (w : List UInt8) : Int := match Lib.parseIntB 64 w with
  | .ok v => v
  | _ => 0
def cutIn (s : List UInt8) : List UInt8 × List UInt8 × Bool := Lib.cut s [32, 105, 110, 32]
def cutB (s : List UInt8) : List UInt8 × List UInt8 × Bool := Lib.cut s [32]
def gIk (s : List UInt8) : Int := kindNo (cutB (cutIn s).1).1
def gIp (s : List UInt8) : Int := Lib.index [120, 121, 122] (cutB (cutB (cutIn s).1).2.1).1
def gIv (s : List UInt8) : Int := numI (cutB (cutB (cutIn s).1).2.1).2.1
def gIg (s : List UInt8) : Int := numI (cutIn s).2.1

/-- The words of a text: as l1Split parts them. -/
def joinHead (x : List UInt8) : List (List UInt8) → List (List UInt8)
  | [] => [x]
  | y :: ys => (x ++ y) :: ys
def splitL (b : UInt8) : List UInt8 → List (List UInt8)
  | [] => [[]]
  | c :: r => if c = b then [] :: splitL b r else joinHead [c] (splitL b r)
theorem splitL_ne (b : UInt8) : ∀ s : List UInt8, splitL b s ≠ []
  | [] => by simp [splitL]
  | c :: r => by
    unfold splitL
    split
    · simp
    · cases h : splitL b r <;> simp [joinHead]
theorem joinHead_join (x y : List UInt8) : ∀ l : List (List UInt8), joinHead x (joinHead y l) = joinHead (x ++ y) l
  | [] => rfl
  | z :: zs => by simp [joinHead]
theorem joinHead_nil (l : List (List UInt8)) (h : l ≠ []) : joinHead [] l = l := by
  cases l with
  | nil => exact absurd rfl h
  | cons y ys => rfl

/-- The number that l1Read makes of digits, behind those read. -/
def digV (acc : Int) : List UInt8 → Option Int
  | [] => some acc
  | c :: r => if 48 ≤ c.toNat ∧ c.toNat ≤ 57 then digV (acc * 10 + ((c.toNat : Int) - 48)) r else none
def negR (s : List UInt8) : Bool := match s with
  | [] => false
  | c :: _ => decide (c = 45)
def bodyR (s : List UInt8) : List UInt8 := if negR s = true then s.drop 1 else s
def readO (s : List UInt8) : Option Int :=
  if (bodyR s).length < 1 ∨ 9 < (bodyR s).length then none else
  match digV 0 (bodyR s) with
  | none => none
  | some n => if (bodyR s).head? = some 48 ∧ (negR s = true ∨ 1 < s.length) then none else some (if negR s = true then -n else n)
def numS (s : List UInt8) : Int := (readO s).getD 0

def placeNo (w : List UInt8) : Int := if w = [120] then 0 else if w = [121] then 1 else if w = [122] then 2 else -1
def wordAt (ws : List (List UInt8)) (i : Nat) : List UInt8 := ws.getD i []
def gSk (ws : List (List UInt8)) : Int := kindNo (wordAt ws 0)
/-- Whether a place is read, whether a value is, and where the words behind stand. -/
def hasP (ws : List (List UInt8)) : Bool := decide (gSk ws ≠ 4 ∧ 1 < ws.length)
def atV (ws : List (List UInt8)) : Nat := if hasP ws = true then 2 else 1
def hasV (ws : List (List UInt8)) : Bool := decide ((gSk ws = 2 ∨ gSk ws = 3) ∧ atV ws < ws.length)
def atG (ws : List (List UInt8)) : Nat := if hasV ws = true then atV ws + 1 else atV ws
def hasG (ws : List (List UInt8)) : Bool := decide (ws.length = atG ws + 2 ∧ wordAt ws (atG ws) = [105, 110])
def gSp (ws : List (List UInt8)) : Int := if hasP ws = true then placeNo (wordAt ws 1) else 0
def gSv (ws : List (List UInt8)) : Int := if hasV ws = true then numS (wordAt ws (atV ws)) else 0
def gSg (ws : List (List UInt8)) : Int := if hasG ws = true then numS (wordAt ws (atG ws + 1)) else 0

/-- The kind that the specification has found behind k words held against the first. -/
def kindUp (x : List UInt8) : Nat → Int
  | 0 => 0
  | k + 1 => if kindL ((k : Int) + 1) = x then (k : Int) + 1 else kindUp x k
theorem kindUp_four (x : List UInt8) : kindUp x 4 = kindNo x := by
  unfold kindNo
  by_cases h1 : kindL 1 = x
  · subst h1; decide
  · by_cases h2 : kindL 2 = x
    · subst h2; decide
    · by_cases h3 : kindL 3 = x
      · subst h3; decide
      · by_cases h4 : kindL 4 = x
        · subst h4; decide
        · rw [if_neg h1, if_neg h2, if_neg h3, if_neg h4]
          simp [kindUp, h1, h2, h3, h4]
theorem kindNo_in (x : List UInt8) : 0 ≤ kindNo x ∧ kindNo x ≤ 4 := by
  unfold kindNo
  repeat' split
  all_goals omega
/-- All right deeds, by four numbers from a few. -/
def okList : List (Int × Int × Int × Int) :=
  [1, 2, 3, 4].flatMap fun k => [0, 1, 2].flatMap fun p => [0, 1, 2, 3, 4, 5, 6, 7, 8, 9].flatMap fun v => ([0, 1, 2, 3, 4, 5, 6, 7, 8, 9].map fun g => (k, p, v, g)).filter fun d => deedB d.1 d.2.1 d.2.2.1 d.2.2.2
theorem ok_mem (k p v g : Int) (h : deedB k p v g = true) : (k, p, v, g) ∈ okList := by
  have h' := h
  simp only [deedB, decide_eq_true_eq] at h'
  obtain ⟨⟨k1, k2⟩, ⟨p1, p2⟩, ⟨g1, g2⟩, h4, h5, h6, h7⟩ := h'
  have v1 : 0 ≤ v ∧ v ≤ 9 := by
    by_cases hk : k = 2 ∨ k = 3
    · have := h6 hk; omega
    · have := h7 hk; omega
  simp only [okList, List.mem_flatMap, List.mem_filter, List.mem_map]
  refine ⟨k, ?_, p, ?_, v, ?_, ⟨g, ?_, rfl⟩, h⟩
  · have : k = 1 ∨ k = 2 ∨ k = 3 ∨ k = 4 := by omega
    simpa using this
  · have : p = 0 ∨ p = 1 ∨ p = 2 := by omega
    simpa using this
  · have : v = 0 ∨ v = 1 ∨ v = 2 ∨ v = 3 ∨ v = 4 ∨ v = 5 ∨ v = 6 ∨ v = 7 ∨ v = 8 ∨ v = 9 := by omega
    simpa using this
  · have : g = 0 ∨ g = 1 ∨ g = 2 ∨ g = 3 ∨ g = 4 ∨ g = 5 ∨ g = 6 ∨ g = 7 ∨ g = 8 ∨ g = 9 := by omega
    simpa using this
def hitI (d : Int × Int × Int × Int) : Bool :=
  let s := showL d.1 d.2.1 d.2.2.1 d.2.2.2
  decide (gIk s = d.1) && decide (gIp s = d.2.1) && decide (gIv s = d.2.2.1) && decide (gIg s = d.2.2.2)
def hitS (d : Int × Int × Int × Int) : Bool :=
  let ws := splitL 32 (showL d.1 d.2.1 d.2.2.1 d.2.2.2)
  decide (gSk ws = d.1) && decide (gSp ws = d.2.1) && decide (gSv ws = d.2.2.1) && decide (gSg ws = d.2.2.2)
theorem all_hitI : okList.all hitI = true := by decide +kernel
theorem all_hitS : okList.all hitS = true := by decide +kernel
theorem okList_length : okList.length = 328 := by decide +kernel

/-- What ReadDeed answers of a guess: the guess where it is right and has just this text, else nothing. -/
def fits (s : List UInt8) (k p v g : Int) : Bool := deedB k p v g && decide (showL k p v g = s)
theorem guessI_show {k p v g : Int} {s : List UInt8} (h : fits s k p v g = true) : gIk s = k ∧ gIp s = p ∧ gIv s = v ∧ gIg s = g := by
  simp only [fits, Bool.and_eq_true, decide_eq_true_eq] at h
  obtain ⟨h, rfl⟩ := h
  have := List.all_eq_true.1 all_hitI _ (ok_mem k p v g h)
  simpa [hitI, and_assoc] using this
theorem guessS_show {k p v g : Int} {s : List UInt8} (h : fits s k p v g = true) : gSk (splitL 32 s) = k ∧ gSp (splitL 32 s) = p ∧ gSv (splitL 32 s) = v ∧ gSg (splitL 32 s) = g := by
  simp only [fits, Bool.and_eq_true, decide_eq_true_eq] at h
  obtain ⟨h, rfl⟩ := h
  have := List.all_eq_true.1 all_hitS _ (ok_mem k p v g h)
  simpa [hitS, and_assoc] using this
def fitI (s : List UInt8) : Bool := fits s (gIk s) (gIp s) (gIv s) (gIg s)
def fitS (s : List UInt8) : Bool := fits s (gSk (splitL 32 s)) (gSp (splitL 32 s)) (gSv (splitL 32 s)) (gSg (splitL 32 s))
theorem fit_same (s : List UInt8) : fitS s = fitI s := by
  rw [Bool.eq_iff_iff]
  constructor
  · intro h
    obtain ⟨a, b, c, d⟩ := guessI_show h
    unfold fitI
    rw [a, b, c, d]
    exact h
  · intro h
    obtain ⟨a, b, c, d⟩ := guessS_show h
    unfold fitS
    rw [a, b, c, d]
    exact h
theorem guess_same {s : List UInt8} (h : fitI s = true) : gSk (splitL 32 s) = gIk s ∧ gSp (splitL 32 s) = gIp s ∧ gSv (splitL 32 s) = gIv s ∧ gSg (splitL 32 s) = gIg s := guessS_show h
theorem fit_show {k p v g : Int} (h : deedB k p v g = true) : fitI (showL k p v g) = true ∧ gIk (showL k p v g) = k ∧ gIp (showL k p v g) = p ∧ gIv (showL k p v g) = v ∧ gIg (showL k p v g) = g := by
  have hf : fits (showL k p v g) k p v g = true := by simp [fits, h]
  obtain ⟨a, b, c, d⟩ := guessI_show hf
  refine ⟨?_, a, b, c, d⟩
  unfold fitI
  rw [a, b, c, d]
  exact hf
theorem kindL_ne {k : Int} (h1 : 1 ≤ k) (h2 : k ≤ 4) : kindL k ≠ [] := by
  have : k = 1 ∨ k = 2 ∨ k = 3 ∨ k = 4 := by omega
  rcases this with rfl | rfl | rfl | rfl <;> decide
theorem showL_ne {k p v g : Int} (h : deedB k p v g = true) : showL k p v g ≠ [] := by
  simp only [deedB, decide_eq_true_eq] at h
  have := kindL_ne h.1.1 h.1.2
  unfold showL
  simp [this]
theorem showL_length (k p v g : Int) : (showL k p v g).length ≤ 14 := by
  unfold showL partP partV partG kindL digL placeL
  repeat' split
  all_goals simp
end Go.Proofs.Ytabafnfadophhaa
