/- Plain mathematics of l1Read's loop: digits read one behind the other. -/
import Derived.Test.YtljamlgnobpjeaaDoorSplitPlain
namespace Go.Proofs.YtljamlgnobpjeaaDoor

def byteAt (l : List UInt8) (k : Nat) : UInt8 := l.getD k 0
def isDig (c : UInt8) : Bool := decide (48 ≤ c.toNat ∧ c.toNat ≤ 57)
theorem digV_snoc (c : UInt8) : ∀ (a : Int) (xs : List UInt8), digV a (xs ++ [c]) = (digV a xs).bind fun n => if isDig c = true then some (n * 10 + ((c.toNat : Int) - 48)) else none
  | a, [] => by simp [digV, isDig]
  | a, x :: xs => by
    rw [List.cons_append, digV, digV]
    split
    · exact digV_snoc c _ xs
    · rfl
theorem digV_app : ∀ (a : Int) (xs ys : List UInt8), digV a (xs ++ ys) = (digV a xs).bind fun n => digV n ys
  | a, [], ys => by simp [digV]
  | a, x :: xs, ys => by
    rw [List.cons_append, digV, digV]
    split
    · exact digV_app _ xs ys
    · rfl
theorem digV_bad {a n : Int} {xs ys : List UInt8} {c : UInt8} (h : digV a xs = some n) (hc : isDig c = false) : digV a (xs ++ c :: ys) = none := by
  rw [digV_app, h]
  simp only [Option.bind_some, digV]
  rw [if_neg (by simpa [isDig] using hc)]
theorem digV_bound : ∀ (xs : List UInt8) (a n : Int), 0 ≤ a → digV a xs = some n → 0 ≤ n ∧ n + 1 ≤ (a + 1) * 10 ^ xs.length
  | [], a, n, ha, h => by simp [digV] at h; subst h; simp; omega
  | x :: xs, a, n, ha, h => by
    rw [digV] at h
    split at h
    · have ih := digV_bound xs _ n (by omega) h
      refine ⟨ih.1, Int.le_trans ih.2 ?_⟩
      rw [List.length_cons, Int.pow_succ]
      have hp : (0 : Int) ≤ 10 ^ xs.length := Int.pow_nonneg (by omega)
      have : (a * 10 + ((x.toNat : Int) - 48) + 1) ≤ (a + 1) * 10 := by omega
      calc _ ≤ (a + 1) * 10 * 10 ^ xs.length := Int.mul_le_mul_of_nonneg_right this hp
        _ = (a + 1) * (10 ^ xs.length * 10) := by rw [Int.mul_assoc, Int.mul_comm 10]
    · simp at h
theorem pow_le9 {n : Nat} (h : n ≤ 9) : (10 : Int) ^ n ≤ 1000000000 := by
  have : n = 0 ∨ n = 1 ∨ n = 2 ∨ n = 3 ∨ n = 4 ∨ n = 5 ∨ n = 6 ∨ n = 7 ∨ n = 8 ∨ n = 9 := by omega
  rcases this with rfl | rfl | rfl | rfl | rfl | rfl | rfl | rfl | rfl | rfl <;> decide
/-- What l1Read has read of a text behind the first i signs. -/
def readInv (l : List UInt8) (i j : Nat) (n : Int) : Prop := digV 0 (segL l i (i + j)) = some n
theorem readInv_start (l : List UInt8) (i : Nat) : readInv l i 0 0 := by simp [readInv, segL, digV]
theorem readInv_hit {l : List UInt8} {i j : Nat} {n : Int} (h : readInv l i j n) (hk : i + j < l.length) (hd : isDig (byteAt l (i + j)) = true) : readInv l i (j + 1) (n * 10 + (((byteAt l (i + j)).toNat : Int) - 48)) := by
  unfold readInv at h ⊢
  rw [show i + (j + 1) = (i + j) + 1 by omega, segL_snoc l i (i + j) (by omega) hk, digV_snoc, h]
  show (if isDig (byteAt l (i + j)) = true then _ else _) = _
  rw [if_pos hd]
  rfl
theorem readInv_bound {l : List UInt8} {i j : Nat} {n : Int} (h : readInv l i j n) (hj : j ≤ 9) (hk : i + j ≤ l.length) : 0 ≤ n ∧ n < 1000000000 := by
  have := digV_bound _ 0 n (by omega) h
  have hl : (segL l i (i + j)).length = j := by simp [segL]; omega
  rw [hl] at this
  have := pow_le9 hj
  omega
/-- The same, told by the place to be read next. -/
def readQ (l : List UInt8) (i q : Nat) (n : Int) : Prop := i ≤ q ∧ readInv l i (q - i) n
theorem readQ_start (l : List UInt8) (i : Nat) : readQ l i i 0 := ⟨Nat.le_refl _, by rw [Nat.sub_self]; exact readInv_start l i⟩
theorem readQ_hit {l : List UInt8} {i q : Nat} {n : Int} (h : readQ l i q n) (hk : q < l.length) (hd : isDig (byteAt l q) = true) : readQ l i (q + 1) (n * 10 + (((byteAt l q).toNat : Int) - 48)) := by
  obtain ⟨hq, h⟩ := h
  have e : i + (q - i) = q := by omega
  refine ⟨by omega, ?_⟩
  have := readInv_hit h (by rw [e]; exact hk) (by rw [e]; exact hd)
  rw [e] at this
  rw [show q + 1 - i = (q - i) + 1 by omega]
  exact this
theorem readQ_bound {l : List UInt8} {i q : Nat} {n : Int} (h : readQ l i q n) (hk : q ≤ l.length) (h9 : l.length ≤ i + 9) : 0 ≤ n ∧ n < 1000000000 :=
  readInv_bound h.2 (by omega) (by have := h.1; omega)
theorem body_drop (l : List UInt8) : bodyR l = l.drop (if negR l = true then 1 else 0) := by
  unfold bodyR; split <;> simp
theorem readInv_bad {l : List UInt8} {i j : Nat} {n : Int} (h : readInv l i j n) (hk : i + j < l.length) (hd : isDig (byteAt l (i + j)) = false) : digV 0 (l.drop i) = none := by
  have e : l.drop i = segL l i (i + j) ++ byteAt l (i + j) :: l.drop (i + j + 1) := by
    conv => lhs; rw [← List.take_append_drop j (l.drop i)]
    rw [List.drop_drop, drop_cons l (i + j) hk]
    simp [segL, byteAt]
  rw [e]
  exact digV_bad h hd
theorem readInv_end {l : List UInt8} {i j : Nat} {n : Int} (h : readInv l i j n) (hk : l.length = i + j) : digV 0 (l.drop i) = some n := by
  have e : segL l i (i + j) = l.drop i := by
    unfold segL
    rw [List.take_of_length_le]
    simp; omega
  rw [← e]; exact h
theorem readQ_bad {l : List UInt8} {i q : Nat} {n : Int} (h : readQ l i q n) (hk : q < l.length) (hd : isDig (byteAt l q) = false) : digV 0 (l.drop i) = none := by
  obtain ⟨hq, h⟩ := h
  have e : i + (q - i) = q := by omega
  exact readInv_bad h (by rw [e]; exact hk) (by rw [e]; exact hd)
theorem readQ_end {l : List UInt8} {i : Nat} {n : Int} (h : readQ l i l.length n) : digV 0 (l.drop i) = some n := by
  have := h.1
  exact readInv_end h.2 (by omega)
theorem negR_at (l : List UInt8) : negR l = (decide (1 ≤ l.length) && decide (byteAt l 0 = 45)) := by
  cases l with
  | nil => rfl
  | cons c r => simp [negR, byteAt]
/-- What l1Read answers, told by the place behind the sign. -/
theorem readO_short {l : List UInt8} {i : Nat} (hi : i = if negR l = true then 1 else 0) (h : l.length - i < 1 ∨ 9 < l.length - i) : readO l = none := by
  unfold readO
  rw [if_pos (by rw [body_drop, ← hi, List.length_drop]; exact h)]
theorem readO_bad {l : List UInt8} {i : Nat} (hi : i = if negR l = true then 1 else 0) (h : digV 0 (l.drop i) = none) : readO l = none := by
  unfold readO
  split
  · rfl
  · rw [body_drop, ← hi, h]
theorem readO_zero {l : List UInt8} {i : Nat} (hi : i = if negR l = true then 1 else 0) (hl : i < l.length) (h0 : byteAt l i = 48) (h1 : negR l = true ∨ 1 < l.length) : readO l = none := by
  unfold readO
  split
  · rfl
  · split
    · rfl
    · rw [if_pos]
      refine ⟨?_, h1⟩
      rw [body_drop, ← hi, List.head?_drop, List.getElem?_eq_getElem hl]
      have : byteAt l i = l[i] := by unfold byteAt; rw [List.getD_eq_getElem?_getD, List.getElem?_eq_getElem hl]; rfl
      rw [← this, h0]
theorem readO_ok {l : List UInt8} {i : Nat} {n : Int} (hi : i = if negR l = true then 1 else 0) (hl : i < l.length) (h9 : l.length - i ≤ 9) (h : digV 0 (l.drop i) = some n) (h0 : ¬ (byteAt l i = 48 ∧ (negR l = true ∨ 1 < l.length))) :
    readO l = some (if negR l = true then -n else n) := by
  unfold readO
  have e1 : (bodyR l).length = l.length - i := by rw [body_drop, ← hi, List.length_drop]
  have e2 : (bodyR l).head? = some (byteAt l i) := by
    rw [body_drop, ← hi, List.head?_drop, List.getElem?_eq_getElem hl]
    unfold byteAt; rw [List.getD_eq_getElem?_getD, List.getElem?_eq_getElem hl]; rfl
  have e3 : digV 0 (bodyR l) = some n := by rw [body_drop, ← hi]; exact h
  rw [if_neg (by rw [e1]; omega), e3]
  simp only
  rw [if_neg]
  rintro ⟨a, b⟩
  apply h0
  refine ⟨?_, b⟩
  rw [e2] at a
  simpa using a
end Go.Proofs.YtljamlgnobpjeaaDoor
