/- Plain facts on sets as numbers: a set is gathered from its members, which rise; what is gathered from a list has just the list's numbers. -/
import Derived.Test.YtabafnfadophhaaPlain
namespace Go.Proofs.Ytabafnfadophhaa
open Go.RowKit

theorem bitB_nat (a i : Nat) (ha : a < 4096) : bitB (a : Int) (i : Int) = a.testBit i := by
  unfold bitB
  have hd : a / 2 ^ i ≤ a := Nat.div_le_self _ _
  have e : ((a : Int) / 2 ^ (i : Int).toNat) = ((a / 2 ^ i : Nat) : Int) := by simp
  rw [e, show (1 : Int) = ((1 : Nat) : Int) from rfl, i64_and_nat _ _ (by omega) (by omega), Nat.and_one_is_mod, Nat.testBit_eq_decide_div_mod_eq]
  generalize a / 2 ^ i % 2 = r
  rw [Bool.eq_iff_iff, beq_iff_eq, decide_eq_true_eq]
  omega
theorem inSetB_nat (a i : Nat) (ha : a < 4096) (hi : i < 12) : inSetB (a : Int) (i : Int) = a.testBit i := by
  have h1 : inB (i : Int) 0 11 = true := by unfold inB; simp; omega
  have h2 : inB (a : Int) 0 4095 = true := by unfold inB; simp; omega
  simp [inSetB, h1, h2, bitB_nat a i ha]
theorem gAdd_nat (a i : Nat) (ha : a < 4096) (hi : i < 12) : gAdd (a : Int) (i : Int) = ((a ||| 2 ^ i : Nat) : Int) := by
  have h1 : inB (i : Int) 0 11 = true := by unfold inB; simp; omega
  rw [gAdd_ok _ _ (by omega) h1, wrap64_pow _ (by omega) (by omega)]
  have hq : (2 : Nat) ^ i < 2 ^ 12 := Nat.pow_lt_pow_right (by omega) hi
  have e : ((2 : Int) ^ (i : Int).toNat) = ((2 ^ i : Nat) : Int) := by simp
  rw [e, i64_or_nat a _ (by omega) (by omega)]
theorem or_lt (a i : Nat) (ha : a < 4096) (hi : i < 12) : a ||| 2 ^ i < 4096 := by
  have hq : (2 : Nat) ^ i < 2 ^ 12 := Nat.pow_lt_pow_right (by omega) hi
  exact Nat.or_lt_two_pow (n := 12) ha hq
theorem fold_all (l : List Int) (h : ∀ x ∈ l, inB x 0 11 = true) (a : Nat) (ha : a < 4096) :
    ∃ b : Nat, b < 4096 ∧ l.foldl gAdd (a : Int) = b ∧ ∀ k : Nat, k < 12 → b.testBit k = (a.testBit k || decide ((k : Int) ∈ l)) := by
  induction l generalizing a with
  | nil => exact ⟨a, ha, rfl, by simp⟩
  | cons x l ih =>
    have hx := h x (by simp)
    have hx' := hx
    simp only [inB, decide_eq_true_eq] at hx'
    obtain ⟨i, rfl⟩ := Int.eq_ofNat_of_zero_le hx'.1
    have hi : i < 12 := by omega
    obtain ⟨b, hb, he, hk⟩ := ih (fun y hy => h y (by simp [hy])) (a ||| 2 ^ i) (or_lt a i ha hi)
    refine ⟨b, hb, ?_, fun k hk12 => ?_⟩
    · rw [List.foldl_cons, gAdd_nat a i ha hi]; exact he
    · rw [hk k hk12, Nat.testBit_or, Nat.testBit_two_pow, Bool.or_assoc]
      congr 1
      rw [Bool.eq_iff_iff, Bool.or_eq_true, decide_eq_true_eq, decide_eq_true_eq, decide_eq_true_eq, List.mem_cons]
      constructor
      · rintro (h | h)
        · exact .inl (by omega)
        · exact .inr h
      · rintro (h | h)
        · exact .inl (by omega)
        · exact .inr h
theorem fold_neg (l : List Int) (x : Int) (hx : x ∈ l) (h : inB x 0 11 = false) (s : Int) : l.foldl gAdd s = -1 := by
  induction l generalizing s with
  | nil => simp at hx
  | cons y l ih =>
    rw [List.foldl_cons]
    rcases List.mem_cons.1 hx with rfl | hx
    · rw [gAdd_bad _ _ h]; exact foldl_none l
    · exact ih hx _
theorem gath_has (l : List Int) (h : 0 ≤ gath l) (k : Nat) (hk : k < 12) : inSetB (gath l) (k : Int) = hasB (k : Int) l := by
  have hall : ∀ x ∈ l, inB x 0 11 = true := by
    intro x hx
    cases hb : inB x 0 11 with
    | true => rfl
    | false => have := fold_neg l x hx hb 0; unfold gath at h; omega
  obtain ⟨b, hb, he, hbit⟩ := fold_all l hall 0 (by omega)
  have e : gath l = (b : Int) := he
  rw [e, inSetB_nat b k hb hk, hbit k hk]
  simp [hasB]
theorem mem_iff (s : Int) (n : Nat) (x : Int) : x ∈ mem s n ↔ ∃ k : Nat, k < n ∧ x = k ∧ inSetB s k = true := by
  induction n with
  | zero => simp [mem]
  | succ n ih =>
    unfold mem
    rw [List.mem_append, ih]
    constructor
    · rintro (⟨k, hk, rfl, h⟩ | h)
      · exact ⟨k, by omega, rfl, h⟩
      · split at h
        · rename_i hs
          simp at h
          exact ⟨n, by omega, h, hs⟩
        · simp at h
    · rintro ⟨k, hk, rfl, h⟩
      by_cases hkn : k = n
      · subst hkn; right; simp [h]
      · exact .inl ⟨k, by omega, rfl, h⟩
theorem mem_rises (s : Int) (n : Nat) : (mem s n).Pairwise (· < ·) := by
  induction n with
  | zero => simp [mem]
  | succ n ih =>
    unfold mem
    rw [List.pairwise_append]
    refine ⟨ih, by split <;> simp, fun a ha b hb => ?_⟩
    obtain ⟨k, hk, rfl, _⟩ := (mem_iff s n a).1 ha
    split at hb
    · simp at hb; omega
    · simp at hb
theorem mem_step (s : Int) (n i : Nat) (h : i + 1 < (mem s n).length) : (mem s n).getD i 0 < (mem s n).getD (i + 1) 0 := by
  have := (List.pairwise_iff_getElem.1 (mem_rises s n)) i (i + 1) (by omega) h (by omega)
  rw [List.getD_eq_getElem?_getD, List.getD_eq_getElem?_getD, List.getElem?_eq_getElem h, List.getElem?_eq_getElem (show i < (mem s n).length by omega)]
  exact this
theorem gath_mem (s : Int) (h : inB s 0 4095 = true) : gath (mem s 12) = s := by
  simp only [inB, decide_eq_true_eq] at h
  obtain ⟨a, rfl⟩ := Int.eq_ofNat_of_zero_le h.1
  have ha : a < 4096 := by omega
  have hall : ∀ x ∈ mem (a : Int) 12, inB x 0 11 = true := by
    intro x hx
    obtain ⟨k, hk, rfl, _⟩ := (mem_iff _ _ _).1 hx
    unfold inB; simp; omega
  obtain ⟨b, hb, he, hbit⟩ := fold_all _ hall 0 (by omega)
  have e : gath (mem (a : Int) 12) = (b : Int) := he
  show gath (mem (a : Int) 12) = (a : Int)
  rw [e]
  have : b = a := by
    apply Nat.eq_of_testBit_eq
    intro k
    by_cases hk : k < 12
    · rw [hbit k hk, Nat.zero_testBit, Bool.false_or]
      rw [← inSetB_nat a k ha hk, Bool.eq_iff_iff, decide_eq_true_eq, mem_iff]
      constructor
      · rintro ⟨j, hj, he, h⟩; have : j = k := by omega
        subst this; exact h
      · intro h; exact ⟨k, hk, rfl, h⟩
    · have hp : (2 : Nat) ^ 12 ≤ 2 ^ k := Nat.pow_le_pow_right (by omega) (by omega)
      rw [Nat.testBit_lt_two_pow (by omega), Nat.testBit_lt_two_pow (by omega)]
  rw [this]
end Go.Proofs.Ytabafnfadophhaa
