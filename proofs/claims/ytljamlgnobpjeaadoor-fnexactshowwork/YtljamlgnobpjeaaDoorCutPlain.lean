/- Plain mathematics of texts that are joined and cut. -/
import Derived.Test.YtljamlgnobpjeaaDoorReadPlain
namespace Go.Proofs.YtljamlgnobpjeaaDoor

/-- Texts with b between each two, as l1Words puts them. -/
def joinK (b : List UInt8) (ts : List (List UInt8)) : Nat → List UInt8
  | 0 => []
  | k + 1 => (if k = 0 then joinK b ts k else joinK b ts k ++ b) ++ ts.getD k []
def joinL (b : List UInt8) : List (List UInt8) → List UInt8
  | [] => []
  | [t] => t
  | t :: u :: r => t ++ b ++ joinL b (u :: r)
theorem joinL_cons (b t : List UInt8) {r : List (List UInt8)} (h : r ≠ []) : joinL b (t :: r) = t ++ b ++ joinL b r := by
  cases r with
  | nil => exact absurd rfl h
  | cons u r => rfl
theorem joinL_snoc (b t : List UInt8) : ∀ {r : List (List UInt8)}, r ≠ [] → joinL b (r ++ [t]) = joinL b r ++ b ++ t
  | [], h => absurd rfl h
  | [u], _ => by simp [joinL]
  | u :: v :: r, _ => by
    rw [List.cons_append, joinL_cons b u (by simp), joinL_snoc b t (r := v :: r) (by simp), joinL_cons b u (by simp)]
    simp
theorem take_moreL {α : Type} (l : List α) (k : Nat) (z : α) (h : k < l.length) : l.take (k + 1) = l.take k ++ [l.getD k z] := by
  rw [List.take_add_one, List.getElem?_eq_getElem h, List.getD_eq_getElem?_getD, List.getElem?_eq_getElem h]
  rfl
theorem joinK_take (b : List UInt8) (ts : List (List UInt8)) : ∀ k : Nat, k ≤ ts.length → joinK b ts k = joinL b (ts.take k)
  | 0, _ => by simp [joinK, joinL]
  | k + 1, h => by
    rw [joinK, joinK_take b ts k (by omega), take_moreL ts k [] (by omega)]
    by_cases h0 : k = 0
    · subst h0; simp [joinL]
    · rw [if_neg h0, joinL_snoc b _ (by
        intro e
        have := congrArg List.length e
        rw [List.length_take, List.length_nil] at this
        omega)]
/-- What l5Cut has behind i rounds: the pieces, and where the next one begins. -/
def cutK (b s : List UInt8) : Nat → List (List UInt8) × Nat
  | 0 => ([], 0)
  | i + 1 => if (cutK b s i).2 ≤ i ∧ (s.drop i).take b.length = b then ((cutK b s i).1 ++ [segL s (cutK b s i).2 i], i + b.length) else cutK b s i
def cutL (b s : List UInt8) : List (List UInt8) := (cutK b s (s.length + 1 - b.length)).1 ++ [s.drop (cutK b s (s.length + 1 - b.length)).2]
def flatB (b : List UInt8) (ts : List (List UInt8)) : List UInt8 := (ts.map (· ++ b)).flatten
theorem joinL_flat (b t : List UInt8) : ∀ ts : List (List UInt8), joinL b (ts ++ [t]) = flatB b ts ++ t
  | [] => by simp [joinL, flatB]
  | u :: r => by
    rw [List.cons_append, joinL_cons b u (by simp), joinL_flat b t r]
    simp [flatB]
theorem cutK_flat (b s : List UInt8) : ∀ i : Nat, (cutK b s i).2 ≤ i + b.length - 1 + 1 ∧ flatB b (cutK b s i).1 = s.take (cutK b s i).2
  | 0 => by simp [cutK, flatB]
  | i + 1 => by
    obtain ⟨h1, h2⟩ := cutK_flat b s i
    rw [cutK]
    split
    · rename_i h
      refine ⟨by simp only; omega, ?_⟩
      simp only [flatB, List.map_append, List.flatten_append] at h2 ⊢
      rw [h2]
      simp only [List.map_cons, List.map_nil, List.flatten_cons, List.flatten_nil, List.append_nil]
      rw [← List.append_assoc, segL]
      rw [show s.take (cutK b s i).2 ++ (s.drop (cutK b s i).2).take (i - (cutK b s i).2) = s.take i by
        rw [← List.take_add, show (cutK b s i).2 + (i - (cutK b s i).2) = i by omega]]
      conv => lhs; rw [← h.2]
      rw [← List.take_add]
    · exact ⟨by omega, h2⟩
/-- A text that was cut, joined again. -/
theorem join_cut (b s : List UInt8) : joinL b (cutL b s) = s := by
  rw [cutL, joinL_flat, (cutK_flat b s _).2, List.take_append_drop]
theorem cutL_ne (b s : List UInt8) : cutL b s ≠ [] := by simp [cutL]
theorem cutK_shift (b x r : List UInt8) (o : List (List UInt8)) (h : cutK b (x ++ r) x.length = (o, x.length)) :
    ∀ i : Nat, cutK b (x ++ r) (x.length + i) = (o ++ (cutK b r i).1, x.length + (cutK b r i).2)
  | 0 => by simp [h, cutK]
  | i + 1 => by
    have ih := cutK_shift b x r o h i
    rw [← Nat.add_assoc, cutK, ih, cutK]
    have e1 : (x ++ r).drop (x.length + i) = r.drop i := by rw [List.drop_append, List.drop_eq_nil_of_le (by omega), Nat.add_sub_cancel_left]; rfl
    rw [e1]
    by_cases hh : (cutK b r i).2 ≤ i ∧ (r.drop i).take b.length = b
    · rw [if_pos hh, if_pos ⟨by simp only; omega, hh.2⟩]
      simp only [Prod.mk.injEq]
      refine ⟨?_, by omega⟩
      have e2 : segL (x ++ r) (x.length + (cutK b r i).2) (x.length + i) = segL r (cutK b r i).2 i := by
        unfold segL
        rw [List.drop_append, List.drop_eq_nil_of_le (by omega), Nat.add_sub_cancel_left, show x.length + i - (x.length + (cutK b r i).2) = i - (cutK b r i).2 by omega]
        rfl
      rw [e2, List.append_assoc]
    · rw [if_neg hh, if_neg (by simp only; intro hc; exact hh ⟨by omega, hc.2⟩)]
theorem cutK_none (b s : List UInt8) : ∀ n : Nat, (∀ i, i < n → (s.drop i).take b.length ≠ b) → cutK b s n = ([], 0)
  | 0, _ => rfl
  | n + 1, h => by
    rw [cutK, cutK_none b s n (fun i hi => h i (by omega)), if_neg (fun hc => h n (by omega) hc.2)]
theorem cutK_wait (b s : List UInt8) (n : Nat) (o : List (List UInt8)) (f : Nat) (h : cutK b s n = (o, f)) : ∀ k : Nat, n + k ≤ f → cutK b s (n + k) = (o, f)
  | 0, _ => h
  | k + 1, hk => by
    rw [← Nat.add_assoc, cutK, cutK_wait b s n o f h k (by omega), if_neg (by simp only; omega)]
/-- The sign c, first met in b behind j others, is not in the text p: then b begins nowhere in p. -/
theorem no_hit {b p r : List UInt8} {c : UInt8} {j : Nat} (hj : b[j]? = some c) (hb : ∀ m, m < j → b[m]? ≠ some c) (hp : c ∉ p) (hr : r = [] ∨ ∃ r', r = b ++ r') :
    ∀ i, i < p.length → ((p ++ r).drop i).take b.length ≠ b := by
  intro i hi he
  have h1 : (((p ++ r).drop i).take b.length)[j]? = some c := by rw [he]; exact hj
  have hjl : j < b.length := (List.getElem?_eq_some_iff.1 hj).1
  rw [List.getElem?_take, if_pos hjl, List.getElem?_drop] at h1
  by_cases hlt : i + j < p.length
  · rw [List.getElem?_append_left hlt] at h1
    exact hp (List.mem_of_getElem? h1)
  · rw [List.getElem?_append_right (by omega)] at h1
    rcases hr with rfl | ⟨r', rfl⟩
    · simp at h1
    · rw [List.getElem?_append_left (by omega)] at h1
      exact hb _ (by omega) h1
/-- Texts that were joined, cut again. -/
theorem cut_join {b : List UInt8} {c : UInt8} {j : Nat} (hj : b[j]? = some c) (hb : ∀ m, m < j → b[m]? ≠ some c) : ∀ {ts : List (List UInt8)}, ts ≠ [] → (∀ t, t ∈ ts → c ∉ t) → cutL b (joinL b ts) = ts
  | [], h, _ => absurd rfl h
  | [t], _, ht => by
    have hp := ht t (by simp)
    have hjl : j < b.length := (List.getElem?_eq_some_iff.1 hj).1
    have h0 := no_hit hj hb hp (.inl rfl)
    rw [List.append_nil] at h0
    rw [joinL, cutL, cutK_none b t _ (fun i hi => h0 i (by omega))]
    simp
  | t :: u :: r, _, ht => by
    have hp := ht t (by simp)
    have hjl : j < b.length := (List.getElem?_eq_some_iff.1 hj).1
    have ih := cut_join hj hb (ts := u :: r) (by simp) (fun x hx => ht x (by simp only [List.mem_cons] at hx ⊢; exact .inr hx))
    rw [joinL_cons b t (by simp)]
    obtain ⟨R, hR⟩ : ∃ R, R = joinL b (u :: r) := ⟨_, rfl⟩
    rw [← hR] at ih ⊢
    have h0 := cutK_none b (t ++ b ++ R) t.length (by rw [List.append_assoc]; exact no_hit hj hb hp (.inr ⟨R, rfl⟩))
    have h1 : cutK b (t ++ b ++ R) (t.length + 1) = ([t], t.length + b.length) := by
      rw [cutK, h0, if_pos ⟨by simp, by simp⟩]
      simp [segL]
    have h2 := cutK_wait b (t ++ b ++ R) (t.length + 1) [t] (t.length + b.length) h1 (b.length - 1) (by omega)
    rw [show t.length + 1 + (b.length - 1) = (t ++ b).length by simp; omega] at h2
    rw [show t.length + b.length = (t ++ b).length by simp] at h2
    have h3 := cutK_shift b (t ++ b) R [t] h2 (R.length + 1 - b.length)
    by_cases hl : b.length ≤ R.length + 1
    · rw [cutL, show (t ++ b ++ R).length + 1 - b.length = (t ++ b).length + (R.length + 1 - b.length) by simp; omega, h3]
      simp only
      rw [show (t ++ b ++ R).drop ((t ++ b).length + (cutK b R (R.length + 1 - b.length)).2) = R.drop (cutK b R (R.length + 1 - b.length)).2 by
        rw [List.drop_append, List.drop_eq_nil_of_le (by omega), Nat.add_sub_cancel_left]; rfl]
      rw [List.append_assoc, ← cutL, ih]
      rfl
    · have h4 := cutK_wait b (t ++ b ++ R) (t.length + 1) [t] (t.length + b.length) h1 R.length (by omega)
      have h5 : R.length + 1 - b.length = 0 := by omega
      have h6 : cutL b R = [R] := by rw [cutL, h5]; simp [cutK]
      rw [cutL, show (t ++ b ++ R).length + 1 - b.length = t.length + 1 + R.length by simp; omega, h4]
      simp only
      rw [show t.length + b.length = (t ++ b).length by simp, List.drop_left, ← ih, h6]
      rfl
end Go.Proofs.YtljamlgnobpjeaaDoor
