/- Plain mathematics of l1Split's loop: what it has gathered, and what is left to do. -/
import Derived.Test.YtljamlgnobpjeaaDoorDeedPlain
namespace Go.Proofs.YtljamlgnobpjeaaDoor

def segL (l : List UInt8) (f k : Nat) : List UInt8 := (l.drop f).take (k - f)
def splitInv (b : UInt8) (l : List UInt8) (ws : List (List UInt8)) (f k : Nat) : Prop :=
  (k ≤ l.length ∧ f ≤ k ∧ ws ++ joinHead (segL l f k) (splitL b (l.drop k)) = splitL b l) ∨ (k = l.length + 1 ∧ ws = splitL b l)
theorem splitInv_start (b : UInt8) (l : List UInt8) : splitInv b l [] 0 0 := by
  refine .inl ⟨Nat.zero_le _, Nat.le_refl _, ?_⟩
  simp [segL, joinHead_nil _ (splitL_ne b l)]
theorem segL_snoc (l : List UInt8) (f k : Nat) (hf : f ≤ k) (hk : k < l.length) : segL l f (k + 1) = segL l f k ++ [l.getD k 0] := by
  unfold segL
  rw [show k + 1 - f = (k - f) + 1 by omega, List.take_add_one, List.getElem?_drop, show f + (k - f) = k by omega, List.getElem?_eq_getElem hk]
  simp [List.getD_eq_getElem?_getD, List.getElem?_eq_getElem hk]
theorem drop_cons (l : List UInt8) (k : Nat) (hk : k < l.length) : l.drop k = l.getD k 0 :: l.drop (k + 1) := by
  rw [List.drop_eq_getElem_cons hk]
  simp [List.getD_eq_getElem?_getD, List.getElem?_eq_getElem hk]
theorem splitInv_miss {b : UInt8} {l : List UInt8} {ws : List (List UInt8)} {f k : Nat} (h : splitInv b l ws f k) (hk : k < l.length) (hb : ¬ l.getD k 0 = b) : splitInv b l ws f (k + 1) := by
  rcases h with ⟨_, hf, he⟩ | ⟨hk', _⟩
  · refine .inl ⟨hk, by omega, ?_⟩
    rw [← he, drop_cons l k hk, segL_snoc l f k hf hk]
    congr 1
    conv => rhs; rw [splitL]
    rw [if_neg hb, joinHead_join]
  · omega
theorem splitInv_hit {b : UInt8} {l : List UInt8} {ws : List (List UInt8)} {f k : Nat} (h : splitInv b l ws f k) (hk : k < l.length) (hb : l.getD k 0 = b) : splitInv b l (ws ++ [segL l f k]) (k + 1) (k + 1) := by
  rcases h with ⟨_, hf, he⟩ | ⟨hk', _⟩
  · refine .inl ⟨hk, Nat.le_refl _, ?_⟩
    have e1 : segL l (k + 1) (k + 1) = [] := by simp [segL]
    rw [← he, drop_cons l k hk, e1, joinHead_nil _ (splitL_ne b _)]
    conv => rhs; rw [splitL]
    rw [if_pos hb]
    simp [joinHead]
  · omega
theorem splitInv_last {b : UInt8} {l : List UInt8} {ws : List (List UInt8)} {f : Nat} (h : splitInv b l ws f l.length) : splitInv b l (ws ++ [segL l f l.length]) (l.length + 1) (l.length + 1) := by
  rcases h with ⟨_, hf, he⟩ | ⟨hk', _⟩
  · refine .inr ⟨rfl, ?_⟩
    rw [← he]
    simp [splitL, joinHead]
  · omega
theorem splitInv_end {b : UInt8} {l : List UInt8} {ws : List (List UInt8)} {f k : Nat} (h : splitInv b l ws f k) (hk : l.length < k) : ws = splitL b l := by
  rcases h with ⟨hk', _⟩ | ⟨_, he⟩
  · omega
  · exact he
theorem splitInv_from {b : UInt8} {l : List UInt8} {ws : List (List UInt8)} {f k : Nat} (h : splitInv b l ws f k) (hk : k ≤ l.length) : f ≤ k := by
  rcases h with ⟨_, hf, _⟩ | ⟨hk', _⟩
  · exact hf
  · omega
theorem splitL_len (b : UInt8) : ∀ l : List UInt8, (splitL b l).length ≤ l.length + 1
  | [] => by simp [splitL]
  | c :: r => by
    have ih := splitL_len b r
    unfold splitL
    split
    · simp; omega
    · cases h : splitL b r with
      | nil => simp [joinHead]
      | cons y ys => rw [h] at ih; simp [joinHead] at ih ⊢; omega
theorem splitL_word (b : UInt8) : ∀ (l : List UInt8) (x : List UInt8), x ∈ splitL b l → x.length ≤ l.length
  | [], x, h => by simp [splitL] at h; subst h; simp
  | c :: r, x, h => by
    unfold splitL at h
    split at h
    · rcases List.mem_cons.1 h with rfl | h
      · simp
      · have := splitL_word b r x h; simp; omega
    · cases hs : splitL b r with
      | nil => exact absurd hs (splitL_ne b r)
      | cons y ys =>
        rw [hs] at h
        simp only [joinHead, List.mem_cons] at h
        rcases h with rfl | h
        · have := splitL_word b r y (by rw [hs]; simp)
          simp; omega
        · have := splitL_word b r x (by rw [hs]; simp [h])
          simp; omega
end Go.Proofs.YtljamlgnobpjeaaDoor
