/- Plain facts for reading works: how many pieces, how long; what a deed's reading answers. -/
import Derived.Test.YtljamlgnobpjeaaDoorTextPlain
import Derived.Test.YtljamlgnobpjeaaDoorDeedSt
import Derived.Test.YtljamlgnobpjeaaDoorWorks
namespace Go.Proofs.YtljamlgnobpjeaaDoor
open Go.ChangeShapes Go.WideShapes Go.ChangeAt Go.RowKit

theorem cutK_count (b s : List UInt8) : ∀ i : Nat, (cutK b s i).1.length ≤ i
  | 0 => by simp [cutK]
  | i + 1 => by
    have ih := cutK_count b s i
    rw [cutK]
    split
    · simp only [List.length_append, List.length_cons, List.length_nil]; omega
    · omega
theorem cutL_len (b s : List UInt8) (hb : 2 ≤ b.length) : (cutL b s).length ≤ 1 ∨ (cutL b s).length ≤ s.length := by
  have := cutK_count b s (s.length + 1 - b.length)
  rw [cutL, List.length_append, List.length_cons, List.length_nil]
  omega
theorem join_part (b : List UInt8) : ∀ (ts : List (List UInt8)) (t : List UInt8), t ∈ ts → t.length ≤ (joinL b ts).length
  | [], t, h => by simp at h
  | [u], t, h => by simp at h; subst h; exact Nat.le_refl _
  | u :: v :: r, t, h => by
    rw [joinL_cons b u (by simp)]
    rcases List.mem_cons.1 h with rfl | h
    · simp only [List.length_append]; omega
    · have := join_part b (v :: r) t h
      simp only [List.length_append]; omega
theorem cutL_part (b s t : List UInt8) (h : t ∈ cutL b s) : t.length ≤ s.length := by
  have := join_part b (cutL b s) t h
  rwa [join_cut] at this
theorem getD_mem {α : Type} {l : List α} {i : Nat} (z : α) (h : i < l.length) : l.getD i z ∈ l := by
  rw [List.getD_eq_getElem?_getD, List.getElem?_eq_getElem h]
  exact List.getElem_mem h
theorem readC_len {t : List UInt8} {ds : List Dd} (h : readC t = some ds) : ds.length ≤ 1 ∨ ds.length ≤ t.length := by
  unfold readC at h
  split at h
  · simp only [Option.some.injEq] at h; subst h; simp
  · rw [seqO_len h]; exact cutL_len _ _ (by simp)
theorem seqO_getD {α β : Type} {f : α → Option β} (z : α) (y : β) : ∀ {l : List α} {ys : List β}, seqO f l = some ys → ∀ i, i < l.length → f (l.getD i z) = some (ys.getD i y)
  | [], ys, h, i, hi => by simp at hi
  | x :: r, ys, h, i, hi => by
    rw [seqO] at h
    split at h
    · cases h
    · rename_i y0 h0
      split at h
      · cases h
      · rename_i ys0 h1
        simp only [Option.some.injEq] at h
        subst h
        cases i with
        | zero => simpa using h0
        | succ i => simpa using seqO_getD z y h1 i (by simpa using hi)
theorem readV_S (l : List UInt8) : readV (fitS l) (gSk (splitL 32 l)) (gSp (splitL 32 l)) (gSv (splitL 32 l)) (gSg (splitL 32 l)) = .tuple #[dV (rdZ l), .bool (rdD l).isSome] := by
  unfold readV rdZ rdD
  cases fitS l <;> rfl
theorem readV_I (l : List UInt8) : readV (fitI l) (gIk l) (gIp l) (gIv l) (gIg l) = .tuple #[dV (rdZ l), .bool (rdD l).isSome] := by
  rw [← readV_S, fit_same]
  cases hf : fitI l
  · rfl
  · obtain ⟨a, b, c, d⟩ := guess_same hf
    rw [a, b, c, d]
theorem rdD_some {t : List UInt8} {b : Bool} (h : (rdD t).isSome = b) : if b = true then rdD t = some (rdZ t) else rdD t = none := by
  cases hq : rdD t with
  | none => rw [hq] at h; subst h; simp
  | some d => rw [hq] at h; subst h; simp [rdZ, hq]
theorem readW_bad {s : List UInt8} (h : readWo s = none) : readW s = none := by rw [readW, h]
theorem readWo_stop {s t : List UInt8} (h : t ∈ cutL [32, 124, 32] s) (hn : readC t = none) : readWo s = none := seqO_none hn h
theorem readC_stop {t p : List UInt8} (h0 : t ≠ [45]) (h : p ∈ cutL [59, 32] t) (hn : rdD p = none) : readC t = none := by
  rw [readC, if_neg h0]; exact seqO_none hn h
end Go.Proofs.YtljamlgnobpjeaaDoor
