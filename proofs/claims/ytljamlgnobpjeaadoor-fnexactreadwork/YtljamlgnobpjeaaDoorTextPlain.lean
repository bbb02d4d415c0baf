/- Plain mathematics of the program's cuts: at most so many pieces, each read as a deed or left as none; that what is read so is what the specification reads. -/
import Derived.Test.YtljamlgnobpjeaaDoorWorkText
import Derived.Lib.SplitLaws
import Derived.Lib.IndexMore
import Derived.Lib.Join
namespace Go.Proofs.YtljamlgnobpjeaaDoor

theorem cut_one {b s : List UInt8} (h : ∀ j, j < s.length + 1 - b.length → (s.drop j).take b.length ≠ b) : cutL b s = [s] := by
  rw [cutL, cutK_none b s _ h]; simp
theorem cut_step {b t R : List UInt8} (hb : 0 < b.length) (h : ∀ j, j < t.length → ((t ++ b ++ R).drop j).take b.length ≠ b) : cutL b (t ++ b ++ R) = t :: cutL b R := by
  have h0 := cutK_none b (t ++ b ++ R) t.length h
  have h1 : cutK b (t ++ b ++ R) (t.length + 1) = ([t], t.length + b.length) := by
    rw [cutK, h0, if_pos ⟨by simp, by simp⟩]
    simp [segL]
  have h2 := cutK_wait b (t ++ b ++ R) (t.length + 1) [t] (t.length + b.length) h1 (b.length - 1) (by omega)
  rw [show t.length + 1 + (b.length - 1) = (t ++ b).length by simp; omega] at h2
  rw [show t.length + b.length = (t ++ b).length by simp] at h2
  have h3 := cutK_shift b (t ++ b) R [t] h2 (R.length + 1 - b.length)
  by_cases hl : b.length ≤ R.length + 1
  · rw [cutL, show (t ++ b ++ R).length + 1 - b.length = (t ++ b).length + (R.length + 1 - b.length) by simp; omega, h3]
    simp only
    rw [show (t ++ b ++ R).drop ((t ++ b).length + (cutK b R (R.length + 1 - b.length)).2) = R.drop (cutK b R (R.length + 1 - b.length)).2 by
      rw [List.drop_append, List.drop_eq_nil_of_le (by omega), Nat.add_sub_cancel_left]; rfl]
    rw [List.append_assoc, ← cutL]
    rfl
  · have h4 := cutK_wait b (t ++ b ++ R) (t.length + 1) [t] (t.length + b.length) h1 R.length (by omega)
    have h5 : R.length + 1 - b.length = 0 := by omega
    have h6 : cutL b R = [R] := by rw [cutL, h5]; simp [cutK]
    rw [cutL, show (t ++ b ++ R).length + 1 - b.length = t.length + 1 + R.length by simp; omega, h4]
    simp only
    rw [show t.length + b.length = (t ++ b).length by simp, List.drop_left, h6]
    rfl
theorem occ_take {s b : List UInt8} {j : Nat} : Lib.occAt s b j = true ↔ (s.drop j).take b.length = b := by
  unfold Lib.occAt
  rw [List.isPrefixOf_iff_prefix, List.prefix_iff_eq_take]
  exact ⟨fun h => h.symm, fun h => h.symm⟩
theorem cut_miss {b s : List UInt8} (h : Lib.index s b = -1) : cutL b s = [s] := by
  rcases Lib.index_spec s b with ⟨_, hn⟩ | ⟨i, hi, _⟩
  · refine cut_one (fun j hj => ?_)
    by_cases hl : j ≤ s.length
    · intro e
      have := hn j hl
      rw [occ_take.2 e] at this
      cases this
    · omega
  · omega
theorem cut_hit {b s : List UInt8} {i : Nat} (hb : 0 < b.length) (h : Lib.index s b = (i : Int)) : i + b.length ≤ s.length ∧ cutL b s = s.take i :: cutL b (s.drop (i + b.length)) := by
  rcases Lib.index_spec s b with ⟨hm, _⟩ | ⟨i', hi, hl, ho, hno⟩
  · omega
  · obtain rfl : i' = i := by omega
    have hroom := Lib.index_room s b (by omega)
    have hr : i' + b.length ≤ s.length := by omega
    refine ⟨hr, ?_⟩
    have e : s = s.take i' ++ b ++ s.drop (i' + b.length) := by
      have h1 := occ_take.1 ho
      conv => lhs; rw [← List.take_append_drop i' s]
      rw [List.append_assoc]
      congr 1
      conv => lhs; rw [← List.take_append_drop b.length (s.drop i')]
      rw [h1, List.drop_drop]
    have h2 := cut_step (b := b) (t := s.take i') (R := s.drop (i' + b.length)) hb (by
      intro j hj
      rw [← e]
      have hj' : j < i' := by rw [List.length_take] at hj; omega
      intro e2
      have := hno j hj'
      rw [occ_take.2 e2] at this
      cases this)
    rw [← e] at h2
    exact h2
theorem split_all {b : List UInt8} (hb : 0 < b.length) : ∀ (k : Nat) (s : List UInt8), s.length ≤ k → Lib.splitK b 0 k s = cutL b s
  | 0, s, h => by
    have : s = [] := List.eq_nil_of_length_eq_zero (by omega)
    subst this
    rw [cut_one (by intro j hj; simp at hj; omega)]
    rfl
  | k + 1, s, h => by
    rw [Lib.splitK]
    split
    · rename_i hm
      rw [cut_miss (by simpa using hm)]
    · rename_i hm
      have hge := Lib.index_ge s b
      have hne : Lib.index s b ≠ -1 := by simpa using hm
      obtain ⟨i, hi⟩ : ∃ i : Nat, Lib.index s b = (i : Int) := ⟨(Lib.index s b).toNat, by omega⟩
      obtain ⟨hr, hc⟩ := cut_hit hb hi
      rw [hc, hi, Int.toNat_natCast, Nat.add_zero, split_all hb k _ (by rw [List.length_drop]; omega)]
theorem split_some {b : List UInt8} (hb : 0 < b.length) : ∀ (k : Nat) (s : List UInt8), ((Lib.splitK b 0 k s).length ≤ k → Lib.splitK b 0 k s = cutL b s) ∧ (Lib.splitK b 0 k s).length ≤ k + 1 ∧ (k < (Lib.splitK b 0 k s).length → k < (cutL b s).length)
  | 0, s => by
    refine ⟨fun h => by simp [Lib.splitK] at h, by simp [Lib.splitK], fun _ => ?_⟩
    exact List.length_pos_iff.2 (cutL_ne b s)
  | k + 1, s => by
    rw [Lib.splitK]
    split
    · rename_i hm
      rw [cut_miss (by simpa using hm)]
      exact ⟨fun _ => rfl, by simp, fun h => h⟩
    · rename_i hm
      have hge := Lib.index_ge s b
      have hne : Lib.index s b ≠ -1 := by simpa using hm
      obtain ⟨i, hi⟩ : ∃ i : Nat, Lib.index s b = (i : Int) := ⟨(Lib.index s b).toNat, by omega⟩
      obtain ⟨hr, hc⟩ := cut_hit hb hi
      obtain ⟨i1, i2, i3⟩ := split_some hb k (s.drop (i + b.length))
      rw [hc, hi, Int.toNat_natCast, Nat.add_zero]
      simp only [List.length_cons]
      refine ⟨fun h => by rw [i1 (by omega)], by omega, fun h => by have := i3 (by omega); omega⟩
theorem splitN_cut {b : List UInt8} (hb : 0 < b.length) {n : Nat} (hn : 0 < n) (s : List UInt8) : (Lib.splitN s b n).length ≤ n ∧ ((Lib.splitN s b n).length < n → Lib.splitN s b n = cutL b s) ∧ ((Lib.splitN s b n).length = n → n ≤ (cutL b s).length) := by
  unfold Lib.splitN
  by_cases h : n ≤ s.length + 1
  · rw [Nat.min_eq_left h]
    obtain ⟨i1, i2, i3⟩ := split_some hb (n - 1) s
    exact ⟨by omega, fun h => i1 (by omega), fun h => by have := i3 (by omega); omega⟩
  · rw [Nat.min_eq_right (by omega), Nat.add_sub_cancel]
    have e := split_all hb s.length s (Nat.le_refl _)
    obtain ⟨i1, i2, i3⟩ := split_some hb s.length s
    rw [e] at i2 ⊢
    exact ⟨by omega, fun _ => rfl, fun h => by omega⟩
theorem splitK_le (b : List UInt8) : ∀ (k : Nat) (s p : List UInt8), p ∈ Lib.splitK b 0 k s → p.length ≤ s.length
  | 0, s, p, h => by simp [Lib.splitK] at h; subst h; exact Nat.le_refl _
  | k + 1, s, p, h => by
    rw [Lib.splitK] at h
    split at h
    · simp at h; subst h; exact Nat.le_refl _
    · rcases List.mem_cons.1 h with rfl | h
      · rw [List.length_take]; omega
      · have := splitK_le b k _ p h
        rw [List.length_drop] at this
        omega
theorem seqO_len {α β : Type} {f : α → Option β} : ∀ {l : List α} {ys : List β}, seqO f l = some ys → ys.length = l.length
  | [], ys, h => by simp only [seqO, Option.some.injEq] at h; subst h; rfl
  | z :: r, ys, h => by
    rw [seqO] at h
    split at h
    · cases h
    · split at h
      · cases h
      · rename_i h1
        simp only [Option.some.injEq] at h
        subst h
        rw [List.length_cons, List.length_cons, seqO_len h1]
theorem seqO_at {α β : Type} {f : α → Option β} {g : α → β} (hg : ∀ x y, f x = some y → g x = y) : ∀ {l : List α} {ys : List β}, seqO f l = some ys → ys = l.map g
  | [], ys, h => by simp only [seqO, Option.some.injEq] at h; subst h; rfl
  | z :: r, ys, h => by
    rw [seqO] at h
    split at h
    · cases h
    · rename_i y0 h0
      split at h
      · cases h
      · rename_i ys0 h1
        simp only [Option.some.injEq] at h
        subst h
        rw [List.map_cons, hg _ _ h0, seqO_at hg h1]
theorem seqO_map {α β : Type} {f : α → Option β} {g : α → β} : ∀ {l : List α}, (∀ x, x ∈ l → f x = some (g x)) → seqO f l = some (l.map g)
  | [], _ => rfl
  | z :: r, h => by
    rw [seqO, h z (by simp), seqO_map (fun x hx => h x (by simp [hx]))]
    rfl
theorem seqO_each {α β : Type} {f : α → Option β} : ∀ {l : List α} {ys : List β}, seqO f l = some ys → ∀ x, x ∈ l → ∃ y, y ∈ ys ∧ f x = some y
  | [], ys, h, x, hx => by simp at hx
  | z :: r, ys, h, x, hx => by
    rw [seqO] at h
    split at h
    · cases h
    · rename_i y0 h0
      split at h
      · cases h
      · rename_i ys0 h1
        simp only [Option.some.injEq] at h
        subst h
        rcases List.mem_cons.1 hx with rfl | hx
        · exact ⟨y0, by simp, h0⟩
        · obtain ⟨y, hy, e⟩ := seqO_each h1 x hx
          exact ⟨y, by simp [hy], e⟩
/-- A deed that is read, or the zero one. -/
def rdZ (t : List UInt8) : Dd := match rdD t with
  | some d => d
  | none => zD
def readP (t : List UInt8) : List Dd := if t = [45] then [] else (Lib.splitN t [59, 32] 6).map rdZ
def readWP (s : List UInt8) : List (List Dd) := (Lib.splitN s [32, 124, 32] 4).map readP
theorem zD_bad : okD zD = false := by decide
theorem rdZ_of {t : List UInt8} {d : Dd} (h : rdD t = some d) : rdZ t = d := by rw [rdZ, h]
theorem rdZ_ok {t : List UInt8} (h : okD (rdZ t) = true) : rdD t = some (rdZ t) := by
  cases hq : rdD t with
  | none => rw [rdZ, hq] at h; rw [zD_bad] at h; cases h
  | some d => rw [rdZ_of hq]
theorem readP_ok {t : List UInt8} (h : okL (readP t) = true) : readC t = some (readP t) := by
  by_cases h0 : t = [45]
  · rw [readC, readP, if_pos h0, if_pos h0]
  · rw [readP, if_neg h0] at h ⊢
    rw [readC, if_neg h0]
    obtain ⟨i1, i2, i3⟩ := splitN_cut (b := [59, 32]) (by simp) (n := 6) (by omega) t
    simp only [okL, Bool.and_eq_true, decide_eq_true_eq, List.length_map] at h
    rw [i2 (by omega)] at h ⊢
    refine seqO_map (fun x hx => rdZ_ok ?_)
    exact List.all_eq_true.1 h.1 _ (List.mem_map.2 ⟨x, hx, rfl⟩)
theorem readP_of {t : List UInt8} {ds : List Dd} (h : readC t = some ds) (hk : okL ds = true) : readP t = ds := by
  by_cases h0 : t = [45]
  · rw [readC, if_pos h0] at h
    rw [readP, if_pos h0]
    exact Option.some.inj h
  · rw [readC, if_neg h0] at h
    rw [readP, if_neg h0]
    obtain ⟨i1, i2, i3⟩ := splitN_cut (b := [59, 32]) (by simp) (n := 6) (by omega) t
    have hl := seqO_len h
    simp only [okL, Bool.and_eq_true, decide_eq_true_eq] at hk
    have : (Lib.splitN t [59, 32] 6).length ≠ 6 := fun e => by have := i3 e; omega
    rw [i2 (by omega)]
    exact (seqO_at (fun _ _ => rdZ_of) h).symm
theorem workB_okL {dss : List (List Dd)} (h : workB dss = true) : dss.length ≤ 3 ∧ ∀ ds, ds ∈ dss → okL ds = true := by
  simp only [workB, Bool.and_eq_true, decide_eq_true_eq] at h
  obtain ⟨⟨⟨⟨h1, h2⟩, _⟩, _⟩, _⟩ := h
  exact ⟨h1.2, fun ds hd => List.all_eq_true.1 h2 ds hd⟩
/-- What the program reads is what the specification reads. -/
theorem readW_same (s : List UInt8) : readW s = if workB (readWP s) = true then some (readWP s) else none := by
  obtain ⟨i1, i2, i3⟩ := splitN_cut (b := [32, 124, 32]) (by simp) (n := 4) (by omega) s
  by_cases hw : workB (readWP s) = true
  · rw [if_pos hw]
    obtain ⟨l3, hok⟩ := workB_okL hw
    have hlt : (Lib.splitN s [32, 124, 32] 4).length < 4 := by rw [readWP, List.length_map] at l3; omega
    have e : readWo s = some (readWP s) := by
      rw [readWo, readWP, i2 hlt]
      refine seqO_map (fun x hx => readP_ok (hok _ ?_))
      rw [readWP, i2 hlt]
      exact List.mem_map.2 ⟨x, hx, rfl⟩
    rw [readW, e]
    simp only
    rw [if_pos hw]
  · rw [if_neg hw]
    cases hq : readWo s with
    | none => rw [readW, hq]
    | some x =>
      rw [readW, hq]
      simp only
      by_cases hx : workB x = true
      · exfalso
        obtain ⟨l3, hok⟩ := workB_okL hx
        have hl := seqO_len hq
        have hlt : (Lib.splitN s [32, 124, 32] 4).length < 4 := by
          have : (Lib.splitN s [32, 124, 32] 4).length ≠ 4 := fun e => by have := i3 e; omega
          omega
        apply hw
        have e : readWP s = x := by
          rw [readWP, i2 hlt]
          have h1 : seqO readC (cutL [32, 124, 32] s) = some ((cutL [32, 124, 32] s).map readP) := by
            refine seqO_map (fun t ht => ?_)
            obtain ⟨y, hy, e⟩ := seqO_each hq t ht
            rw [e, readP_of e (hok y hy)]
          exact Option.some.inj (h1.symm.trans hq)
        rw [e]; exact hx
      · rw [if_neg hx]
theorem join_same (b : List UInt8) : ∀ ts : List (List UInt8), Lib.join ts b = joinL b ts
  | [] => rfl
  | [t] => by rw [Lib.join_one]; rfl
  | t :: u :: r => by
    have ih := join_same b (u :: r)
    rw [joinL_cons b t (by simp), ← ih, Lib.join_cons, Lib.join_cons, Lib.joinTail, Lib.joinTail]
    simp
end Go.Proofs.YtljamlgnobpjeaaDoor
