/- Plain facts on Follows, as both loops go through the list. Nothing of the program. -/
import Derived.Test.YtgclnfhkjnomaaaOrderPlain
namespace Go.Proofs.Ytgclnfhkjnomaaa
open Go.RowKit

theorem fol_next {zs l : List Int} {k : Nat} {s : Int} (h : folK zs l k = some s) (hb : folB zs s (l.getD k 0) = true) : folK zs l (k + 1) = some (gAdd s (l.getD k 0)) := by
  conv => lhs; unfold folK
  rw [h]
  simp only
  rw [if_pos hb]
theorem fol_none {zs l : List Int} {k m : Nat} (h : folK zs l k = none) (hm : k ≤ m) : folK zs l m = none := by
  induction m with
  | zero => rw [show k = 0 by omega] at h; exact h
  | succ m ih =>
    by_cases e : k = m + 1
    · rw [← e]; exact h
    · unfold folK; rw [ih (by omega)]
theorem fol_bad {zs l : List Int} {k : Nat} {s : Int} (hk : k < l.length) (h : folK zs l k = some s) (hb : folB zs s (l.getD k 0) = false) : followsB zs l = false := by
  have h1 : folK zs l (k + 1) = none := by
    unfold folK
    rw [h]
    simp only
    rw [hb]; rfl
  unfold followsB
  rw [fol_none h1 (show k + 1 ≤ l.length by omega)]
  simp
theorem fol_end {zs l : List Int} {s : Int} (ht : webB zs = true) (hl : l.length = zs.length) (h : folK zs l l.length = some s) : followsB zs l = true := by
  unfold followsB
  rw [ht, h, hl]; simp
theorem fol_ok {n : Nat} {zs l : List Int} (hz : Web n zs) (k : Nat) : ∀ s, folK zs l k = some s → okB n s = true := by
  induction k with
  | zero => intro s h; simp only [folK, Option.some.injEq] at h; subst h; exact ok_zero hz.1
  | succ k ih =>
    intro s h
    unfold folK at h
    cases hs : folK zs l k with
    | none => rw [hs] at h; cases h
    | some t =>
      rw [hs] at h
      simp only at h
      split at h
      · rename_i hb
        simp only [Option.some.injEq] at h
        subst h
        unfold folB at hb
        rw [Bool.and_eq_true, Bool.and_eq_true] at hb
        have h1 := hb.1.1
        unfold inB at h1
        rw [decide_eq_true_eq, hz.2.1] at h1
        obtain ⟨m, hm⟩ : ∃ m : Nat, l.getD k 0 = m := ⟨(l.getD k 0).toNat, by omega⟩
        rw [hm]
        exact (ok_add (ih t hs) (show m < n by omega)).1
      · cases h
theorem folB_out {zs : List Int} {s k : Int} (h : inB k 0 ((zs.length : Int) - 1) = false) : folB zs s k = false := by unfold folB; rw [h]; rfl
theorem folB_in {zs : List Int} {s : Int} {m : Nat} (hm : m < zs.length) : folB zs s m = (!inSetB s m && (andI (zs.getD m 0) (gAdd s m) == 0)) := by
  unfold folB
  have : inB (m : Int) 0 ((zs.length : Int) - 1) = true := by unfold inB; rw [decide_eq_true_eq]; omega
  rw [this, show ((m : Int)).toNat = m from by omega]
  simp
end Go.Proofs.Ytgclnfhkjnomaaa
