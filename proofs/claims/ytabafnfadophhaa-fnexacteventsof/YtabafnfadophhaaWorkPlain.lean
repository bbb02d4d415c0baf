/- Plain mathematics of works: which lists of deeds are one, how many events it has. -/
import Derived.Test.YtabafnfadophhaaDeedPlain
namespace Go.Proofs.Ytabafnfadophhaa

/-- A deed as four numbers: its kind, place, value and group. -/
abbrev Dd := Int × Int × Int × Int
def zD : Dd := (0, 0, 0, 0)
def okD (d : Dd) : Bool := deedB d.1 d.2.1 d.2.2.1 d.2.2.2
def evD (d : Dd) : Int := if d.1 = 1 then 1 else if d.1 = 2 then 1 else if d.1 = 3 then 2 else 0
def evK (ds : List Dd) : Nat → Int
  | 0 => 0
  | k + 1 => evK ds k + evD (ds.getD k zD)
def evW (dss : List (List Dd)) : Nat → Int
  | 0 => 0
  | i + 1 => evW dss i + evK (dss.getD i []) (dss.getD i []).length
theorem evD_in (d : Dd) : 0 ≤ evD d ∧ evD d ≤ 2 := by
  unfold evD
  repeat' split
  all_goals omega
theorem evK_in (ds : List Dd) : ∀ k : Nat, 0 ≤ evK ds k ∧ evK ds k ≤ 2 * k
  | 0 => by simp [evK]
  | k + 1 => by have := evK_in ds k; have := evD_in (ds.getD k zD); rw [evK]; omega
/-- Whose a group is (0: nobody's), as the specification keeps it, behind k deeds of clerk i. -/
def grpK (i : Nat) (own : List Int) (ds : List Dd) : Nat → Option (List Int)
  | 0 => some own
  | k + 1 => match grpK i own ds k with
    | none => none
    | some o =>
      if (ds.getD k zD).2.2.2 = 0 then some o
      else if o.getD (ds.getD k zD).2.2.2.toNat 0 ≠ 0 ∧ (o.getD (ds.getD k zD).2.2.2.toNat 0 ≠ (i : Int) + 1 ∨ k = 0 ∨ (ds.getD (k - 1) zD).2.2.2 ≠ (ds.getD k zD).2.2.2) then none
      else some (o.set (ds.getD k zD).2.2.2.toNat ((i : Int) + 1))
def grpW (dss : List (List Dd)) : Nat → Option (List Int)
  | 0 => some (List.replicate 10 0)
  | i + 1 => match grpW dss i with
    | none => none
    | some o => grpK i o (dss.getD i []) (dss.getD i []).length
def grpB (dss : List (List Dd)) : Bool := (grpW dss dss.length).isSome
def lenW : List (List Dd) → Nat
  | [] => 0
  | d :: r => d.length + lenW r
def okL (ds : List Dd) : Bool := ds.all okD && decide (ds.length ≤ 5)
def workB (dss : List (List Dd)) : Bool :=
  decide (1 ≤ dss.length ∧ dss.length ≤ 3) && dss.all okL && decide (lenW dss ≤ 12) && decide (evW dss dss.length ≤ 6) && grpB dss
theorem grpK_none {i : Nat} {own : List Int} {ds : List Dd} {k : Nat} (h : grpK i own ds k = none) : ∀ n : Nat, k ≤ n → grpK i own ds n = none
  | 0, hn => by
    obtain rfl : k = 0 := by omega
    exact h
  | n + 1, hn => by
    by_cases e : k = n + 1
    · rw [← e]; exact h
    · rw [grpK, grpK_none h n (by omega)]
theorem grpW_none {dss : List (List Dd)} {i : Nat} (h : grpW dss i = none) : ∀ n : Nat, i ≤ n → grpW dss n = none
  | 0, hn => by
    obtain rfl : i = 0 := by omega
    exact h
  | n + 1, hn => by
    by_cases e : i = n + 1
    · rw [← e]; exact h
    · rw [grpW, grpW_none h n (by omega)]
theorem grpK_len {i : Nat} {own : List Int} {ds : List Dd} : ∀ {k : Nat} {o : List Int}, grpK i own ds k = some o → o.length = own.length
  | 0, o, h => by simp only [grpK, Option.some.injEq] at h; rw [← h]
  | k + 1, o, h => by
    rw [grpK] at h
    split at h
    · cases h
    · rename_i o' ho'
      have ih := grpK_len ho'
      split at h
      · simp only [Option.some.injEq] at h; rw [← h]; exact ih
      · split at h
        · cases h
        · simp only [Option.some.injEq] at h; rw [← h, List.length_set]; exact ih
theorem grpW_len {dss : List (List Dd)} : ∀ {i : Nat} {o : List Int}, grpW dss i = some o → o.length = 10
  | 0, o, h => by simp only [grpW, Option.some.injEq] at h; rw [← h]; simp
  | i + 1, o, h => by
    rw [grpW] at h
    split at h
    · cases h
    · rename_i o' ho'
      rw [grpK_len h]
      exact grpW_len ho'
theorem all_get {α : Type} {f : α → Bool} {l : List α} (z : α) (h : l.all f = true) (i : Nat) (hi : i < l.length) : f (l.getD i z) = true := by
  rw [List.getD_eq_getElem?_getD, List.getElem?_eq_getElem hi]
  exact List.all_eq_true.1 h _ (List.getElem_mem hi)
theorem all_of {α : Type} {f : α → Bool} {l : List α} (z : α) (h : ∀ i, i < l.length → f (l.getD i z) = true) : l.all f = true := by
  rw [List.all_eq_true]
  intro x hx
  obtain ⟨i, hi, rfl⟩ := List.getElem_of_mem hx
  have := h i hi
  rwa [List.getD_eq_getElem?_getD, List.getElem?_eq_getElem hi] at this
theorem all_not {α : Type} {f : α → Bool} {l : List α} (z : α) (i : Nat) (hi : i < l.length) (h : f (l.getD i z) = false) : l.all f = false := by
  cases hb : l.all f
  · rfl
  · rw [all_get z hb i hi] at h; cases h
end Go.Proofs.Ytabafnfadophhaa
