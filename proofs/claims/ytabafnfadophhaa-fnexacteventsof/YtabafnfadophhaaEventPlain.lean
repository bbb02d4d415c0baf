/- Plain mathematics of events: which ones a work has, and what the law on them asks. -/
import Derived.Test.YtabafnfadophhaaWorkPlain
namespace Go.Proofs.Ytabafnfadophhaa

/-- An event: clerk, deed, does it read, place, value, class. -/
abbrev Ev := Int × Int × Bool × Int × Int × Int
def zE : Ev := (0, 0, false, 0, 0, 0)
def csE (e : Ev) : Int := e.2.2.2.2.2
def evBeg : List Ev := [(-1, -1, false, 0, 0, 0), (-1, -1, false, 1, 0, 1), (-1, -1, false, 2, 0, 2)]
/-- The events of one deed (none of a wait). -/
def oneE (i k : Nat) (d : Dd) (c : Int) : List Ev :=
  if d.1 = 4 then [] else if d.1 = 3 then [((i : Int), (k : Int), true, d.2.1, 0, c), ((i : Int), (k : Int), false, d.2.1, d.2.2.1, c)]
  else if d.1 = 2 then [((i : Int), (k : Int), false, d.2.1, d.2.2.1, c)] else [((i : Int), (k : Int), true, d.2.1, 0, c)]
/-- Where a Group began (0: nowhere yet), once one more deed is met. -/
def fstE (g : Int) (at0 : Nat) (f : List Int) : List Int := if 0 < g ∧ f.getD g.toNat 0 = 0 then f.set g.toNat (at0 : Int) else f
def clsE (g : Int) (at0 : Nat) (f : List Int) : Int := if 0 < g then (fstE g at0 f).getD g.toNat 0 else (at0 : Int)
def stepE (i k : Nat) (d : Dd) (s : List Ev × List Int) : List Ev × List Int :=
  if d.1 = 4 then s else (s.1 ++ oneE i k d (clsE d.2.2.2 s.1.length s.2), fstE d.2.2.2 s.1.length s.2)
def clkE (i : Nat) (ds : List Dd) (out : List Ev) : Nat → List Ev × List Int
  | 0 => (out, List.replicate 10 0)
  | k + 1 => stepE i k (ds.getD k zD) (clkE i ds out k)
def evsW (dss : List (List Dd)) : Nat → List Ev
  | 0 => evBeg
  | i + 1 => (clkE i (dss.getD i []) (evsW dss i) (dss.getD i []).length).1
def eventsB (dss : List (List Dd)) : List Ev := if workB dss = true then evsW dss dss.length else []
theorem oneE_len (i k : Nat) (d : Dd) (c : Int) (h : d.1 = 1 ∨ d.1 = 2 ∨ d.1 = 3 ∨ d.1 = 4) : ((oneE i k d c).length : Int) = evD d := by
  unfold oneE evD
  rcases h with h | h | h | h <;> simp [h]
theorem okD_kindE {d : Dd} (h : okD d = true) : d.1 = 1 ∨ d.1 = 2 ∨ d.1 = 3 ∨ d.1 = 4 := by
  simp [okD, deedB] at h
  omega
theorem okD_restE {d : Dd} (h : okD d = true) : 0 ≤ d.2.1 ∧ d.2.1 ≤ 2 ∧ 0 ≤ d.2.2.2 ∧ d.2.2.2 ≤ 9 ∧ (2 < d.1 → d.2.2.2 = 0) := by
  simp [okD, deedB] at h
  omega
theorem clkE_len {i : Nat} {ds : List Dd} {out : List Ev} (hok : ∀ j, j < ds.length → okD (ds.getD j zD) = true) : ∀ k : Nat, k ≤ ds.length → ((clkE i ds out k).1.length : Int) = out.length + evK ds k
  | 0, _ => by simp [clkE, evK]
  | k + 1, h => by
    have ih := clkE_len (i := i) (out := out) hok k (by omega)
    have hk := okD_kindE (hok k (by omega))
    rw [clkE, stepE, evK]
    split
    · rename_i h4
      rw [ih]
      unfold evD
      rw [h4]
      simp
    · have := oneE_len i k (ds.getD k zD) (clsE (ds.getD k zD).2.2.2 (clkE i ds out k).1.length (clkE i ds out k).2) hk
      rw [List.length_append]
      omega
theorem evsW_len {dss : List (List Dd)} (hok : ∀ i, i < dss.length → okL (dss.getD i []) = true) : ∀ n : Nat, n ≤ dss.length → ((evsW dss n).length : Int) = 3 + evW dss n
  | 0, _ => by simp [evsW, evBeg, evW]
  | n + 1, h => by
    have ih := evsW_len hok n (by omega)
    have hn := hok n (by omega)
    simp only [okL, Bool.and_eq_true, decide_eq_true_eq] at hn
    rw [evsW, clkE_len (fun j hj => all_get zD hn.1 j hj) _ (Nat.le_refl _), ih, evW]
    omega
/-- What the law asks of the event number j. -/
def GoodE (dss : List (List Dd)) (out : List Ev) (j : Nat) : Prop :=
  ∃ (i k c : Nat) (rd : Bool) (vl : Int), out[j]? = some ((i : Int), (k : Int), rd, ((dss.getD i []).getD k zD).2.1, vl, (c : Int)) ∧ i < dss.length ∧ k < (dss.getD i []).length ∧
    (rd = true → vl = 0) ∧ (rd = false → vl = ((dss.getD i []).getD k zD).2.2.1) ∧ c ≤ j ∧
    ∃ (k' : Nat) (rd' : Bool) (pl' vl' : Int), out[c]? = some ((i : Int), (k' : Int), rd', pl', vl', (c : Int)) ∧ k' < (dss.getD i []).length ∧
      (c ≠ j → ((dss.getD i []).getD k zD).1 ≠ 3 → ((dss.getD i []).getD k zD).2.2.2 ≠ 0 ∧ ((dss.getD i []).getD k' zD).2.2.2 = ((dss.getD i []).getD k zD).2.2.2)
theorem at_left {α : Type} {l : List α} {j : Nat} {x : α} (t : List α) (h : l[j]? = some x) : (l ++ t)[j]? = some x := by
  rw [List.getElem?_append_left (List.getElem?_eq_some_iff.1 h).1]; exact h
theorem GoodE.more {dss : List (List Dd)} {out : List Ev} {j : Nat} (h : GoodE dss out j) (t : List Ev) : GoodE dss (out ++ t) j := by
  obtain ⟨i, k, c, rd, vl, h1, h2, h3, h4, h5, h6, k', rd', pl', vl', g1, g2, g3⟩ := h
  exact ⟨i, k, c, rd, vl, at_left t h1, h2, h3, h4, h5, h6, k', rd', pl', vl', at_left t g1, g2, g3⟩
/-- Where a Group began, an event of it stands. -/
def FstOk (dss : List (List Dd)) (i : Nat) (out : List Ev) (f : List Int) : Prop :=
  f.length = 10 ∧ ∀ g : Nat, 0 < g → g < 10 → f.getD g 0 = 0 ∨ ∃ (c k' : Nat) (rd' : Bool) (pl' vl' : Int), f.getD g 0 = (c : Int) ∧ out[c]? = some ((i : Int), (k' : Int), rd', pl', vl', (c : Int)) ∧ k' < (dss.getD i []).length ∧ ((dss.getD i []).getD k' zD).2.2.2 = (g : Int)
theorem getD_setE (o : List Int) (g : Nat) (x : Int) (j : Nat) (hg : g < o.length) : (o.set g x).getD j 0 = if g = j then x else o.getD j 0 := by
  rw [List.getD_eq_getElem?_getD, List.getElem?_set]
  by_cases e : g = j
  · subst e; rw [if_pos rfl, if_pos hg, if_pos rfl]; rfl
  · rw [if_neg e, if_neg e, List.getD_eq_getElem?_getD]
/-- The first event of a deed stands at the end of what was there, with its class. -/
theorem oneE_first (i k : Nat) (d : Dd) (c : Int) (h4 : d.1 ≠ 4) : ∃ rd vl, (oneE i k d c)[0]? = some ((i : Int), (k : Int), rd, d.2.1, vl, c) ∧ (rd = true → vl = 0) ∧ (rd = false → vl = d.2.2.1) := by
  unfold oneE
  rw [if_neg h4]
  split
  · exact ⟨true, 0, rfl, by simp, by simp⟩
  · split
    · exact ⟨false, d.2.2.1, rfl, by simp, by simp⟩
    · exact ⟨true, 0, rfl, by simp, by simp⟩
theorem step_good {dss : List (List Dd)} {i k : Nat} {out : List Ev} {f : List Int} (hi : i < dss.length) (hk : k < (dss.getD i []).length) (hok : okD ((dss.getD i []).getD k zD) = true)
    (hG : ∀ j, 3 ≤ j → j < out.length → GoodE dss out j) (hF : FstOk dss i out f) :
    (∀ j, 3 ≤ j → j < (stepE i k ((dss.getD i []).getD k zD) (out, f)).1.length → GoodE dss (stepE i k ((dss.getD i []).getD k zD) (out, f)).1 j) ∧ FstOk dss i (stepE i k ((dss.getD i []).getD k zD) (out, f)).1 (stepE i k ((dss.getD i []).getD k zD) (out, f)).2 := by
  obtain ⟨d, hd⟩ : ∃ d, d = (dss.getD i []).getD k zD := ⟨_, rfl⟩
  rw [← hd] at hok ⊢
  by_cases h4 : d.1 = 4
  · rw [stepE, if_pos h4]; exact ⟨hG, hF⟩
  rw [stepE, if_neg h4]
  dsimp only
  obtain ⟨r0, r1, r2, r3, r4⟩ := okD_restE hok
  obtain ⟨g, hg⟩ := Int.eq_ofNat_of_zero_le r2
  obtain ⟨hl, hf⟩ := hF
  -- the class: an event with it stands there
  have hcls : ∃ (c k' : Nat) (rd' : Bool) (pl' vl' : Int), clsE d.2.2.2 out.length f = (c : Int) ∧ c ≤ out.length ∧ (out ++ oneE i k d (clsE d.2.2.2 out.length f))[c]? = some ((i : Int), (k' : Int), rd', pl', vl', (c : Int)) ∧ k' < (dss.getD i []).length ∧
      (c ≠ out.length → d.2.2.2 ≠ 0 ∧ ((dss.getD i []).getD k' zD).2.2.2 = d.2.2.2) ∧ (c = out.length → k' = k) := by
    obtain ⟨rd, vl, ho, _, _⟩ := oneE_first i k d (clsE d.2.2.2 out.length f) h4
    have new : clsE d.2.2.2 out.length f = (out.length : Int) → (out ++ oneE i k d (clsE d.2.2.2 out.length f))[out.length]? = some ((i : Int), (k : Int), rd, d.2.1, vl, ((out.length : Nat) : Int)) := fun e => by
      rw [List.getElem?_append_right (Nat.le_refl _), Nat.sub_self, ho, e]
    by_cases hg0 : g = 0
    · have e : clsE d.2.2.2 out.length f = (out.length : Int) := by unfold clsE; rw [hg, if_neg (by omega)]
      exact ⟨out.length, k, rd, d.2.1, vl, e, Nat.le_refl _, new e, hk, fun h => absurd rfl h, fun _ => rfl⟩
    · have gp : (0 : Int) < d.2.2.2 := by rw [hg]; omega
      have g10 : g < 10 := by rw [hg] at r3; omega
      rcases hf g (by omega) g10 with h0 | ⟨c, k', rd', pl', vl', e1, e2, e3, e4⟩
      · have e : clsE d.2.2.2 out.length f = (out.length : Int) := by
          unfold clsE fstE
          rw [if_pos gp, hg, Int.toNat_natCast, if_pos ⟨by omega, h0⟩, getD_setE f g _ g (by omega), if_pos rfl]
        exact ⟨out.length, k, rd, d.2.1, vl, e, Nat.le_refl _, new e, hk, fun h => absurd rfl h, fun _ => rfl⟩
      · have cl : c < out.length := (List.getElem?_eq_some_iff.1 e2).1
        by_cases hc0 : (c : Int) = 0
        · have e : clsE d.2.2.2 out.length f = (out.length : Int) := by
            unfold clsE fstE
            rw [if_pos gp, hg, Int.toNat_natCast, if_pos ⟨by omega, by rw [e1]; exact hc0⟩, getD_setE f g _ g (by omega), if_pos rfl]
          exact ⟨out.length, k, rd, d.2.1, vl, e, Nat.le_refl _, new e, hk, fun h => absurd rfl h, fun _ => rfl⟩
        · have e : clsE d.2.2.2 out.length f = (c : Int) := by
            unfold clsE fstE
            rw [if_pos gp, hg, Int.toNat_natCast, if_neg (by rw [e1]; omega), e1]
          exact ⟨c, k', rd', pl', vl', e, by omega, at_left _ e2, e3, fun _ => ⟨by omega, by rw [e4, hg]⟩, fun h => by omega⟩
  obtain ⟨c, k', rd', pl', vl', hc, hcl, hce, hk', hcg, hcn⟩ := hcls
  rw [hc] at hce ⊢
  refine ⟨fun j hj3 hj => ?_, ?_⟩
  · by_cases hold : j < out.length
    · exact (hG j hj3 hold).more _
    · have e1 : (out ++ oneE i k d (c : Int))[j]? = (oneE i k d (c : Int))[j - out.length]? := List.getElem?_append_right (by omega)
      have hjl : j - out.length < (oneE i k d (c : Int)).length := by rw [List.length_append] at hj; omega
      have form : ∃ rd vl, (oneE i k d (c : Int))[j - out.length]? = some ((i : Int), (k : Int), rd, d.2.1, vl, (c : Int)) ∧ (rd = true → vl = 0) ∧ (rd = false → vl = d.2.2.1) ∧ (j ≠ out.length → d.1 = 3) := by
        by_cases hz : j - out.length = 0
        · obtain ⟨rd, vl, ho, h5, h6⟩ := oneE_first i k d (c : Int) h4
          exact ⟨rd, vl, by rw [hz]; exact ho, h5, h6, fun h => by omega⟩
        · unfold oneE at hjl ⊢
          rw [if_neg h4] at hjl ⊢
          split at hjl
          · rename_i h3
            rw [if_pos h3]
            have : j - out.length = 1 := by simp at hjl; omega
            rw [this]
            exact ⟨false, d.2.2.1, rfl, by simp, by simp, fun _ => h3⟩
          · split at hjl
            · simp at hjl; omega
            · simp at hjl; omega
      obtain ⟨rd, vl, h1, h5, h6, h7⟩ := form
      refine ⟨i, k, c, rd, vl, by rw [e1, ← hd]; exact h1, hi, hk, h5, by rw [← hd]; exact h6, by omega, k', rd', pl', vl', hce, hk', fun hcj h3 => ?_⟩
      rw [← hd] at h3 ⊢
      have : j = out.length := by
        apply Classical.byContradiction
        intro hne
        exact h3 (h7 hne)
      exact hcg (by omega)
  · refine ⟨by unfold fstE; split <;> simp [hl], fun q hq0 hq => ?_⟩
    have keepOld : f.getD q 0 = 0 ∨ ∃ (c' k'' : Nat) (rd'' : Bool) (pl'' vl'' : Int), f.getD q 0 = (c' : Int) ∧ (out ++ oneE i k d (c : Int))[c']? = some ((i : Int), (k'' : Int), rd'', pl'', vl'', (c' : Int)) ∧ k'' < (dss.getD i []).length ∧ ((dss.getD i []).getD k'' zD).2.2.2 = (q : Int) := by
      rcases hf q hq0 hq with h0 | ⟨c', k'', rd'', pl'', vl'', e1, e2, e3, e4⟩
      · exact .inl h0
      · exact .inr ⟨c', k'', rd'', pl'', vl'', e1, at_left _ e2, e3, e4⟩
    unfold fstE
    split
    · rename_i hcond
      rw [hg, Int.toNat_natCast] at hcond ⊢
      rw [getD_setE f g _ q (by rw [hg] at r3; omega)]
      by_cases e : g = q
      · subst e
        rw [if_pos rfl]
        right
        have ec : c = out.length := by
          have : clsE d.2.2.2 out.length f = (out.length : Int) := by
            unfold clsE fstE
            rw [if_pos (by rw [hg]; exact hcond.1), hg, Int.toNat_natCast, if_pos hcond, getD_setE f g _ g (by rw [hg] at r3; omega), if_pos rfl]
          omega
        have ek := hcn ec
        subst ek
        refine ⟨out.length, k', rd', pl', vl', rfl, ?_, hk', by rw [← hd, hg]⟩
        rw [ec] at hce
        rw [ec]
        exact hce
      · rw [if_neg e]; exact keepOld
    · exact keepOld
theorem clk_good {dss : List (List Dd)} {i : Nat} {out : List Ev} (hi : i < dss.length) (hok : ∀ j, j < (dss.getD i []).length → okD ((dss.getD i []).getD j zD) = true) (hG : ∀ j, 3 ≤ j → j < out.length → GoodE dss out j) :
    ∀ k : Nat, k ≤ (dss.getD i []).length → (∃ t, (clkE i (dss.getD i []) out k).1 = out ++ t) ∧ (∀ j, 3 ≤ j → j < (clkE i (dss.getD i []) out k).1.length → GoodE dss (clkE i (dss.getD i []) out k).1 j) ∧ FstOk dss i (clkE i (dss.getD i []) out k).1 (clkE i (dss.getD i []) out k).2
  | 0, _ => ⟨⟨[], by simp [clkE]⟩, hG, by simp [clkE], fun g _ hg => .inl (by simp only [clkE]; rw [List.getD_eq_getElem?_getD, List.getElem?_replicate, if_pos hg]; rfl)⟩
  | k + 1, h => by
    obtain ⟨⟨t, ht⟩, h2, h3⟩ := clk_good hi hok hG k (by omega)
    have := step_good (k := k) hi (by omega) (hok k (by omega)) h2 h3
    refine ⟨?_, this⟩
    rw [clkE, stepE]
    split
    · exact ⟨t, ht⟩
    · exact ⟨t ++ oneE i k ((dss.getD i []).getD k zD) (clsE ((dss.getD i []).getD k zD).2.2.2 (clkE i (dss.getD i []) out k).1.length (clkE i (dss.getD i []) out k).2), by simp only; rw [ht, List.append_assoc]⟩
/-- All events are as the law asks. -/
theorem evs_good {dss : List (List Dd)} (hok : ∀ i, i < dss.length → okL (dss.getD i []) = true) : ∀ n : Nat, n ≤ dss.length → (∃ t, evsW dss n = evBeg ++ t) ∧ ∀ j, 3 ≤ j → j < (evsW dss n).length → GoodE dss (evsW dss n) j
  | 0, _ => ⟨⟨[], by simp [evsW]⟩, fun j h1 h2 => by simp [evsW, evBeg] at h2; omega⟩
  | n + 1, h => by
    obtain ⟨⟨t, ht⟩, h2⟩ := evs_good hok n (by omega)
    have hn := hok n (by omega)
    simp only [okL, Bool.and_eq_true, decide_eq_true_eq] at hn
    obtain ⟨⟨t2, ht2⟩, h3, _⟩ := clk_good (i := n) (out := evsW dss n) (by omega) (fun j hj => all_get zD hn.1 j hj) h2 (dss.getD n []).length (Nat.le_refl _)
    rw [evsW]
    exact ⟨⟨t ++ t2, by rw [ht2, ht, List.append_assoc]⟩, h3⟩
end Go.Proofs.Ytabafnfadophhaa
