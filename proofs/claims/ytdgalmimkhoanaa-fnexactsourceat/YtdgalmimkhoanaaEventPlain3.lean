/- Plain mathematics of events as the program lists them: a deed of the Group of the deed ahead has the class of the last event. Of a right work that is what the specification lists. -/
import Derived.Test.YtdgalmimkhoanaaMA
namespace Go.Proofs.Ytdgalmimkhoanaa

/-- Does the deed k go on with the Group of the deed ahead? -/
def goB (ds : List Dd) (k : Nat) : Bool := decide (0 < k) && ((ds.getD k zD).2.2.2 != 0) && ((ds.getD k zD).2.2.2 == (ds.getD (k - 1) zD).2.2.2)
def lastC (out : List Ev) : Int := csE (out.getD (out.length - 1) zE)
def ncE (out : List Ev) (go : Bool) : Int := if go = true then lastC out else (out.length : Int)
def clkP (i : Nat) (ds : List Dd) (out : List Ev) : Nat → List Ev
  | 0 => out
  | k + 1 => clkP i ds out k ++ oneE i k (ds.getD k zD) (ncE (clkP i ds out k) (goB ds k))
def evsP (dss : List (List Dd)) : Nat → List Ev
  | 0 => evBeg
  | i + 1 => clkP i (dss.getD i []) (evsP dss i) (dss.getD i []).length
/-- Deeds of one Group stand side by side. -/
def Tog (ds : List Dd) : Prop := ∀ k j, k < ds.length → j < k → (ds.getD k zD).2.2.2 ≠ 0 → (ds.getD j zD).2.2.2 = (ds.getD k zD).2.2.2 → (ds.getD (k - 1) zD).2.2.2 = (ds.getD k zD).2.2.2
theorem grpK_own {i : Nat} {own : List Int} {ds : List Dd} (hl : own.length = 10) : ∀ (k : Nat) (o : List Int), grpK i own ds k = some o → (∀ j, j < k → okD (ds.getD j zD) = true) →
    ∀ j, j < k → (ds.getD j zD).2.2.2 ≠ 0 → o.getD (ds.getD j zD).2.2.2.toNat 0 = (i : Int) + 1
  | 0, o, h, _, j, hj, _ => by omega
  | k + 1, o', h, hok, j, hj, h0 => by
    rw [grpK] at h
    cases hq : grpK i own ds k with
    | none => rw [hq] at h; cases h
    | some o =>
      rw [hq] at h
      have ih := grpK_own hl k o hq (fun j hj => hok j (by omega))
      have hol := grpK_len hq
      simp only at h
      have okj := okD_restE (hok j hj)
      split at h
      · rename_i hz
        simp only [Option.some.injEq] at h
        subst h
        by_cases e : j = k
        · subst e; exact absurd hz h0
        · exact ih j (by omega) h0
      · rename_i hz
        split at h
        · cases h
        · simp only [Option.some.injEq] at h
          subst h
          have okk := okD_restE (hok k (by omega))
          rw [getD_setE o _ _ _ (by omega)]
          by_cases e : (ds.getD k zD).2.2.2.toNat = (ds.getD j zD).2.2.2.toNat
          · rw [if_pos e]
          · rw [if_neg e]
            by_cases e2 : j = k
            · subst e2; exact absurd rfl e
            · exact ih j (by omega) h0
theorem grpK_tog {i : Nat} {own : List Int} {ds : List Dd} (hl : own.length = 10) {o : List Int} (h : grpK i own ds ds.length = some o) (hok : ∀ j, j < ds.length → okD (ds.getD j zD) = true) : Tog ds := by
  intro k j hk hj h0 he
  have step : ∃ o', grpK i own ds (k + 1) = some o' := by
    cases hq : grpK i own ds (k + 1) with
    | none => rw [grpK_none hq ds.length (by omega)] at h; cases h
    | some o' => exact ⟨o', rfl⟩
  obtain ⟨o', ho'⟩ := step
  rw [grpK] at ho'
  cases hq : grpK i own ds k with
  | none => rw [hq] at ho'; cases ho'
  | some o1 =>
    rw [hq] at ho'
    have hown := grpK_own hl k o1 hq (fun j hj => hok j (by omega)) j hj (by rw [he]; exact h0)
    rw [he] at hown
    simp only at ho'
    rw [if_neg h0] at ho'
    split at ho'
    · cases ho'
    · rename_i hn
      apply Classical.byContradiction
      intro hc
      exact hn ⟨by rw [hown]; omega, .inr (.inr hc)⟩
theorem work_tog {dss : List (List Dd)} (hb : workB dss = true) : ∀ i, i < dss.length → Tog (dss.getD i []) := by
  intro i hi
  simp only [workB, Bool.and_eq_true, decide_eq_true_eq] at hb
  obtain ⟨⟨⟨⟨_, h2⟩, _⟩, _⟩, hg⟩ := hb
  have hok := all_get [] h2 i hi
  simp only [okL, Bool.and_eq_true, decide_eq_true_eq] at hok
  have hs : ∀ n, n ≤ dss.length → ∃ o, grpW dss n = some o := by
    intro n hn
    cases hq : grpW dss n with
    | none => rw [grpB, grpW_none hq dss.length hn] at hg; cases hg
    | some o => exact ⟨o, rfl⟩
  obtain ⟨o, ho⟩ := hs i (by omega)
  obtain ⟨o', ho'⟩ := hs (i + 1) (by omega)
  rw [grpW, ho] at ho'
  exact grpK_tog (grpW_len ho) ho' (fun j hj => all_get zD hok.1 j hj)
theorem last_snoc (out t : List Ev) (e : Ev) : lastC (out ++ (t ++ [e])) = csE e := by
  unfold lastC
  rw [← List.append_assoc, List.length_append, List.getD_eq_getElem?_getD]
  simp
theorem clkP_same {i : Nat} {ds : List Dd} {out : List Ev} (ht : Tog ds) (hok : ∀ j, j < ds.length → okD (ds.getD j zD) = true) (ho : 1 ≤ out.length) :
    ∀ k : Nat, k ≤ ds.length → clkP i ds out k = (clkE i ds out k).1 ∧ (clkE i ds out k).2.length = 10 ∧ 1 ≤ (clkE i ds out k).1.length ∧
      (∀ g : Nat, 0 < g → g < 10 → (∀ j, j < k → (ds.getD j zD).2.2.2 ≠ (g : Int)) → (clkE i ds out k).2.getD g 0 = 0) ∧
      (∀ j, j < k → (ds.getD j zD).2.2.2 ≠ 0 → (clkE i ds out k).2.getD (ds.getD j zD).2.2.2.toNat 0 ≠ 0) ∧
      (0 < k → (ds.getD (k - 1) zD).2.2.2 ≠ 0 → (clkE i ds out k).2.getD (ds.getD (k - 1) zD).2.2.2.toNat 0 = lastC (clkE i ds out k).1)
  | 0, _ => ⟨rfl, by simp [clkE], ho, fun g _ hg _ => by simp only [clkE]; rw [List.getD_eq_getElem?_getD, List.getElem?_replicate, if_pos hg]; rfl, fun j hj => by omega, fun h => by omega⟩
  | k + 1, hk => by
    obtain ⟨h1, h2, h3, h4, h5, h6⟩ := clkP_same ht hok ho k (by omega)
    have hd := hok k (by omega)
    obtain ⟨r0, r1, r2, r3, r4⟩ := okD_restE hd
    have hkd := okD_kindE hd
    rw [clkP, clkE, h1, Nat.add_sub_cancel]
    generalize hS : clkE i ds out k = S at h2 h3 h4 h5 h6
    obtain ⟨L, f⟩ := S
    simp only at h2 h3 h4 h5 h6
    generalize hdd : ds.getD k zD = d at hd r0 r1 r2 r3 r4 hkd
    have hg : goB ds k = (decide (0 < k) && (d.2.2.2 != 0) && (d.2.2.2 == (ds.getD (k - 1) zD).2.2.2)) := by rw [goB, hdd]
    -- deeds ahead that have Group 0 or not
    have old5 : ∀ j, j < k → (ds.getD j zD).2.2.2 ≠ 0 → (ds.getD j zD).2.2.2.toNat < 10 := fun j hj _ => by
      have := okD_restE (hok j (by omega)); omega
    by_cases h4k : d.1 = 4
    · have g0 : d.2.2.2 = 0 := r4 (by omega)
      have e1 : oneE i k d (ncE L (goB ds k)) = [] := by unfold oneE; rw [if_pos h4k]
      rw [stepE, if_pos h4k, e1, List.append_nil]
      refine ⟨rfl, h2, h3, fun g hg0 hg10 hn => h4 g hg0 hg10 (fun j hj => hn j (by omega)), fun j hj hne => ?_, fun _ hne => absurd g0 hne⟩
      by_cases e : j = k
      · subst e; rw [hdd] at hne; exact absurd g0 hne
      · exact h5 j (by omega) hne
    · rw [stepE, if_neg h4k]
      by_cases g0 : d.2.2.2 = 0
      · have e1 : ncE L (goB ds k) = clsE d.2.2.2 L.length f := by
          rw [hg, g0]
          simp [ncE, clsE]
        have e2 : fstE d.2.2.2 L.length f = f := by unfold fstE; rw [if_neg (by rw [g0]; omega)]
        rw [e1]
        simp only
        rw [e2]
        refine ⟨by trivial, h2, by rw [List.length_append]; omega, fun g hg0 hg10 hn => h4 g hg0 hg10 (fun j hj => hn j (by omega)), fun j hj hne => ?_, fun _ hne => absurd g0 hne⟩
        by_cases e : j = k
        · subst e; rw [hdd] at hne; exact absurd g0 hne
        · exact h5 j (by omega) hne
      · have gp : (0 : Int) < d.2.2.2 := by omega
        have k2 : d.1 = 1 ∨ d.1 = 2 := by
          apply Classical.byContradiction
          intro hn
          exact g0 (r4 (by omega))
        have one : ∀ c, ∃ e, oneE i k d c = [e] ∧ csE e = c := by
          intro c
          unfold oneE
          rcases k2 with e | e
          · exact ⟨_, by rw [if_neg h4k, if_neg (by omega), if_neg (by omega)], rfl⟩
          · exact ⟨_, by rw [if_neg h4k, if_neg (by omega), if_pos e], rfl⟩
        have fin : ∀ c, lastC (L ++ oneE i k d c) = c := fun c => by
          obtain ⟨e, he, hc⟩ := one c
          rw [he, ← hc]
          exact last_snoc L [] e
        by_cases hgo : 0 < k ∧ (ds.getD (k - 1) zD).2.2.2 = d.2.2.2
        · obtain ⟨k0, hgo⟩ := hgo
          have e0 : goB ds k = true := by rw [hg, hgo]; simp [k0, g0]
          have f0 : f.getD d.2.2.2.toNat 0 ≠ 0 := by have := h5 (k - 1) (by omega) (by rw [hgo]; exact g0); rw [hgo] at this; exact this
          have f1 : f.getD d.2.2.2.toNat 0 = lastC L := by have := h6 k0 (by rw [hgo]; exact g0); rw [hgo] at this; exact this
          have e2 : fstE d.2.2.2 L.length f = f := by unfold fstE; rw [if_neg (fun h => f0 h.2)]
          have e1 : ncE L (goB ds k) = clsE d.2.2.2 L.length f := by
            rw [e0]
            unfold ncE clsE
            rw [if_pos rfl, if_pos gp, e2, f1]
          have e3 : clsE d.2.2.2 L.length f = f.getD d.2.2.2.toNat 0 := by unfold clsE; rw [if_pos gp, e2]
          rw [e1]
          simp only
          rw [e2]
          refine ⟨by trivial, h2, by rw [List.length_append]; omega, fun g hg0 hg10 hn => h4 g hg0 hg10 (fun j hj => hn j (by omega)), fun j hj hne => ?_, fun _ _ => ?_⟩
          · by_cases e : j = k
            · subst e; rw [hdd]; exact f0
            · exact h5 j (by omega) hne
          · rw [fin, e3]
        · have none : ∀ j, j < k → (ds.getD j zD).2.2.2 ≠ d.2.2.2 := by
            intro j hj he
            refine hgo ⟨by omega, ?_⟩
            have := ht k j (by omega) hj (by rw [hdd]; exact g0) (by rw [hdd]; exact he)
            rw [hdd] at this
            exact this
          obtain ⟨g, hgg⟩ := Int.eq_ofNat_of_zero_le r2
          have g10 : g < 10 := by omega
          have f0 : f.getD d.2.2.2.toNat 0 = 0 := by
            rw [hgg, Int.toNat_natCast]
            exact h4 g (by omega) g10 (fun j hj => by rw [← hgg]; exact none j hj)
          have e0 : goB ds k = false := by
            rw [hg]
            by_cases k0 : 0 < k
            · have : ¬ (d.2.2.2 = (ds.getD (k - 1) zD).2.2.2) := fun e => hgo ⟨k0, e.symm⟩
              have e : (d.2.2.2 == (ds.getD (k - 1) zD).2.2.2) = false := by simpa using this
              rw [e, Bool.and_false]
            · simp [k0]
          have e2 : fstE d.2.2.2 L.length f = f.set d.2.2.2.toNat (L.length : Int) := by unfold fstE; rw [if_pos ⟨gp, f0⟩]
          have e3 : clsE d.2.2.2 L.length f = (L.length : Int) := by
            unfold clsE
            rw [if_pos gp, e2, getD_setE f _ _ _ (by omega), if_pos rfl]
          have e1 : ncE L (goB ds k) = clsE d.2.2.2 L.length f := by rw [e0, e3]; simp [ncE]
          rw [e1]
          simp only
          rw [e2]
          refine ⟨by trivial, by rw [List.length_set]; exact h2, by rw [List.length_append]; omega, fun q hq0 hq10 hn => ?_, fun j hj hne => ?_, fun _ _ => ?_⟩
          · have hqk := hn k (by omega)
            rw [hdd] at hqk
            rw [getD_setE f _ _ _ (by omega), if_neg (by omega)]
            exact h4 q hq0 hq10 (fun j hj => hn j (by omega))
          · by_cases e : j = k
            · subst e
              rw [hdd, getD_setE f _ _ _ (by omega), if_pos rfl]
              omega
            · have nj := none j (by omega)
              have okj := okD_restE (hok j (by omega))
              rw [getD_setE f _ _ _ (by omega), if_neg (by omega)]
              exact h5 j (by omega) hne
          · rw [fin, e3, getD_setE f _ _ _ (by omega), if_pos rfl]
theorem evsP_same {dss : List (List Dd)} (hb : workB dss = true) : ∀ n : Nat, n ≤ dss.length → evsP dss n = evsW dss n ∧ 1 ≤ (evsW dss n).length
  | 0, _ => ⟨rfl, by simp [evsW, evBeg]⟩
  | n + 1, h => by
    obtain ⟨h1, h2⟩ := evsP_same hb n (by omega)
    have ht := work_tog hb n (by omega)
    simp only [workB, Bool.and_eq_true, decide_eq_true_eq] at hb
    obtain ⟨⟨⟨⟨_, ha⟩, _⟩, _⟩, _⟩ := hb
    have hok := all_get [] ha n (by omega)
    simp only [okL, Bool.and_eq_true, decide_eq_true_eq] at hok
    obtain ⟨q1, _, q3, _⟩ := clkP_same (i := n) ht (fun j hj => all_get zD hok.1 j hj) h2 (dss.getD n []).length (Nat.le_refl _)
    rw [evsP, evsW, h1, q1]
    exact ⟨rfl, q3⟩
end Go.Proofs.Ytdgalmimkhoanaa
