/- Several texts in one. -/
import Derived.Test.YtkbkdlaknmgjpaaMA
import Derived.Test.YtkbkdlaknmgjpaaRows
import Derived.OpenShut
import Derived.Outline
import Derived.Maps.AppendAt
import Derived.Laws.OwnMore
import Derived.OwnWalk
import Derived.BigQuiet
import Derived.RangeFuncBox
import Derived.RangeFuncCalls
import Derived.RangeFuncLeaves
import Derived.BigRegion
import Derived.RegionTactic
import Derived.Deep.RegionHeld3
import Derived.Deep.QuietTactic
import Derived.Lib.Hide
namespace Go.Proofs.Ytkbkdlaknmgjpaa
open Go.ChangeShapes Go.WideShapes Go.ChangeAt Go.RowKit
open Go.RowKit
theorem chc_len {es : List Ev} (hx : es.length ≤ 12) : (chcL es).length ≤ 12 ∧ ∀ i, i < (chcL es).length → ((chcL es).getD i []).length ≤ 12 := by
 have key : ∀ f : Ev → Bool, (idxB f es).length ≤ 12 := fun f => by
  unfold idxB
  rw [if_pos hx]
  have := idxK_len f es es.length
  omega
 unfold chcL
 rw [chcK_len]
 exact ⟨key _, fun i hi => by rw [chcK_get _ _ _ _ hi]; exact key _⟩
theorem idxB_range {f : Ev → Bool} {es : List Ev} (hx : es.length ≤ 12) {i : Nat} (hi : i < (idxB f es).length) : 0 ≤ (idxB f es).getD i 0 ∧ (idxB f es).getD i 0 < (es.length : Int) := by
 have hm : (idxB f es).getD i 0 ∈ idxB f es := by
  rw [List.getD_eq_getElem?_getD, List.getElem?_eq_getElem hi]
  exact List.getElem_mem hi
 unfold idxB at hm ⊢
 rw [if_pos hx] at hm ⊢
 exact idxK_lt f es _ _ hm
def bitI (k : Nat) : Int := wrap64 (2 ^ (k : Int).toNat)
def offIn (p : Nat → Nat → Bool) (i : Nat) (st : List Int) : Nat → List Int
 | 0 => st
 | k + 1 => if p i k = true then (offIn p i st k).set i (notI ((offIn p i st k).getD i 0) (bitI k)) else offIn p i st k
def offAll (p : Nat → Nat → Bool) (n : Nat) (st : List Int) : Nat → List Int
 | 0 => st
 | i + 1 => offIn p i (offAll p n st i) n
theorem offIn_hit {p : Nat → Nat → Bool} {i k : Nat} (st : List Int) (h : p i k = true) : offIn p i st (k + 1) = (offIn p i st k).set i (notI ((offIn p i st k).getD i 0) (bitI k)) := if_pos h
theorem offIn_miss {p : Nat → Nat → Bool} {i k : Nat} (st : List Int) (h : p i k = false) : offIn p i st (k + 1) = offIn p i st k := if_neg (by simp [h])
theorem offIn_none {p : Nat → Nat → Bool} {i : Nat} (st : List Int) : ∀ k : Nat, (∀ j, j < k → p i j = false) → offIn p i st k = st
 | 0, _ => rfl
 | k + 1, h => by rw [offIn_miss st (h k (by omega))]; exact offIn_none st k (fun j hj => h j (by omega))
theorem bitI_add : ∀ k : Nat, k < 12 → bitI k = gAdd 0 k := by decide +kernel
theorem ok_bit {n k : Nat} (hn : n ≤ 12) (hk : k < n) : okB n (bitI k) = true ∧ ∀ j : Nat, inSetB (bitI k) j = decide (k = j) := by
 rw [bitI_add k (by omega)]
 have h := ok_add (ok_zero hn) hk
 exact ⟨h.1, fun j => by rw [h.2 j, zero_bit]; simp⟩
theorem web_offIn {p : Nat → Nat → Bool} {n i : Nat} {st : List Int} (hi : i < n) (hst : Web n st) : ∀ m : Nat, m ≤ n →
  Web n (offIn p i st m) ∧ ∀ a j : Nat, a < n → line (offIn p i st m) a j = (line st a j && !(decide (i = a) && decide (j < m) && p i j))
 | 0, _ => ⟨hst, fun a j _ => by simp [offIn]⟩
 | m + 1, hm => by
  have ih := web_offIn hi hst m (by omega) (p := p)
  cases hp : p i m with
  | false =>
   rw [offIn_miss st hp]
   refine ⟨ih.1, fun a j ha => ?_⟩
   rw [ih.2 a j ha]
   by_cases e : j = m
   ·
    subst e; simp [hp]
   ·
    have d : decide (j < m + 1) = decide (j < m) := decide_eq_decide.2 (by omega)
    rw [d]
  | true =>
   rw [offIn_hit st hp]
   have hb := ok_bit hst.1 (show m < n by omega)
   have ha := ok_not (ih.1.2.2 i hi) hb.1
   refine ⟨ih.1.set ha.1, fun a j haa => ?_⟩
   have e1 := ih.2 a j haa
   unfold line at e1 ⊢
   rw [getD_set _ _ _ _ (by rw [ih.1.2.1]; exact hi)]
   by_cases e : i = a
   ·
    subst e
    simp only [if_true]
    rw [ha.2 j, e1, hb.2 j]
    by_cases e2 : m = j
    ·
     subst e2; simp [hp]
    ·
     have d : decide (j < m + 1) = decide (j < m) := decide_eq_decide.2 (by omega)
     rw [d]; simp [e2]
   ·
    simp only [e, if_false]; rw [e1]; simp [e]
theorem web_offAll {p : Nat → Nat → Bool} {n : Nat} {st : List Int} (hst : Web n st) : ∀ m : Nat, m ≤ n →
  Web n (offAll p n st m) ∧ ∀ a j : Nat, a < n → line (offAll p n st m) a j = (line st a j && !(decide (a < m) && decide (j < n) && p a j))
 | 0, _ => ⟨hst, fun a j _ => by simp [offAll]⟩
 | m + 1, hm => by
  have ih := web_offAll hst m (by omega) (p := p)
  have h1 := web_offIn (p := p) (show m < n by omega) ih.1 n (Nat.le_refl _)
  refine ⟨h1.1, fun a j ha => ?_⟩
  show line (offIn p m (offAll p n st m) n) a j = _
  rw [h1.2 a j ha, ih.2 a j ha]
  by_cases e : m = a
  ·
   subst e; simp
  ·
   have d : decide (a < m + 1) = decide (a < m) := decide_eq_decide.2 (by omega)
   rw [d]; simp [e]
def owP (es : List Ev) (i k : Nat) : Bool := decide (3 ≤ i) && decide (3 ≤ k) && ((es.getD i zE).1 == (es.getD k zE).1)
def owL (es : List Ev) (f : List Int) : List Int := offAll (owP es) es.length (fwL es f) es.length
def owB (dss : List (List Dd)) (f : List Int) : List Int := if sourceB dss f = true then owL (eventsB dss) f else []
theorem rd_in {es : List Ev} (hx : es.length ≤ 12) {i : Nat} (hi : i < (idxB rdE es).length) : 0 ≤ (idxB rdE es).getD i 0 ∧ (idxB rdE es).getD i 0 < (es.length : Int) := idxB_range hx hi
def goB (ds : List Dd) (k : Nat) : Bool := decide (0 < k) && ((ds.getD k zD).2.2.2 != 0) && ((ds.getD k zD).2.2.2 == (ds.getD (k - 1) zD).2.2.2)
def lastC (out : List Ev) : Int := csE (out.getD (out.length - 1) zE)
def ncE (out : List Ev) (go : Bool) : Int := if go = true then lastC out else (out.length : Int)
def clkP (i : Nat) (ds : List Dd) (out : List Ev) : Nat → List Ev
 | 0 => out
 | k + 1 => clkP i ds out k ++ oneE i k (ds.getD k zD) (ncE (clkP i ds out k) (goB ds k))
def evsP (dss : List (List Dd)) : Nat → List Ev
 | 0 => evBeg
 | i + 1 => clkP i (dss.getD i []) (evsP dss i) (dss.getD i []).length
def Tog (ds : List Dd) : Prop := ∀ k j, k < ds.length → j < k → (ds.getD k zD).2.2.2 ≠ 0 → (ds.getD j zD).2.2.2 = (ds.getD k zD).2.2.2 → (ds.getD (k - 1) zD).2.2.2 = (ds.getD k zD).2.2.2
theorem grpK_own {i : Nat} {own : List Int} {ds : List Dd} (hl : own.length = 10) : ∀ (k : Nat) (o : List Int), grpK i own ds k = some o → (∀ j, j < k → okD (ds.getD j zD) = true) →
  ∀ j, j < k → (ds.getD j zD).2.2.2 ≠ 0 → o.getD (ds.getD j zD).2.2.2.toNat 0 = (i : Int) + 1
 | 0, o, h, _, j, hj, _ => by omega
 | k + 1, o', h, hok, j, hj, h0 => by
  rw [grpK] at h
  cases hq : grpK i own ds k with
  | none => rw [hq] at h; cases h
  | some o =>
   rw [hq] at h
   have ih := grpK_own hl k o hq (fun j hj => hok j (by omega))
   have hol := grpK_len hq
   simp only at h
   have okj := okD_restE (hok j hj)
   split at h
   ·
    rename_i hz
    simp only [Option.some.injEq] at h
    subst h
    by_cases e : j = k
    ·
     subst e; exact absurd hz h0
    ·
     exact ih j (by omega) h0
   ·
    rename_i hz
    split at h
    ·
     cases h
    ·
     simp only [Option.some.injEq] at h
     subst h
     have okk := okD_restE (hok k (by omega))
     rw [getD_setE o _ _ _ (by omega)]
     by_cases e : (ds.getD k zD).2.2.2.toNat = (ds.getD j zD).2.2.2.toNat
     ·
      rw [if_pos e]
     ·
      rw [if_neg e]
      by_cases e2 : j = k
      ·
       subst e2; exact absurd rfl e
      ·
       exact ih j (by omega) h0
theorem grpK_tog {i : Nat} {own : List Int} {ds : List Dd} (hl : own.length = 10) {o : List Int} (h : grpK i own ds ds.length = some o) (hok : ∀ j, j < ds.length → okD (ds.getD j zD) = true) : Tog ds := by
 intro k j hk hj h0 he
 have step : ∃ o', grpK i own ds (k + 1) = some o' := by
  cases hq : grpK i own ds (k + 1) with
  | none => rw [grpK_none hq ds.length (by omega)] at h; cases h
  | some o' => exact ⟨o', rfl⟩
 obtain ⟨o', ho'⟩ := step
 rw [grpK] at ho'
 cases hq : grpK i own ds k with
 | none => rw [hq] at ho'; cases ho'
 | some o1 =>
  rw [hq] at ho'
  have hown := grpK_own hl k o1 hq (fun j hj => hok j (by omega)) j hj (by rw [he]; exact h0)
  rw [he] at hown
  simp only at ho'
  rw [if_neg h0] at ho'
  split at ho'
  ·
   cases ho'
  ·
   rename_i hn
   apply Classical.byContradiction
   intro hc
   exact hn ⟨by rw [hown]; omega, .inr (.inr hc)⟩
theorem work_tog {dss : List (List Dd)} (hb : workB dss = true) : ∀ i, i < dss.length → Tog (dss.getD i []) := by
 intro i hi
 simp only [workB, Bool.and_eq_true, decide_eq_true_eq] at hb
 obtain ⟨⟨⟨⟨_, h2⟩, _⟩, _⟩, hg⟩ := hb
 have hok := all_get [] h2 i hi
 simp only [okL, Bool.and_eq_true, decide_eq_true_eq] at hok
 have hs : ∀ n, n ≤ dss.length → ∃ o, grpW dss n = some o := by
  intro n hn
  cases hq : grpW dss n with
  | none => rw [grpB, grpW_none hq dss.length hn] at hg; cases hg
  | some o => exact ⟨o, rfl⟩
 obtain ⟨o, ho⟩ := hs i (by omega)
 obtain ⟨o', ho'⟩ := hs (i + 1) (by omega)
 rw [grpW, ho] at ho'
 exact grpK_tog (grpW_len ho) ho' (fun j hj => all_get zD hok.1 j hj)
theorem last_snoc (out t : List Ev) (e : Ev) : lastC (out ++ (t ++ [e])) = csE e := by
 unfold lastC
 rw [← List.append_assoc, List.length_append, List.getD_eq_getElem?_getD]
 simp
theorem clkP_same {i : Nat} {ds : List Dd} {out : List Ev} (ht : Tog ds) (hok : ∀ j, j < ds.length → okD (ds.getD j zD) = true) (ho : 1 ≤ out.length) :
  ∀ k : Nat, k ≤ ds.length → clkP i ds out k = (clkE i ds out k).1 ∧ (clkE i ds out k).2.length = 10 ∧ 1 ≤ (clkE i ds out k).1.length ∧
   (∀ g : Nat, 0 < g → g < 10 → (∀ j, j < k → (ds.getD j zD).2.2.2 ≠ (g : Int)) → (clkE i ds out k).2.getD g 0 = 0) ∧
   (∀ j, j < k → (ds.getD j zD).2.2.2 ≠ 0 → (clkE i ds out k).2.getD (ds.getD j zD).2.2.2.toNat 0 ≠ 0) ∧
   (0 < k → (ds.getD (k - 1) zD).2.2.2 ≠ 0 → (clkE i ds out k).2.getD (ds.getD (k - 1) zD).2.2.2.toNat 0 = lastC (clkE i ds out k).1)
 | 0, _ => ⟨rfl, by simp [clkE], ho, fun g _ hg _ => by simp only [clkE]; rw [List.getD_eq_getElem?_getD, List.getElem?_replicate, if_pos hg]; rfl, fun j hj => by omega, fun h => by omega⟩
 | k + 1, hk => by
  obtain ⟨h1, h2, h3, h4, h5, h6⟩ := clkP_same ht hok ho k (by omega)
  have hd := hok k (by omega)
  obtain ⟨r0, r1, r2, r3, r4⟩ := okD_restE hd
  have hkd := okD_kindE hd
  rw [clkP, clkE, h1, Nat.add_sub_cancel]
  generalize hS : clkE i ds out k = S at h2 h3 h4 h5 h6
  obtain ⟨L, f⟩ := S
  simp only at h2 h3 h4 h5 h6
  generalize hdd : ds.getD k zD = d at hd r0 r1 r2 r3 r4 hkd
  have hg : goB ds k = (decide (0 < k) && (d.2.2.2 != 0) && (d.2.2.2 == (ds.getD (k - 1) zD).2.2.2)) := by rw [goB, hdd]
  have old5 : ∀ j, j < k → (ds.getD j zD).2.2.2 ≠ 0 → (ds.getD j zD).2.2.2.toNat < 10 := fun j hj _ => by
   have := okD_restE (hok j (by omega)); omega
  by_cases h4k : d.1 = 4
  ·
   have g0 : d.2.2.2 = 0 := r4 (by omega)
   have e1 : oneE i k d (ncE L (goB ds k)) = [] := by unfold oneE; rw [if_pos h4k]
   rw [stepE, if_pos h4k, e1, List.append_nil]
   refine ⟨rfl, h2, h3, fun g hg0 hg10 hn => h4 g hg0 hg10 (fun j hj => hn j (by omega)), fun j hj hne => ?_, fun _ hne => absurd g0 hne⟩
   by_cases e : j = k
   ·
    subst e; rw [hdd] at hne; exact absurd g0 hne
   ·
    exact h5 j (by omega) hne
  ·
   rw [stepE, if_neg h4k]
   by_cases g0 : d.2.2.2 = 0
   ·
    have e1 : ncE L (goB ds k) = clsE d.2.2.2 L.length f := by
     rw [hg, g0]
     simp [ncE, clsE]
    have e2 : fstE d.2.2.2 L.length f = f := by unfold fstE; rw [if_neg (by rw [g0]; omega)]
    rw [e1]
    simp only
    rw [e2]
    refine ⟨by trivial, h2, by rw [List.length_append]; omega, fun g hg0 hg10 hn => h4 g hg0 hg10 (fun j hj => hn j (by omega)), fun j hj hne => ?_, fun _ hne => absurd g0 hne⟩
    by_cases e : j = k
    ·
     subst e; rw [hdd] at hne; exact absurd g0 hne
    ·
     exact h5 j (by omega) hne
   ·
    have gp : (0 : Int) < d.2.2.2 := by omega
    have k2 : d.1 = 1 ∨ d.1 = 2 := by
     apply Classical.byContradiction
     intro hn
     exact g0 (r4 (by omega))
    have one : ∀ c, ∃ e, oneE i k d c = [e] ∧ csE e = c := by
     intro c
     unfold oneE
     rcases k2 with e | e
     ·
      exact ⟨_, by rw [if_neg h4k, if_neg (by omega), if_neg (by omega)], rfl⟩
     ·
      exact ⟨_, by rw [if_neg h4k, if_neg (by omega), if_pos e], rfl⟩
    have fin : ∀ c, lastC (L ++ oneE i k d c) = c := fun c => by
     obtain ⟨e, he, hc⟩ := one c
     rw [he, ← hc]
     exact last_snoc L [] e
    by_cases hgo : 0 < k ∧ (ds.getD (k - 1) zD).2.2.2 = d.2.2.2
    ·
     obtain ⟨k0, hgo⟩ := hgo
     have e0 : goB ds k = true := by rw [hg, hgo]; simp [k0, g0]
     have f0 : f.getD d.2.2.2.toNat 0 ≠ 0 := by have := h5 (k - 1) (by omega) (by rw [hgo]; exact g0); rw [hgo] at this; exact this
     have f1 : f.getD d.2.2.2.toNat 0 = lastC L := by have := h6 k0 (by rw [hgo]; exact g0); rw [hgo] at this; exact this
     have e2 : fstE d.2.2.2 L.length f = f := by unfold fstE; rw [if_neg (fun h => f0 h.2)]
     have e1 : ncE L (goB ds k) = clsE d.2.2.2 L.length f := by
      rw [e0]
      unfold ncE clsE
      rw [if_pos rfl, if_pos gp, e2, f1]
     have e3 : clsE d.2.2.2 L.length f = f.getD d.2.2.2.toNat 0 := by unfold clsE; rw [if_pos gp, e2]
     rw [e1]
     simp only
     rw [e2]
     refine ⟨by trivial, h2, by rw [List.length_append]; omega, fun g hg0 hg10 hn => h4 g hg0 hg10 (fun j hj => hn j (by omega)), fun j hj hne => ?_, fun _ _ => ?_⟩
     ·
      by_cases e : j = k
      ·
       subst e; rw [hdd]; exact f0
      ·
       exact h5 j (by omega) hne
     ·
      rw [fin, e3]
    ·
     have none : ∀ j, j < k → (ds.getD j zD).2.2.2 ≠ d.2.2.2 := by
      intro j hj he
      refine hgo ⟨by omega, ?_⟩
      have := ht k j (by omega) hj (by rw [hdd]; exact g0) (by rw [hdd]; exact he)
      rw [hdd] at this
      exact this
     obtain ⟨g, hgg⟩ := Int.eq_ofNat_of_zero_le r2
     have g10 : g < 10 := by omega
     have f0 : f.getD d.2.2.2.toNat 0 = 0 := by
      rw [hgg, Int.toNat_natCast]
      exact h4 g (by omega) g10 (fun j hj => by rw [← hgg]; exact none j hj)
     have e0 : goB ds k = false := by
      rw [hg]
      by_cases k0 : 0 < k
      ·
       have : ¬ (d.2.2.2 = (ds.getD (k - 1) zD).2.2.2) := fun e => hgo ⟨k0, e.symm⟩
       have e : (d.2.2.2 == (ds.getD (k - 1) zD).2.2.2) = false := by simpa using this
       rw [e, Bool.and_false]
      ·
       simp [k0]
     have e2 : fstE d.2.2.2 L.length f = f.set d.2.2.2.toNat (L.length : Int) := by unfold fstE; rw [if_pos ⟨gp, f0⟩]
     have e3 : clsE d.2.2.2 L.length f = (L.length : Int) := by
      unfold clsE
      rw [if_pos gp, e2, getD_setE f _ _ _ (by omega), if_pos rfl]
     have e1 : ncE L (goB ds k) = clsE d.2.2.2 L.length f := by rw [e0, e3]; simp [ncE]
     rw [e1]
     simp only
     rw [e2]
     refine ⟨by trivial, by rw [List.length_set]; exact h2, by rw [List.length_append]; omega, fun q hq0 hq10 hn => ?_, fun j hj hne => ?_, fun _ _ => ?_⟩
     ·
      have hqk := hn k (by omega)
      rw [hdd] at hqk
      rw [getD_setE f _ _ _ (by omega), if_neg (by omega)]
      exact h4 q hq0 hq10 (fun j hj => hn j (by omega))
     ·
      by_cases e : j = k
      ·
       subst e
       rw [hdd, getD_setE f _ _ _ (by omega), if_pos rfl]
       omega
      ·
       have nj := none j (by omega)
       have okj := okD_restE (hok j (by omega))
       rw [getD_setE f _ _ _ (by omega), if_neg (by omega)]
       exact h5 j (by omega) hne
     ·
      rw [fin, e3, getD_setE f _ _ _ (by omega), if_pos rfl]
theorem evsP_same {dss : List (List Dd)} (hb : workB dss = true) : ∀ n : Nat, n ≤ dss.length → evsP dss n = evsW dss n ∧ 1 ≤ (evsW dss n).length
 | 0, _ => ⟨rfl, by simp [evsW, evBeg]⟩
 | n + 1, h => by
  obtain ⟨h1, h2⟩ := evsP_same hb n (by omega)
  have ht := work_tog hb n (by omega)
  simp only [workB, Bool.and_eq_true, decide_eq_true_eq] at hb
  obtain ⟨⟨⟨⟨_, ha⟩, _⟩, _⟩, _⟩ := hb
  have hok := all_get [] ha n (by omega)
  simp only [okL, Bool.and_eq_true, decide_eq_true_eq] at hok
  obtain ⟨q1, _, q3, _⟩ := clkP_same (i := n) ht (fun j hj => all_get zD hok.1 j hj) h2 (dss.getD n []).length (Nat.le_refl _)
  rw [evsP, evsW, h1, q1]
  exact ⟨rfl, q3⟩
abbrev dAt (dss : List (List Dd)) (c k : Nat) : Dd := (dss.getD c []).getD k zD
def offN (dss : List (List Dd)) (c k : Nat) : Nat := (clkE c (dss.getD c []) (evsW dss c) k).1.length
def numD (d : Dd) : Nat := if d.1 = 4 then 0 else if d.1 = 3 then 2 else 1
theorem oneE_num (i k : Nat) (d : Dd) (c : Int) : (oneE i k d c).length = numD d := by
 unfold oneE numD
 split
 ·
  rfl
 ·
  split
  ·
   rfl
  ·
   split <;> rfl
def clsD (dss : List (List Dd)) (c k : Nat) : Int := clsE (dAt dss c k).2.2.2 (offN dss c k) (clkE c (dss.getD c []) (evsW dss c) k).2
theorem clk_step (dss : List (List Dd)) (c k : Nat) : (clkE c (dss.getD c []) (evsW dss c) (k + 1)).1 = (clkE c (dss.getD c []) (evsW dss c) k).1 ++ oneE c k (dAt dss c k) (clsD dss c k) := by
 rw [clkE, stepE]
 split
 ·
  rename_i h
  have e : oneE c k (dAt dss c k) (clsD dss c k) = [] := by unfold oneE; rw [if_pos h]
  rw [e, List.append_nil]
 ·
  rfl
theorem off_succ (dss : List (List Dd)) (c k : Nat) : offN dss c (k + 1) = offN dss c k + numD (dAt dss c k) := by
 unfold offN
 rw [clk_step, List.length_append, oneE_num]
theorem off_zero (dss : List (List Dd)) (c : Nat) : offN dss c 0 = (evsW dss c).length := rfl
theorem off_end (dss : List (List Dd)) (c : Nat) : (evsW dss (c + 1)).length = offN dss c (dss.getD c []).length := rfl
theorem clk_pre (dss : List (List Dd)) (c k : Nat) : ∀ n : Nat, k ≤ n → ∃ t, (clkE c (dss.getD c []) (evsW dss c) n).1 = (clkE c (dss.getD c []) (evsW dss c) k).1 ++ t
 | 0, h => by
  obtain rfl : k = 0 := by omega
  exact ⟨[], by simp⟩
 | n + 1, h => by
  by_cases e : k = n + 1
  ·
   subst e; exact ⟨[], by simp⟩
  ·
   obtain ⟨t, ht⟩ := clk_pre dss c k n (by omega)
   exact ⟨t ++ oneE c n (dAt dss c n) (clsD dss c n), by rw [clk_step, ht, List.append_assoc]⟩
theorem evs_pre (dss : List (List Dd)) (c : Nat) : ∀ n : Nat, c ≤ n → ∃ t, evsW dss n = evsW dss c ++ t
 | 0, h => by
  obtain rfl : c = 0 := by omega
  exact ⟨[], by simp⟩
 | n + 1, h => by
  by_cases e : c = n + 1
  ·
   subst e; exact ⟨[], by simp⟩
  ·
   obtain ⟨t, ht⟩ := evs_pre dss c n (by omega)
   obtain ⟨t2, h2⟩ := clk_pre dss n 0 (dss.getD n []).length (Nat.zero_le _)
   refine ⟨t ++ t2, ?_⟩
   show (clkE n (dss.getD n []) (evsW dss n) (dss.getD n []).length).1 = _
   rw [h2]
   show evsW dss n ++ t2 = _
   rw [ht, List.append_assoc]
theorem es_at {dss : List (List Dd)} {c k n : Nat} (hc : c < n) (hk : k < (dss.getD c []).length) {i : Nat} {e : Ev} (h : (oneE c k (dAt dss c k) (clsD dss c k))[i]? = some e) : (evsW dss n)[offN dss c k + i]? = some e := by
 obtain ⟨t1, h1⟩ := evs_pre dss (c + 1) n hc
 obtain ⟨t2, h2⟩ := clk_pre dss c (k + 1) (dss.getD c []).length hk
 rw [h1]
 refine at_left t1 ?_
 show (clkE c (dss.getD c []) (evsW dss c) (dss.getD c []).length).1[offN dss c k + i]? = some e
 rw [h2]
 refine at_left t2 ?_
 rw [clk_step, List.getElem?_append_right (by unfold offN; omega)]
 show (oneE c k (dAt dss c k) (clsD dss c k))[offN dss c k + i - offN dss c k]? = some e
 rw [show offN dss c k + i - offN dss c k = i by omega]
 exact h
theorem clk_dec (dss : List (List Dd)) (c : Nat) {j : Nat} (h0 : offN dss c 0 ≤ j) : ∀ k : Nat, j < offN dss c k → ∃ k' i, k' < k ∧ i < numD (dAt dss c k') ∧ j = offN dss c k' + i
 | 0, h => by omega
 | k + 1, h => by
  by_cases hj : j < offN dss c k
  ·
   obtain ⟨k', i, h1, h2, h3⟩ := clk_dec dss c h0 k hj
   exact ⟨k', i, by omega, h2, h3⟩
  ·
   rw [off_succ] at h
   exact ⟨k, j - offN dss c k, by omega, by omega, by omega⟩
theorem es_dec (dss : List (List Dd)) {j : Nat} (h3 : 3 ≤ j) : ∀ n : Nat, j < (evsW dss n).length → ∃ c k i, c < n ∧ k < (dss.getD c []).length ∧ i < numD (dAt dss c k) ∧ j = offN dss c k + i
 | 0, h => by simp [evsW, evBeg] at h; omega
 | n + 1, h => by
  by_cases hj : j < (evsW dss n).length
  ·
   obtain ⟨c, k, i, h1, h2⟩ := es_dec dss h3 n hj
   exact ⟨c, k, i, by omega, h2⟩
  ·
   rw [off_end] at h
   obtain ⟨k, i, h1, h2⟩ := clk_dec dss n (by rw [off_zero]; omega) _ h
   exact ⟨n, k, i, by omega, h1, h2⟩
theorem off_le (dss : List (List Dd)) (c : Nat) {k k' : Nat} (h : k ≤ k') : offN dss c k ≤ offN dss c k' := by
 obtain ⟨t, ht⟩ := clk_pre dss c k k' h
 unfold offN
 rw [ht, List.length_append]
 omega
theorem off_lt {dss : List (List Dd)} {c c' k k' : Nat} (hk : k < (dss.getD c []).length) (h : c < c' ∨ (c = c' ∧ k < k')) : offN dss c k + numD (dAt dss c k) ≤ offN dss c' k' := by
 rcases h with h | ⟨rfl, h⟩
 ·
  have h1 := off_le dss c (k := k + 1) (k' := (dss.getD c []).length) hk
  rw [off_succ] at h1
  obtain ⟨t, ht⟩ := evs_pre dss (c + 1) c' h
  have h2 := off_le dss c' (Nat.zero_le k')
  rw [off_zero, ht, List.length_append, off_end] at h2
  omega
 ·
  have h1 := off_le dss c (k := k + 1) (k' := k') h
  rw [off_succ] at h1
  exact h1
theorem off_three (dss : List (List Dd)) (c k : Nat) : 3 ≤ offN dss c k := by
 obtain ⟨t, ht⟩ := evs_pre dss 0 c (Nat.zero_le _)
 have h := off_le dss c (Nat.zero_le k)
 rw [off_zero, ht, List.length_append] at h
 simp [evsW, evBeg] at h
 omega
def OkC (dss : List (List Dd)) (c : Nat) : Prop := ∀ k, k < (dss.getD c []).length → okD (dAt dss c k) = true
theorem okC_of {dss : List (List Dd)} (h : workB dss = true) {c : Nat} (hc : c < dss.length) : OkC dss c := by
 simp only [workB, Bool.and_eq_true, decide_eq_true_eq] at h
 obtain ⟨⟨⟨⟨_, h2⟩, _⟩, _⟩, _⟩ := h
 have h3 := all_get [] h2 c hc
 unfold okL at h3
 rw [Bool.and_eq_true] at h3
 exact fun k hk => all_get zD h3.1 k hk
theorem rd_at {es : List Ev} (hx : es.length ≤ 12) {i : Nat} (hi : i < (idxB rdE es).length) : (0 ≤ (idxB rdE es).getD i 0 ∧ (idxB rdE es).getD i 0 < (es.length : Int)) ∧ (es.getD ((idxB rdE es).getD i 0).toNat zE).2.2.1 = true := by
 refine ⟨rd_in hx hi, ?_⟩
 have hm : (idxB rdE es).getD i 0 ∈ idxB rdE es := by
  rw [List.getD_eq_getElem?_getD, List.getElem?_eq_getElem hi]
  exact List.getElem_mem hi
 unfold idxB at hm ⊢
 rw [if_pos hx] at hm ⊢
 exact idxK_mem _ _ _ _ hm
theorem beg_wr {dss : List (List Dd)} (hb : workB dss = true) {j : Nat} (hj : j < 3) : ((eventsB dss).getD j zE).2.2.1 = false := by
 obtain ⟨t, ht⟩ := (evs_good (dss := dss) (by simp only [workB, Bool.and_eq_true, decide_eq_true_eq] at hb; intro i hi; have := List.all_eq_true.1 hb.1.1.1.2 _ (List.getElem_mem hi); rw [List.getD_eq_getElem?_getD, List.getElem?_eq_getElem hi]; exact this) dss.length (Nat.le_refl _)).1
 rw [eventsB, if_pos hb, ht, List.getD_eq_getElem?_getD, List.getElem?_append_left (by simp [evBeg]; omega)]
 have : j = 0 ∨ j = 1 ∨ j = 2 := by omega
 rcases this with rfl | rfl | rfl <;> rfl
def rdI (d : Dd) (i : Nat) : Bool := decide (d.1 ≠ 2) && decide (i = 0)
def vlI (d : Dd) (i : Nat) : Int := if rdI d i = true then 0 else d.2.2.1
theorem oneE_at {c k : Nat} {d : Dd} {z : Int} (hd : d.1 = 1 ∨ d.1 = 2 ∨ d.1 = 3 ∨ d.1 = 4) {i : Nat} (hi : i < numD d) : (oneE c k d z)[i]? = some ((c : Int), (k : Int), rdI d i, d.2.1, vlI d i, z) := by
 unfold numD at hi
 unfold oneE vlI rdI
 rcases hd with h | h | h | h
 ·
  rw [if_neg (by omega), if_neg (by omega)] at hi
  rw [if_neg (by omega), if_neg (by omega), if_neg (by omega)]
  obtain rfl : i = 0 := by omega
  simp [h]
 ·
  rw [if_neg (by omega), if_neg (by omega)] at hi
  rw [if_neg (by omega), if_neg (by omega), if_pos h]
  obtain rfl : i = 0 := by omega
  simp [h]
 ·
  rw [if_neg (by omega), if_pos h] at hi
  rw [if_neg (by omega), if_pos h]
  rcases (by omega : i = 0 ∨ i = 1) with rfl | rfl
  ·
   simp [h]
  ·
   simp
 ·
  rw [if_pos h] at hi
  omega
structure EvIs (dss : List (List Dd)) (j c k i : Nat) : Prop where
 hc : c < dss.length
 hk : k < (dss.getD c []).length
 hi : i < numD (dAt dss c k)
 hj : j = offN dss c k + i
theorem ev_dec {dss : List (List Dd)} (hb : workB dss = true) {j : Nat} (h3 : 3 ≤ j) (hj : j < (eventsB dss).length) : ∃ c k i, EvIs dss j c k i := by
 rw [eventsB, if_pos hb] at hj
 obtain ⟨c, k, i, h1, h2, h4, h5⟩ := es_dec dss h3 dss.length hj
 exact ⟨c, k, i, h1, h2, h4, h5⟩
theorem EvIs.at {dss : List (List Dd)} (hb : workB dss = true) {j c k i : Nat} (h : EvIs dss j c k i) : (eventsB dss).getD j zE = ((c : Int), (k : Int), rdI (dAt dss c k) i, (dAt dss c k).2.1, vlI (dAt dss c k) i, clsD dss c k) := by
 have hd := okD_kindE (okC_of hb h.hc k h.hk)
 rw [eventsB, if_pos hb, List.getD_eq_getElem?_getD, h.hj, es_at h.hc h.hk (oneE_at hd h.hi)]
 rfl
theorem EvIs.lt {dss : List (List Dd)} (hb : workB dss = true) {j c k i : Nat} (h : EvIs dss j c k i) : 3 ≤ j ∧ j < (eventsB dss).length := by
 have hd := okD_kindE (okC_of hb h.hc k h.hk)
 have h1 := es_at (n := dss.length) h.hc h.hk (oneE_at (z := clsD dss c k) (c := c) (k := k) hd h.hi)
 have h2 := off_three dss c k
 rw [eventsB, if_pos hb, h.hj]
 exact ⟨by omega, (List.getElem?_eq_some_iff.1 h1).1⟩
theorem EvIs.ord {dss : List (List Dd)} {j c k i j' c' k' i' : Nat} (h : EvIs dss j c k i) (h' : EvIs dss j' c' k' i') : j < j' ↔ c < c' ∨ (c = c' ∧ (k < k' ∨ (k = k' ∧ i < i'))) := by
 have e1 := h.hj
 have e2 := h'.hj
 have l1 := h.hi
 have l2 := h'.hi
 constructor
 ·
  intro hlt
  by_cases a : c < c'
  ·
   exact .inl a
  by_cases b : c' < c
  ·
   have := off_lt (k' := k) h'.hk (.inl b); omega
  obtain rfl : c = c' := by omega
  refine .inr ⟨rfl, ?_⟩
  by_cases a : k < k'
  ·
   exact .inl a
  by_cases b : k' < k
  ·
   have := off_lt (c' := c) (k' := k) h'.hk (.inr ⟨rfl, b⟩); omega
  obtain rfl : k = k' := by omega
  exact .inr ⟨rfl, by omega⟩
 ·
  rintro (a | ⟨rfl, a | ⟨rfl, a⟩⟩)
  ·
   have := off_lt (k' := k') h.hk (.inl a); omega
  ·
   have := off_lt (c' := c) (k' := k') h.hk (.inr ⟨rfl, a⟩); omega
  ·
   omega
theorem EvIs.one {dss : List (List Dd)} {j c k i c' k' i' : Nat} (h : EvIs dss j c k i) (h' : EvIs dss j c' k' i') : c = c' ∧ k = k' ∧ i = i' := by
 have a := h.ord h'
 have b := h'.ord h
 by_cases hc : c = c'
 ·
  subst hc
  by_cases hk : k = k'
  ·
   subst hk
   exact ⟨rfl, rfl, by have := h.hj; have := h'.hj; omega⟩
  ·
   by_cases hlt : k < k'
   ·
    have := a.2 (.inr ⟨rfl, .inl hlt⟩); omega
   ·
    have := b.2 (.inr ⟨rfl, .inl (by omega)⟩); omega
 ·
  by_cases hlt : c < c'
  ·
   have := a.2 (.inl hlt); omega
  ·
   have := b.2 (.inl (by omega)); omega
theorem beg_ck {dss : List (List Dd)} (hb : workB dss = true) {j : Nat} (hj : j < 3) : ((eventsB dss).getD j zE).1 = -1 := by
 obtain ⟨t, ht⟩ := (evs_good (dss := dss) (by simp only [workB, Bool.and_eq_true, decide_eq_true_eq] at hb; intro i hi; have := List.all_eq_true.1 hb.1.1.1.2 _ (List.getElem_mem hi); rw [List.getD_eq_getElem?_getD, List.getElem?_eq_getElem hi]; exact this) dss.length (Nat.le_refl _)).1
 rw [eventsB, if_pos hb, ht, List.getD_eq_getElem?_getD, List.getElem?_append_left (by simp [evBeg]; omega)]
 have : j = 0 ∨ j = 1 ∨ j = 2 := by omega
 rcases this with rfl | rfl | rfl <;> rfl
theorem ow_cell {dss : List (List Dd)} {f : List Int} (h : sourceB dss f = true) : (owB dss f).length = (eventsB dss).length ∧ (fwB dss f).length = (eventsB dss).length ∧
  ∀ i k : Nat, i < (eventsB dss).length → k < (eventsB dss).length → inSetB ((owB dss f).getD i 0) (k : Int) = (inSetB ((fwB dss f).getD i 0) (k : Int) && (decide (i < 3) || (((eventsB dss).getD i zE).1 != ((eventsB dss).getD k zE).1))) := by
 have hbs := h
 rw [sourceB, Bool.and_eq_true] at hbs
 obtain ⟨hb, hs⟩ := hbs
 have hx := eventsB_12 dss
 obtain ⟨sl, su⟩ := src_use hx hs
 have wf := fw_line (f := f) hx (idxB rdE (eventsB dss)).length (fun i hi => rd_in hx hi) (fun i hi => (su i hi).1)
 have wo := web_offAll (p := owP (eventsB dss)) (st := fwL (eventsB dss) f) wf.1 (eventsB dss).length (Nat.le_refl _)
 have eo : owB dss f = owL (eventsB dss) f := by rw [owB, if_pos h]
 have ef : fwB dss f = fwL (eventsB dss) f := by rw [fwB, if_pos h]
 refine ⟨by rw [eo]; exact wo.1.2.1, by rw [ef]; exact wf.1.2.1, fun i k hi hk => ?_⟩
 rw [eo, ef]
 have h1 := wo.2 i k hi
 have e1 : line (owL (eventsB dss) f) i k = (line (fwL (eventsB dss) f) i k && !owP (eventsB dss) i k) := by
  unfold owL
  rw [h1]
  simp [hi, hk]
 unfold line at e1
 rw [e1]
 congr 1
 unfold owP
 by_cases h3 : i < 3
 ·
  simp [h3, show ¬ 3 ≤ i by omega]
 ·
  by_cases k3 : k < 3
  ·
   have a := beg_ck hb k3
   obtain ⟨c, q, m, E⟩ := ev_dec hb (show 3 ≤ i by omega) hi
   have b := E.at hb
   rw [a, b]
   have : ((c : Int) != -1) = true := by simp
   simp [h3, this, show ¬ 3 ≤ k by omega]
  ·
   simp [h3, show 3 ≤ i by omega, show 3 ≤ k by omega, bne]
theorem owB_len (dss : List (List Dd)) (f : List Int) : (owB dss f).length ≤ 12 := by
 cases h : sourceB dss f with
 | true => rw [(ow_cell h).1]; exact eventsB_12 dss
 | false => rw [owB, h]; simp
def linI (i : Nat) (l : List Int) : List (Int × Int) := l.map (fun j => ((i : Int), j))
def linK (zs : List Int) : Nat → List (Int × Int)
 | 0 => []
 | k + 1 => linK zs k ++ linI k (mem (zs.getD k 0) 12)
def linL (zs : List Int) : List (Int × Int) := linK zs zs.length
def othP (es : List Ev) (x : Int × Int) : Bool := (es.getD x.1.toNat zE).1 != (es.getD x.2.toNat zE).1
def othL (es : List Ev) (zs : List Int) : List (Int × Int) := (linL zs).filter (othP es)
def drwK (n : Nat) (l : List (Int × Int)) (k : Nat) : List Int := fwK n (l.map (·.2)) (l.map (·.1)) k
theorem lin_iff (zs : List Int) (x : Int × Int) : ∀ k : Nat, x ∈ linK zs k ↔ ∃ a j : Nat, a < k ∧ j < 12 ∧ x = ((a : Int), (j : Int)) ∧ line zs a j = true
 | 0 => by simp [linK]
 | k + 1 => by
  rw [linK, List.mem_append, lin_iff zs x k, linI, List.mem_map]
  constructor
  ·
   rintro (⟨a, j, ha, hj, hx, hl⟩ | ⟨j, hj, rfl⟩)
   ·
    exact ⟨a, j, by omega, hj, hx, hl⟩
   ·
    obtain ⟨m, hm, rfl, hi⟩ := (mem_iff _ _ _).1 hj
    exact ⟨k, m, by omega, hm, rfl, hi⟩
  ·
   rintro ⟨a, j, ha, hj, rfl, hl⟩
   by_cases e : a = k
   ·
    subst e
    exact .inr ⟨j, (mem_iff _ _ _).2 ⟨j, hj, rfl, hl⟩, rfl⟩
   ·
    exact .inl ⟨a, j, by omega, hj, rfl, hl⟩
theorem lin_len (zs : List Int) : ∀ k : Nat, (linK zs k).length ≤ k * 12
 | 0 => by simp [linK]
 | k + 1 => by
  have := lin_len zs k
  have h2 := mem_len (zs.getD k 0) 12
  rw [linK, List.length_append, linI, List.length_map, Nat.add_mul]
  omega
theorem pr_get (l : List (Int × Int)) (i : Nat) (hi : i < l.length) : ((l.map (·.1)).getD i 0, (l.map (·.2)).getD i 0) = l[i] := by
 rw [List.getD_eq_getElem?_getD, List.getD_eq_getElem?_getD, List.getElem?_map, List.getElem?_map, List.getElem?_eq_getElem hi]
 rfl
theorem lin_in {n : Nat} {zs : List Int} (hz : Web n zs) {x : Int × Int} (h : x ∈ linL zs) : ∃ a j : Nat, x = ((a : Int), (j : Int)) ∧ a < n ∧ j < n ∧ line zs a j = true := by
 unfold linL at h
 rw [hz.2.1] at h
 obtain ⟨a, j, ha, -, rfl, hl⟩ := (lin_iff zs x n).1 h
 exact ⟨a, j, rfl, ha, hz.lt ha hl, hl⟩
theorem drw_web {n : Nat} {zs : List Int} (hz : Web n zs) {l : List (Int × Int)} (hl : ∀ x ∈ l, x ∈ linL zs) : ∀ k : Nat, k ≤ l.length →
  Web n (drwK n l k) ∧ ∀ a j : Nat, a < n → (line (drwK n l k) a j = true ↔ ((a : Int), (j : Int)) ∈ l.take k) := by
 intro k hk
 have hb : ∀ i, i < k → ∃ a j : Nat, (l.map (·.1)).getD i 0 = (a : Int) ∧ (l.map (·.2)).getD i 0 = (j : Int) ∧ a < n ∧ j < n := by
  intro i hi
  have e := pr_get l i (by omega)
  obtain ⟨a, j, hx, ha, hj, -⟩ := lin_in hz (hl _ (List.getElem_mem (show i < l.length by omega)))
  rw [hx] at e
  exact ⟨a, j, congrArg Prod.fst e, congrArg Prod.snd e, ha, hj⟩
 have F := fw_line (n := n) (rs := l.map (·.2)) (f := l.map (·.1)) hz.1 k
  (fun i hi => by obtain ⟨a, j, h1, h2, h3, h4⟩ := hb i hi; rw [h2]; omega)
  (fun i hi => by obtain ⟨a, j, h1, h2, h3, h4⟩ := hb i hi; rw [h1]; omega)
 refine ⟨F.1, fun a j ha => ?_⟩
 rw [drwK, F.2 a j ha]
 constructor
 ·
  rintro ⟨i, hi, h1, h2⟩
  have e := pr_get l i (by omega)
  rw [h1, h2] at e
  rw [e]
  exact List.mem_take_iff_getElem.2 ⟨i, by omega, rfl⟩
 ·
  intro h
  obtain ⟨i, hi, e⟩ := List.mem_take_iff_getElem.1 h
  have e2 := pr_get l i (by omega)
  rw [e] at e2
  exact ⟨i, by omega, congrArg Prod.fst e2, congrArg Prod.snd e2⟩
theorem oth_sub (es : List Ev) (zs : List Int) : ∀ x ∈ othL es zs, x ∈ linL zs := fun _ h => (List.mem_filter.1 h).1
theorem fo_same {dss : List (List Dd)} {f : List Int} (h : sourceB dss f = true) : drwK (eventsB dss).length (othL (eventsB dss) (fwB dss f)) (othL (eventsB dss) (fwB dss f)).length = owB dss f := by
 have hbs := h
 rw [sourceB, Bool.and_eq_true] at hbs
 obtain ⟨hb, hs⟩ := hbs
 have hx := eventsB_12 dss
 obtain ⟨sl, su⟩ := src_use hx hs
 have wf := fw_line (f := f) hx (idxB rdE (eventsB dss)).length (fun i hi => rd_in hx hi) (fun i hi => (su i hi).1)
 have wo := web_offAll (p := owP (eventsB dss)) (st := fwL (eventsB dss) f) wf.1 (eventsB dss).length (Nat.le_refl _)
 have eo : owB dss f = owL (eventsB dss) f := by rw [owB, if_pos h]
 have ef : fwB dss f = fwL (eventsB dss) f := by rw [fwB, if_pos h]
 have OC := (ow_cell h).2.2
 have WF : Web (eventsB dss).length (fwB dss f) := by rw [ef]; exact wf.1
 have WO : Web (eventsB dss).length (owB dss f) := by rw [eo]; exact wo.1
 have WD := drw_web WF (oth_sub (eventsB dss) (fwB dss f)) _ (Nat.le_refl _)
 refine Web.ext WD.1 WO (fun i j hi hj => ?_)
 rw [Bool.eq_iff_iff, WD.2 i j hi, List.take_length]
 unfold line
 rw [OC i j hi hj, othL, List.mem_filter]
 unfold linL
 rw [WF.2.1, lin_iff]
 have e1 : (∃ a m : Nat, a < (eventsB dss).length ∧ m < 12 ∧ ((i : Int), (j : Int)) = ((a : Int), (m : Int)) ∧ line (fwB dss f) a m = true) ↔ inSetB ((fwB dss f).getD i 0) (j : Int) = true := by
  constructor
  ·
   rintro ⟨a, m, _, _, e, hl⟩
   have e1 := congrArg Prod.fst e
   have e2 := congrArg Prod.snd e
   simp only at e1 e2
   obtain rfl : i = a := by omega
   obtain rfl : j = m := by omega
   exact hl
  ·
   intro hl
   exact ⟨i, j, hi, by omega, rfl, hl⟩
 rw [e1, Bool.and_eq_true]
 refine and_congr_right (fun hl => ?_)
 have hr : ((eventsB dss).getD j zE).2.2.1 = true := by
  rw [ef] at hl
  obtain ⟨k, hk, -, h2⟩ := (wf.2 i j hi).1 hl
  have := (rd_at hx hk).2
  rw [h2] at this
  exact this
 have j3 : 3 ≤ j := by
  by_cases h3 : j < 3
  ·
   rw [beg_wr hb h3] at hr; cases hr
  ·
   omega
 unfold othP
 dsimp only
 rw [Int.toNat_natCast, Int.toNat_natCast]
 by_cases i3 : i < 3
 ·
  have a := beg_ck hb i3
  obtain ⟨c, q, m, E⟩ := ev_dec hb j3 hj
  have b := E.at hb
  rw [a, b]
  simp [i3]
 ·
  simp [i3]
theorem fo_none {dss : List (List Dd)} {f : List Int} (h : sourceB dss f = false) : fwB dss f = [] ∧ owB dss f = [] := by
 rw [fwB, owB, h]
 exact ⟨rfl, rfl⟩
theorem inSize_any (x : Int) (w : World) :
  Calls Try.prog 63 #[.int .i64 x] w fun e w' => e = .returned (.bool (inB x 0 11)) ∧ w' = w := by
 go_enter Try.func63, Try.ntmps63
 go_wp2
 all_goals
  go_ret
  exact ⟨ret_bool (by rw [Bool.eq_iff_iff]; unfold inB; simp; omega), rfl⟩
theorem isOf_any (n s : Int) (w : World) :
  Calls Try.prog 70 #[.int .i64 s, .int .i64 n] w fun e w' => e = .returned (.bool (okB n s)) ∧ w' = w := by
 go_enter Try.func70, Try.ntmps70
 go_wp2
 ·
  go_ret
  exact ⟨ret_bool (by rw [wrap64_pow n (by assumption) (by assumption), Bool.eq_iff_iff]; unfold okB; simp; omega), rfl⟩
 all_goals
  go_ret
  exact ⟨ret_bool (by rw [Bool.eq_iff_iff]; unfold okB; simp; omega), rfl⟩
theorem has_any (s i : Int) (w : World) :
  Calls Try.prog 62 #[.int .i64 s, .int .i64 i] w fun e w' => e = .returned (.bool (inSetB s i)) ∧ w' = w := by
 have key : okB 12 s = inB s 0 4095 := by rw [Bool.eq_iff_iff]; unfold okB inB; simp; omega
 cases hs : inB s 0 4095
 ·
  have hk : okB 12 s = false := key.trans hs
  clear key
  go_enter Try.func62, Try.ntmps62
  go_wp2_with (go_at_call 70; refine (isOf_any _ _ _).mono ?_; rintro e w' ⟨rfl, rfl⟩)
  go_ret
  exact ⟨ret_bool (by simp [inSetB, hs]), rfl⟩
 ·
  have hk : okB 12 s = true := key.trans hs
  clear key
  cases hi : inB i 0 11
  ·
   go_enter Try.func62, Try.ntmps62
   go_wp2_with (first | (go_at_call 70; refine (isOf_any _ _ _).mono ?_; rintro e w' ⟨rfl, rfl⟩) | (go_at_call 63; refine (inSize_any _ _).mono ?_; rintro e w' ⟨rfl, rfl⟩))
   go_ret
   exact ⟨ret_bool (by simp [inSetB, hi]), rfl⟩
  ·
   have hi' := hi
   simp only [inB, decide_eq_true_eq] at hi'
   obtain ⟨i1, i2⟩ := hi'
   go_enter Try.func62, Try.ntmps62
   go_wp2_with (first | (go_at_call 70; refine (isOf_any _ _ _).mono ?_; rintro e w' ⟨rfl, rfl⟩) | (go_at_call 63; refine (inSize_any _ _).mono ?_; rintro e w' ⟨rfl, rfl⟩))
   go_ret
   exact ⟨ret_bool (by simp [inSetB, hs, hi, bitB]), rfl⟩
theorem mem_hit (s : Int) (k : Nat) (h : inSetB s k = true) : mem s (k + 1) = mem s k ++ [(k : Int)] := by simp [mem, h]
theorem mem_miss (s : Int) (k : Nat) (h : inSetB s k = false) : mem s (k + 1) = mem s k := by simp [mem, h]
set_option maxRecDepth 100000 in
set_option maxHeartbeats 400000 in
theorem chosen_has (s : Int) (w : World) :
  Calls Try.prog 61 #[.func (Fn.func 62) #[.int .i64 s] #[]] w fun e w' => ∃ v', e = .returned v' ∧ Own w' w.heap.size v' (mem s 12) ∧ Keep w w' := by
 have hown0 : Own (w.alloc (.cells #[] 2)) w.heap.size (.slice (some ⟨w.heap.size, 0, none⟩) 0 0) [] := World.ownsRow_lit w #[] 0 (Nat.le_refl _) (by decide) rfl
 obtain ⟨i0, hi, hz0, hz1, hz2⟩ := info_parts Try.infoI
 go_enter Try.func61, Try.ntmps61
 go_wp2
 go_loopw [3, 6] (fun v i wr => ∃ k : Nat, k ≤ 12 ∧ i = .int .i64 k ∧ Own wr w.heap.size v (mem s k) ∧ Keep w wr) (fun _ i _ => 12 - (intOf i).toNat)
 case atStart => exact ⟨0, Nat.zero_le _, rfl, hown0, (Keep.refl _).alloc _⟩
 case round =>
  obtain ⟨k, hk, rfl, ho, hK⟩ := hrel
  clear hown0
  by_cases hlt : k < 12
  ·
   have hml := mem_len s k
   have hsz := hK.size
   cases hb : inSetB s k
   ·
    have HM : Hid (mem s (k + 1) = mem s k) := mem_miss s k hb
    go_wp2_with (go_at_call 62; refine (has_any _ _ _).mono ?_; rintro e w' ⟨rfl, rfl⟩)
    go_roundw
    case rel => exact ⟨k + 1, by omega, by go_num, by rw [HM.out]; exact ho, hK⟩
    case measure => simp [intOf]; omega
   ·
    have HM : Hid (mem s (k + 1) = mem s k ++ [(k : Int)]) := mem_hit s k hb
    go_wp2_with (first | (go_at_call 62; refine (has_any _ _ _).mono ?_; rintro e w' ⟨rfl, rfl⟩) | (at_builtin; refine wpList_append_own _ rfl _ _ 23 rfl w.heap.size 2 i0 (.int .i64 0) 1 8 Try.underlying23 hi hz0 hz1 hz2 rfl (by decide) _ _ _ rfl (World.ownsRow.alloc ho _) ⟨_, 0, none⟩ 1 1 [.int .i64 k] rfl rfl ?c1 ?c2 ?c3 ?c4 ?c5 ?_))
    case c1 =>
     intro j u hj
     match j, hj with
     | 0, hj => simp at hj; subst hj; simp [Addr.add]
    case c2 => intro u hu; simp at hu; subst hu; rfl
    case c3 => unfold maxLen; omega
    case c4 => omega
    case c5 => simp; omega
    intro v' w1 hown' hgrow _
    have hK1 : Keep w w1 := (hK.alloc _).grown hgrow ho.ge
    clear hgrow
    go_wp2
    go_roundw
    case rel => exact ⟨k + 1, by omega, by go_num, by rw [HM.out]; exact own_hit hown', hK1⟩
    case measure => simp [intOf]; omega
  ·
   obtain rfl : k = 12 := by omega
   go_wp2
   go_ret
   exact ⟨_, rfl, ho, hK⟩
theorem implMembers_any (s : Int) (w : World) :
  Calls Try.prog 42 #[.int .i64 s] w fun e w' => ∃ v', e = .returned v' ∧ Own w' w.heap.size v' (mem s 12) ∧ Keep w w' := by
 go_enter Try.func42, Try.ntmps42
 go_wp2_with (go_at_call 61; refine (chosen_has _ _).mono ?_; rintro e w' ⟨v', rfl, ho, hK⟩)
 go_ret
 exact ⟨_, rfl, ho, hK⟩
def RdL (w : World) (v : Value) (zss : List (List Int)) : Prop :=
 ∃ (a : Option Addr) (cap : Nat), v = .slice a zss.length cap ∧
  (zss = [] ∨ ∃ b off, a = some ⟨b, off, none⟩ ∧ b < w.heap.size ∧ ∀ i, i < zss.length → ∃ vi, w.cell? ⟨b, off + i, none⟩ = some vi ∧ Rd w vi (zss.getD i []))
theorem RdL.keep {w w' : World} {v : Value} {zss : List (List Int)} (h : RdL w v zss) (k : Keep w w') : RdL w' v zss := by
 obtain ⟨a, cap, hv, h⟩ := h
 refine ⟨a, cap, hv, ?_⟩
 rcases h with h | ⟨b, off, ha, hb, hc⟩
 ·
  exact .inl h
 ·
  refine .inr ⟨b, off, ha, Nat.lt_of_lt_of_le hb k.size, fun i hi => ?_⟩
  obtain ⟨vi, h1, h2⟩ := hc i hi
  exact ⟨vi, (k.cell hb).trans h1, h2.keep k⟩
theorem Rd.keptR {w w' : World} {v : Value} {zs : List Int} {row : Option Nat} (h : Rd w v zs) (hg : w.grownBy w' row) (hne : v.ownBlock = none ∨ v.ownBlock ≠ row) : Rd w' v zs := by
 obtain ⟨a, cap, rfl, h⟩ := h
 refine ⟨a, cap, rfl, ?_⟩
 rcases h with h | ⟨b, off, rfl, hb, hc⟩
 ·
  exact .inl h
 ·
  refine .inr ⟨b, off, rfl, Nat.lt_of_lt_of_le hb hg.size, fun i hi => ?_⟩
  rw [World.cell?_of_block (w := w) (hg.block b hb (fun e => by rcases hne with h | h <;> simp [Value.ownBlock] at h; exact h e))]
  exact hc i hi
def capZ : Value → Nat
 | .slice _ _ c => c
 | _ => 0
theorem Own.capz {w : World} {base : Nat} {v : Value} {zs : List Int} (h : Own w base v zs) : zs.length ≤ capZ v := by
 rcases h.2 with ⟨rfl, hz⟩ | ⟨g, cap, cur, rfl, hb, hg, hc, _⟩
 ·
  rw [hz]; exact Nat.zero_le _
 ·
  exact hc
structure Beside (w : World) (x u : Value) (zs : List Int) : Prop where
 rd : Rd w u zs
 ne : u.ownBlock = none ∨ u.ownBlock ≠ x.ownBlock
 lt : ∀ k, u.ownBlock = some k → k < w.heap.size
 cap : zs.length ≤ capZ u
theorem Beside.keep {w w' : World} {x u : Value} {zs : List Int} (h : Beside w x u zs) (k : Keep w w') : Beside w' x u zs :=
 ⟨h.rd.keep k, h.ne, fun j hj => Nat.lt_of_lt_of_le (h.lt j hj) k.size, h.cap⟩
theorem Beside.grow {w w' : World} {x x' u : Value} {zs : List Int} (h : Beside w x u zs) (hg : w.grownBy w' x.ownBlock) (hb : x'.ownBlock = x.ownBlock ∨ x'.ownBlock = some w.heap.size) : Beside w' x' u zs := by
 refine ⟨h.rd.keptR hg h.ne, ?_, fun j hj => Nat.lt_of_lt_of_le (h.lt j hj) hg.size, h.cap⟩
 rcases hb with hb | hb
 ·
  rw [hb]; exact h.ne
 ·
  cases hu : u.ownBlock with
  | none => exact .inl rfl
  | some k => exact .inr (fun e => by rw [hb] at e; have := h.lt k hu; have := Option.some.inj e; omega)
theorem Own.beside {w' : World} {x u : Value} {zs : List Int} {base : Nat} (h : Own w' base u zs) (hx : ∀ k, x.ownBlock = some k → k < base) : Beside w' x u zs :=
 ⟨h.rd, by
  cases hu : u.ownBlock with
  | none => exact .inl rfl
  | some k => exact .inr (fun e => by have := hx k e.symm; have := h.ge k hu; omega), fun k hk => (World.ownsRow.lt h k hk).2, h.capz⟩
structure AppL (w : World) (base : Nat) (x : Value) (vs : List Value) (zss : List (List Int)) : Prop where
 row : w.ownsRow base 23 1 x zss.length vs
 each : ∀ i u, vs[i]? = some u → Beside w x u (zss.getD i [])
theorem AppL.keep {w w' : World} {base : Nat} {x : Value} {vs : List Value} {zss : List (List Int)} (h : AppL w base x vs zss) (k : Keep w w') : AppL w' base x vs zss :=
 ⟨World.ownsRow.kept h.row k.grownBy (by cases x.ownBlock <;> simp), fun i u hu => (h.each i u hu).keep k⟩
theorem AppL.lt {w : World} {base : Nat} {x : Value} {vs : List Value} {zss : List (List Int)} (h : AppL w base x vs zss) : ∀ k, x.ownBlock = some k → base ≤ k ∧ k < w.heap.size := World.ownsRow.lt h.row
theorem AppL.rd {w : World} {base : Nat} {x : Value} {vs : List Value} {zss : List (List Int)} (h : AppL w base x vs zss) : RdL w x zss := by
 have hl := h.row.1
 have hlt := h.lt
 have h2 := h.row
 rcases h.row.2 with ⟨rfl, hz⟩ | ⟨g, cap, cur, rfl, hb, hg, _⟩
 ·
  exact ⟨none, 0, by rw [hz], .inl (List.eq_nil_of_length_eq_zero hz)⟩
 ·
  refine ⟨_, _, rfl, .inr ⟨g, 0, rfl, (hlt g rfl).2, fun i hi => ?_⟩⟩
  have hi' : i < vs.length := by omega
  refine ⟨vs[i], ?_, (h.each i _ (List.getElem?_eq_getElem hi')).rd⟩
  rw [Nat.zero_add, World.ownsRow.cellAt h2 i (by omega), List.getElem?_eq_getElem hi']
def RdLC (w : World) (v : Value) (zss : List (List Int)) : Prop :=
 ∃ (a : Option Addr) (cap : Nat), v = .slice a zss.length cap ∧
  (zss = [] ∨ ∃ b off, a = some ⟨b, off, none⟩ ∧ b < w.heap.size ∧ ∀ i, i < zss.length → ∃ vi, w.cell? ⟨b, off + i, none⟩ = some vi ∧ Rd w vi (zss.getD i []) ∧ (zss.getD i []).length ≤ capZ vi)
theorem RdLC.rd {w : World} {v : Value} {zss : List (List Int)} (h : RdLC w v zss) : RdL w v zss := by
 obtain ⟨a, cap, hv, h⟩ := h
 refine ⟨a, cap, hv, ?_⟩
 rcases h with h | ⟨b, off, ha, hb, hc⟩
 ·
  exact .inl h
 ·
  refine .inr ⟨b, off, ha, hb, fun i hi => ?_⟩
  obtain ⟨vi, h1, h2, _⟩ := hc i hi
  exact ⟨vi, h1, h2⟩
theorem appL_empty (w : World) : AppL (w.alloc (.cells #[] 23)) w.heap.size (.slice (some ⟨w.heap.size, 0, none⟩) 0 0) [] [] :=
 ⟨World.ownsRow_lit w #[] 0 (Nat.le_refl _) (by decide) (by simp), by simp⟩
theorem AppL.push {w w' : World} {base : Nat} {x x' u : Value} {vs : List Value} {zss : List (List Int)} {zs : List Int} (h : AppL w base x vs zss) (hu : Beside w x u zs)
  (ho : w'.ownsRow base 23 1 x' (zss.length + 1) (vs ++ [u])) (hg : w.grownBy w' x.ownBlock) (hb : x'.ownBlock = x.ownBlock ∨ x'.ownBlock = some w.heap.size) : AppL w' base x' (vs ++ [u]) (zss ++ [zs]) := by
 have hl := h.row.1
 refine ⟨by rw [List.length_append]; exact ho, fun i y hy => ?_⟩
 by_cases hi : i < vs.length
 ·
  rw [List.getElem?_append_left hi] at hy
  have := (h.each i y hy).grow hg hb
  rw [List.getD_eq_getElem?_getD, List.getElem?_append_left (by omega), ← List.getD_eq_getElem?_getD]
  exact this
 ·
  have hi2 : i = vs.length := by
   have := (List.getElem?_eq_some_iff.1 hy).1
   simp at this
   omega
  subst hi2
  rw [List.getElem?_append_right (Nat.le_refl _), Nat.sub_self] at hy
  simp only [List.getElem?_cons_zero, Option.some.injEq] at hy
  subst hy
  rw [List.getD_eq_getElem?_getD, List.getElem?_append_right (by omega), show vs.length - zss.length = 0 by omega]
  exact hu.grow hg hb
theorem Try.infoL : (Try.prog.info? 23).map (fun i => (i.zero, i.size, i.bytes)) = some (some (.slice none 0 0), 1, 24) := by kernel_rfl
theorem linI_hit (k : Nat) (ms : List Int) (m : Nat) (hm : m < ms.length) : linI k (ms.take (m + 1)) = linI k (ms.take m) ++ [((k : Int), ms.getD m 0)] := by
 unfold linI
 rw [take_snoc ms m hm, List.map_append]
 rfl
theorem app_start {w : World} {base : Nat} {x : Value} {P : List (Int × Int)} (h : AppLn w base x P) (k : Nat) (ms : List Int) : AppLn w base x (P ++ linI k (ms.take 0)) := by
 simpa [linI] using h
set_option maxRecDepth 100000 in
set_option maxHeartbeats 2000000 in
theorem linesIn_any (w : World) (v : Value) (zs : List Int) (h : Rd w v zs) (hn : zs.length ≤ 12) :
  Calls Try.prog 21 #[v] w fun e w' => ∃ v', e = .returned v' ∧ AppLn w' w.heap.size v' (linL zs) ∧ Keep w w' := by
 obtain ⟨j0, hj, hy0, hy1, hy2⟩ := info_parts Try.infoLn
 have A0 : AppLn (w.alloc (.cells #[] 47)) w.heap.size (.slice (some ⟨w.heap.size, 0, none⟩) 0 0) [] := appT_empty w
 have HL : Hid (linL zs = linK zs zs.length) := Lib.hid rfl
 obtain ⟨a, cap, rfl, h⟩ := h
 go_enter Try.func21, Try.ntmps21
 go_wp2
 go_loopw [3, 11] (fun x i wr => ∃ k : Nat, k ≤ zs.length ∧ i = .int .i64 k ∧ AppLn wr w.heap.size x (linK zs k) ∧ Keep w wr) (fun _ i _ => zs.length - (intOf i).toNat)
 case atStart => exact ⟨0, Nat.zero_le _, rfl, A0, (Keep.refl _).alloc _⟩
 case round =>
  obtain ⟨k, hk, rfl, ho, hK⟩ := hrel
  clear A0
  by_cases hlt : k < zs.length
  ·
   rcases h with h | ⟨b, off, rfl, hb, hc⟩
   ·
    exfalso; rw [h] at hlt; simp at hlt
   have d1 := (hK.cell hb).trans (hc k hlt)
   have hbw : b < wr.heap.size := Nat.lt_of_lt_of_le hb hK.size
   clear hc
   have HP : Hid (linK zs (k + 1) = linK zs k ++ linI k (mem (zs.getD k 0) 12)) := Lib.hid rfl
   have hml := mem_len (zs.getD k 0) 12
   have hll := lin_len zs k
   have i1 : (0 : Int) ≤ (k : Int) := Int.natCast_nonneg _
   have i2 : (k : Int) < (zs.length : Int) := by omega
   generalize zs.getD k 0 = s at *
   generalize linK zs k = P at *
   go_wp2_with fail
   refine (implMembers_any _ _).mono ?_
   rintro e w2 ⟨vm, rfl, om, k2⟩
   generalize mem s 12 = ms at *
   have B2 := om.beside (fun g hg => (ho.lt g hg).2)
   have ho2 := app_start (ho.keep k2) k ms
   have hK2 := hK.trans k2
   obtain ⟨am, cm, rfl, -⟩ := id B2.rd
   clear om k2 ho hK d1 hbw
   go_wp2
   go_loopw [3, 19] (fun x i wr => ∃ m : Nat, m ≤ ms.length ∧ i = .int .i64 m ∧ AppLn wr w.heap.size x (P ++ linI k (ms.take m)) ∧ Keep w wr ∧ Beside wr x (.slice am ms.length cm) ms) (fun _ i _ => ms.length - (intOf i).toNat)
   case atStart => exact ⟨0, Nat.zero_le _, rfl, ho2, hK2, B2⟩
   case round =>
    clear ho2 hK2 B2
    obtain ⟨m, hm, rfl, ho, hK, B⟩ := hrel
    by_cases hmt : m < ms.length
    ·
     obtain ⟨a', c', he', hR'⟩ := id B.rd
     simp only [Value.slice.injEq, true_and] at he'
     obtain ⟨rfl, rfl⟩ := he'
     rcases hR' with h0 | ⟨bm, om, rfl, hbm, hcm⟩
     ·
      exfalso; rw [h0] at hmt; simp at hmt
     have d1 := hcm m hmt
     clear hcm
     have HM : Hid (P ++ linI k (ms.take (m + 1)) = P ++ linI k (ms.take m) ++ [((k : Int), ms.getD m 0)]) := Lib.hid (by rw [linI_hit k ms m hmt, List.append_assoc])
     have hql : (P ++ linI k (ms.take m)).length ≤ 300 := by
      rw [List.length_append, linI, List.length_map, List.length_take]
      omega
     generalize P ++ linI k (ms.take m) = Q at *
     generalize ms.getD m 0 = y at *
     have j1 : (0 : Int) ≤ (m : Int) := Int.natCast_nonneg _
     have j2 : (m : Int) < (ms.length : Int) := by omega
     have hsz := hK.size
     have ho3 := ho.keep ((Keep.refl wr).alloc (lnO k y))
     have K3 := hK.alloc (lnO k y)
     have B3 := B.keep ((Keep.refl wr).alloc (lnO k y))
     go_wp2_with (at_builtin; refine wpList_append_own_at _ rfl _ _ 43 rfl w.heap.size 47 j0 (.agg #[.int .i64 0, .int .i64 0]) 2 16 Try.underlying43 hj hy0 hy1 hy2 rfl (by decide) _ _ _ rfl ho3 ⟨_, 0, none⟩ 1 1 (cLn ((k : Int), y)) rfl rfl ?c1 ?c2 ?c3 ?c4 ?c5 ?_)
     case c1 => exact cLn_new _ _ rfl _ _
     case c2 => exact cLn_one _
     case c3 => unfold maxLen; omega
     case c4 => omega
     case c5 => simp; omega
     intro v' w1 hown' hgrow _ hblk
     have B4 := B3.grow hgrow (by rw [heap_size]; exact hblk)
     have K4 := K3.grown hgrow ho3.ge
     have A4 := appT_hit hown'
     rw [← HM.out] at A4
     clear hgrow hown' hblk ho3 K3 B3 B hK ho d1 HM
     go_wp2
     go_roundw
     case rel => exact ⟨m + 1, by omega, by go_num, A4, K4, B4⟩
     case measure => simp [intOf]; omega
    ·
     obtain rfl : m = ms.length := by omega
     rw [List.take_length, ← HP.out] at ho
     go_wp2
     go_roundw
     case rel => exact ⟨k + 1, by omega, by go_num, ho, hK⟩
     case measure => simp [intOf]; omega
  ·
   obtain rfl : k = zs.length := by omega
   go_wp2
   go_ret
   exact ⟨_, rfl, by rw [HL.out]; exact ho, hK⟩
def cE (e : Ev) : List Value := [.int .i64 e.1, .int .i64 e.2.1, .bool e.2.2.1, .int .i64 e.2.2.2.1, .int .i64 e.2.2.2.2.1, .int .i64 e.2.2.2.2.2]
theorem cE_len (e : Ev) : (cE e).length = 6 := rfl
theorem Try.infoE : (Try.prog.info? 49).map (fun i => (i.zero, i.size, i.bytes)) = some (some (.agg #[.int .i64 0, .int .i64 0, .bool false, .int .i64 0, .int .i64 0, .int .i64 0]), 6, 48) := by kernel_rfl
abbrev RdE (w : World) (v : Value) (es : List Ev) : Prop := RdT cE 6 w v es
abbrev AppE (w : World) (base : Nat) (v : Value) (es : List Ev) : Prop := AppT cE 49 6 w base v es
theorem atE {w : World} {b o : Nat} {x0 x1 : Int} {r : Bool} {x3 x4 x5 : Int} (h : AtT cE w b o (x0, x1, r, x3, x4, x5)) :
  w.cell? ⟨b, o, none⟩ = some (.int .i64 x0) ∧ w.cell? ⟨b, o + 1, none⟩ = some (.int .i64 x1) ∧ w.cell? ⟨b, o + 2, none⟩ = some (.bool r) ∧ w.cell? ⟨b, o + 3, none⟩ = some (.int .i64 x3) ∧ w.cell? ⟨b, o + 4, none⟩ = some (.int .i64 x4) ∧ w.cell? ⟨b, o + 5, none⟩ = some (.int .i64 x5) :=
 ⟨h 0 _ rfl, h 1 _ rfl, h 2 _ rfl, h 3 _ rfl, h 4 _ rfl, h 5 _ rfl⟩
theorem AppE.rd {w : World} {base : Nat} {v : Value} {es : List Ev} (h : AppE w base v es) : RdE w v es := AppT.rd cE_len h
theorem evs_get {es : List Ev} {i : Nat} (h : i < es.length) : es[i]? = some (es.getD i zE) := by
 rw [List.getD_eq_getElem?_getD, List.getElem?_eq_getElem h]; rfl
set_option maxRecDepth 100000 in
set_option maxHeartbeats 1000000 in
theorem other_any (w : World) (v : Value) (es : List Ev) (h : RdE w v es) (A : Nat) (hA : w.cell? ⟨A, 0, none⟩ = some v) (hAl : A < w.heap.size) (i j : Nat) (hi : i < es.length) (hj : j < es.length) :
  Calls Try.prog 23 #[.agg #[.int .i64 i, .int .i64 j], .pointer (some ⟨A, 0, none⟩)] w fun e w' => e = .returned (.bool (othP es ((i : Int), (j : Int)))) ∧ Keep w w' := by
 obtain ⟨a, c, rfl, h⟩ := h
 rcases h with h | ⟨b, off, rfl, hb, hc⟩
 ·
  exfalso; rw [h] at hi; simp at hi
 have K0 : Keep w (w.alloc (lnO i j)) := (Keep.refl w).alloc _
 have a1 := (K0.cell hAl).trans hA
 have AI := (hc i _ (evs_get hi)).keep hb K0
 have AJ := (hc j _ (evs_get hj)).keep hb K0
 have HP : Hid (othP es ((i : Int), (j : Int)) = ((es.getD i zE).1 != (es.getD j zE).1)) := Lib.hid (by unfold othP; dsimp only; rw [Int.toNat_natCast, Int.toNat_natCast])
 clear hc hA
 generalize othP es ((i : Int), (j : Int)) = T at *
 generalize es.getD i zE = x at *
 generalize es.getD j zE = y at *
 obtain ⟨x0, x1, x2, x3, x4, x5⟩ := x
 obtain ⟨y0, y1, y2, y3, y4, y5⟩ := y
 obtain ⟨A3, -, -, -, -, -⟩ := atE AI
 obtain ⟨B3, -, -, -, -, -⟩ := atE AJ
 clear AI AJ
 have i1 : (0 : Int) ≤ (i : Int) := Int.natCast_nonneg _
 have i2 : (i : Int) < (es.length : Int) := by omega
 have j1 : (0 : Int) ≤ (j : Int) := Int.natCast_nonneg _
 have j2 : (j : Int) < (es.length : Int) := by omega
 have l1 := box_cell (w := w) (cs := #[.int .i64 i, .int .i64 j]) (t := 47) (Keep.refl _) 0
 have l2 := box_cell (w := w) (cs := #[.int .i64 i, .int .i64 j]) (t := 47) (Keep.refl _) 1
 go_enter Try.func23, Try.ntmps23
 go_wp2
 go_quiet (fail)
 go_wp2
 go_ret
 exact ⟨ret_bool (by rw [HP.out]), K0.drewN _⟩
set_option maxRecDepth 100000 in
set_option maxHeartbeats 2000000 in
theorem only_any (w : World) (v u : Value) (l : List (Int × Int)) (es : List Ev) (hl : RdLn w v l) (hn : l.length ≤ 144) (h : RdE w u es) (A : Nat) (hA : w.cell? ⟨A, 0, none⟩ = some u) (hAl : A < w.heap.size) (hin : ∀ x ∈ l, ∃ i j : Nat, x = ((i : Int), (j : Int)) ∧ i < es.length ∧ j < es.length) :
  Calls Try.prog 22 #[v, .func (Fn.func 23) #[] #[.pointer (some ⟨A, 0, none⟩)]] w fun e w' => ∃ v', e = .returned v' ∧ AppLn w' w.heap.size v' (l.filter (othP es)) ∧ Keep w w' := by
 obtain ⟨j0, hj, hy0, hy1, hy2⟩ := info_parts Try.infoLn
 have A0 : AppLn (w.alloc (.cells #[] 47)) w.heap.size (.slice (some ⟨w.heap.size, 0, none⟩) 0 0) [] := appT_empty w
 have C := fun (W : World) (k : Keep w W) (i q : Nat) (hi : i < es.length) (hq : q < es.length) => other_any W u es (h.keep k) A ((k.cell hAl).trans hA) (Nat.lt_of_lt_of_le hAl k.size) i q hi hq
 have HIN := Lib.hid hin
 have HC := Lib.hid C
 clear hin C h hA
 obtain ⟨a, c, rfl, hl⟩ := hl
 go_enter Try.func22, Try.ntmps22
 go_wp2
 go_loopw [5, 11] (fun x i wr => ∃ k : Nat, k ≤ l.length ∧ i = .int .i64 k ∧ AppLn wr w.heap.size x ((l.take k).filter (othP es)) ∧ Keep w wr) (fun _ i _ => l.length - (intOf i).toNat)
 case atStart => exact ⟨0, Nat.zero_le _, rfl, A0, (Keep.refl _).alloc _⟩
 case round =>
  obtain ⟨k, hk, rfl, ho, hK⟩ := hrel
  clear A0
  by_cases hlt : k < l.length
  ·
   rcases hl with h | ⟨b, off, rfl, hb, hc⟩
   ·
    exfalso; rw [h] at hlt; simp at hlt
   have AT := (hc k _ (ln_get hlt)).keep hb hK
   have hbw : b < wr.heap.size := Nat.lt_of_lt_of_le hb hK.size
   clear hc
   have hmem : l.getD k (0, 0) ∈ l := by
    rw [List.getD_eq_getElem?_getD, List.getElem?_eq_getElem hlt]
    exact List.getElem_mem hlt
   obtain ⟨i, q, hx, hi, hq⟩ := HIN.out _ hmem
   clear hmem
   have HP : Hid ((l.take (k + 1)).filter (othP es) = (l.take k).filter (othP es) ++ if othP es ((i : Int), (q : Int)) = true then [((i : Int), (q : Int))] else []) := Lib.hid (by
    rw [List.take_succ_eq_append_getElem hlt, List.filter_append]
    have e : l[k] = ((i : Int), (q : Int)) := by
     rw [List.getD_eq_getElem?_getD, List.getElem?_eq_getElem hlt] at hx
     exact hx
    rw [e, List.filter_cons, List.filter_nil])
   rw [hx] at AT
   clear hx
   obtain ⟨d1, d2⟩ := atLn AT
   clear AT
   have hll : ((l.take k).filter (othP es)).length ≤ 144 := by
    have := List.length_filter_le (othP es) (l.take k)
    rw [List.length_take] at this
    omega
   generalize (l.take k).filter (othP es) = P at *
   have i1 : (0 : Int) ≤ (k : Int) := Int.natCast_nonneg _
   have i2 : (k : Int) < (l.length : Int) := by omega
   have C := HC.out _ (hK.alloc (lnO i q)) i q hi hq
   generalize othP es ((i : Int), (q : Int)) = T at *
   go_wp2_with fail
   refine C.mono ?_
   rintro e w2 ⟨rfl, k2⟩
   have b0 := box_cell k2 0
   have b1 := box_cell k2 1
   simp at b0 b1
   have K1 := (Keep.refl wr).alloc (lnO i q) |>.trans k2
   have ho2 := ho.keep K1
   have hK2 := hK.trans K1
   have z2 := box_size k2
   clear ho hK k2 K1 d1 d2 C
   cases T
   ·
    rw [if_neg (by simp), List.append_nil] at HP
    go_wp2
    go_roundw
    case rel => exact ⟨k + 1, by omega, by go_num, by rw [HP.out]; exact ho2, hK2⟩
    case measure => simp [intOf]; omega
   ·
    rw [if_pos rfl] at HP
    have hsz := hK2.size
    have ho3 := ho2.keep ((Keep.refl w2).alloc (lnO i q))
    have K3 := hK2.alloc (lnO i q)
    go_wp2_with (at_builtin; refine wpList_append_own_at _ rfl _ _ 43 rfl w.heap.size 47 j0 (.agg #[.int .i64 0, .int .i64 0]) 2 16 Try.underlying43 hj hy0 hy1 hy2 rfl (by decide) _ _ _ rfl ho3 ⟨_, 0, none⟩ 1 1 (cLn ((i : Int), (q : Int))) rfl rfl ?c1 ?c2 ?c3 ?c4 ?c5 ?_)
    case c1 => exact cLn_new _ _ rfl _ _
    case c2 => exact cLn_one _
    case c3 => unfold maxLen; omega
    case c4 => omega
    case c5 => simp; omega
    intro v' w1 hown' hgrow _ _
    have K4 := K3.grown hgrow ho3.ge
    have A4 := appT_hit hown'
    rw [← HP.out] at A4
    clear hgrow hown' ho3 K3 hK2 ho2 HP b0 b1
    go_wp2
    go_roundw
    case rel => exact ⟨k + 1, by omega, by go_num, A4, K4⟩
    case measure => simp [intOf]; omega
  ·
   obtain rfl : k = l.length := by omega
   rw [List.take_length] at ho
   go_wp2
   go_ret
   exact ⟨_, rfl, ho, hK⟩
structure But (C : Nat → Prop) (w w' : World) : Prop where
 os : w'.os = w.os
 tape : w'.tape = w.tape
 output : w'.output = w.output
 size : w.heap.size ≤ w'.heap.size
 block : ∀ k, k < w.heap.size → ¬ C k → w'.heap[k]? = w.heap[k]?
theorem But.refl (C : Nat → Prop) (w : World) : But C w w := ⟨rfl, rfl, rfl, Nat.le_refl _, fun _ _ _ => rfl⟩
theorem But.trans {C : Nat → Prop} {a b c : World} (h : But C a b) (k : But C b c) : But C a c :=
 ⟨k.os.trans h.os, k.tape.trans h.tape, k.output.trans h.output, Nat.le_trans h.size k.size, fun i hi hn => (k.block i (Nat.lt_of_lt_of_le hi h.size) hn).trans (h.block i hi hn)⟩
theorem But.mono {C C' : Nat → Prop} {a b : World} (h : But C a b) (hc : ∀ k, k < a.heap.size → C k → C' k) : But C' a b :=
 ⟨h.os, h.tape, h.output, h.size, fun i hi hn => h.block i hi (fun e => hn (hc i hi e))⟩
theorem But.of_below {C : Nat → Prop} {a b : World} (h : Below a.heap.size a b) : But C a b := ⟨h.os, h.tape, h.output, h.size, fun i hi _ => h.block i hi⟩
theorem But.of_grown {C : Nat → Prop} {a b : World} {row : Option Nat} (h : a.grownBy b row) (hr : ∀ k, row = some k → C k) : But C a b :=
 ⟨h.os, h.tape, h.output, h.size, fun i hi hn => h.block i hi (fun e => hn (hr i e.symm))⟩
theorem But.alloc {C : Nat → Prop} {a b : World} (h : But C a b) (o : Obj) : But C a (b.alloc o) := h.trans (But.of_grown (World.grownBy_alloc b o none) (by simp))
theorem But.put {C : Nat → Prop} {a b : World} (h : But C a b) {l : Nat} (hl : C l) (o : Obj) : But C a (b.putObj l o) := h.trans (But.of_grown (grownBy_putObj' b l o) (fun k e => by cases e; exact hl))
theorem But.setCell {C : Nat → Prop} {a b : World} (h : But C a b) {l : Nat} (hl : C l) (o : Nat) (v : Value) : But C a (b.setCell ⟨l, o, none⟩ v) :=
 h.trans ⟨rfl, rfl, rfl, by simp [World.setCell], fun k _ hn => Below.heap_setCell _ _ _ _ (fun e => hn (by rw [e]; exact hl))⟩
theorem But.drew {C : Nat → Prop} {a b : World} (h : But C a b) : But C a b.drew := h.trans ⟨rfl, rfl, rfl, Nat.le_refl _, fun _ _ _ => rfl⟩
def RowAt (w : World) (g : Nat) (zs : List Int) : Prop :=
 ∃ (cur : Array Value) (e : TypeId), w.heap[g]? = some (.cells cur e (0, 0)) ∧ cur.toList.take zs.length = zs.map (Value.int .i64)
theorem RowAt.lt {w : World} {g : Nat} {zs : List Int} (h : RowAt w g zs) : g < w.heap.size := by
 obtain ⟨cur, e, hh, _⟩ := h
 exact (Array.getElem?_eq_some_iff.1 hh).1
theorem RowAt.cell {w : World} {g : Nat} {zs : List Int} (h : RowAt w g zs) {j : Nat} (hj : j < zs.length) : w.cell? ⟨g, j, none⟩ = some (.int .i64 (zs.getD j 0)) := by
 obtain ⟨cur, e, hh, ht⟩ := h
 rw [cell_of_row w g j cur e (0, 0) hh]
 have h1 : (cur.toList.take zs.length)[j]? = (zs.map (Value.int .i64))[j]? := by rw [ht]
 rw [List.getElem?_take, if_pos hj, List.getElem?_map, List.getElem?_eq_getElem hj] at h1
 rw [List.getD_eq_getElem?_getD, List.getElem?_eq_getElem hj]
 simpa using h1
theorem RowAt.free {w : World} {g : Nat} {zs : List Int} (h : RowAt w g zs) (j : Nat) : w.frozen? ⟨g, j, none⟩ = false := by
 obtain ⟨cur, e, hh, _⟩ := h
 exact frozen_of_row w g j _ _ hh
theorem RowAt.kept {w w' : World} {g : Nat} {zs : List Int} {row : Option Nat} (h : RowAt w g zs) (hg : w.grownBy w' row) (hne : row ≠ some g) : RowAt w' g zs := by
 have hlt := h.lt
 obtain ⟨cur, e, hh, ht⟩ := h
 exact ⟨cur, e, by rw [hg.block g hlt (fun e => hne e.symm)]; exact hh, ht⟩
theorem RowAt.keep {w w' : World} {g : Nat} {zs : List Int} (h : RowAt w g zs) (k : Keep w w') : RowAt w' g zs := h.kept k.grownBy (by simp)
theorem grown_set (w : World) (g j : Nat) (v : Value) : w.grownBy (w.setCell ⟨g, j, none⟩ v) (some g) :=
 ⟨rfl, rfl, rfl, by simp, fun k _ hk => heap_setCell_other w ⟨g, j, none⟩ k v (fun e => hk (by simp [e]))⟩
theorem grown_draw (w : World) (n : Nat) (row : Option Nat) : w.grownBy (w.drewN n) row := ⟨rfl, rfl, rfl, Nat.le_refl _, fun _ _ _ => rfl⟩
theorem grown_drew (w : World) (row : Option Nat) : w.grownBy w.drew row := ⟨rfl, rfl, rfl, Nat.le_refl _, fun _ _ _ => rfl⟩
theorem RowAt.drewN {w : World} {g : Nat} {zs : List Int} (h : RowAt w g zs) (n : Nat) : RowAt (w.drewN n) g zs := h.kept (row := none) (grown_draw w n none) (by simp)
theorem RowAt.drew {w : World} {g : Nat} {zs : List Int} (h : RowAt w g zs) : RowAt w.drew g zs := h.kept (row := none) (grown_drew w none) (by simp)
theorem take_set_val (l : List Value) (zs : List Int) (j : Nat) (x : Int) (h : l.take zs.length = zs.map (Value.int .i64)) :
  (l.set j (.int .i64 x)).take (zs.set j x).length = (zs.set j x).map (Value.int .i64) := by
 rw [List.length_set, List.take_set, h, List.map_set]
theorem RowAt.set {w : World} {g : Nat} {zs : List Int} (h : RowAt w g zs) (j : Nat) (x : Int) : RowAt (w.setCell ⟨g, j, none⟩ (.int .i64 x)) g (zs.set j x) := by
 obtain ⟨cur, e, hh, ht⟩ := h
 refine ⟨cur.setIfInBounds j (.int .i64 x), e, ?_, ?_⟩
 ·
  rw [heap_setCell_same w g j _ _ _ hh]
 ·
  rw [Array.toList_setIfInBounds]
  exact take_set_val _ zs j x ht
def Row (w : World) (base : Nat) (v : Value) (zs : List Int) : Prop :=
 (v = .slice none 0 0 ∧ zs = []) ∨ ∃ g cap, v = .slice (some ⟨g, 0, none⟩) zs.length cap ∧ base ≤ g ∧ RowAt w g zs
theorem Own.row {w : World} {base : Nat} {v : Value} {zs : List Int} (h : Own w base v zs) : Row w base v zs := by
 rcases h.2 with ⟨rfl, hn⟩ | ⟨g, cap, cur, rfl, hb, hg, _, _, _, ht⟩
 ·
  exact .inl ⟨rfl, List.eq_nil_of_length_eq_zero hn⟩
 ·
  exact .inr ⟨g, cap, rfl, hb, cur, _, hg, by rw [Nat.mul_one] at ht; exact ht⟩
theorem Row.lt {w : World} {base : Nat} {v : Value} {zs : List Int} (h : Row w base v zs) : ∀ k, v.ownBlock = some k → base ≤ k ∧ k < w.heap.size := by
 intro k hk
 rcases h with ⟨rfl, _⟩ | ⟨g, cap, rfl, hb, hr⟩
 ·
  simp [Value.ownBlock] at hk
 ·
  simp [Value.ownBlock] at hk; subst hk; exact ⟨hb, hr.lt⟩
theorem Row.ge {w : World} {base : Nat} {v : Value} {zs : List Int} (h : Row w base v zs) : ∀ k, v.ownBlock = some k → base ≤ k := fun k hk => (h.lt k hk).1
theorem Row.kept {w w' : World} {base : Nat} {v : Value} {zs : List Int} {row : Option Nat} (h : Row w base v zs) (hg : w.grownBy w' row) (hne : v.ownBlock = none ∨ v.ownBlock ≠ row) : Row w' base v zs := by
 rcases h with h | ⟨g, cap, rfl, hb, hr⟩
 ·
  exact .inl h
 ·
  refine .inr ⟨g, cap, rfl, hb, hr.kept hg ?_⟩
  simp [Value.ownBlock] at hne
  exact fun e => hne e.symm
theorem Row.keep {w w' : World} {base : Nat} {v : Value} {zs : List Int} (h : Row w base v zs) (k : Keep w w') : Row w' base v zs :=
 h.kept k.grownBy (by cases v.ownBlock <;> simp)
theorem Row.rd {w : World} {base : Nat} {v : Value} {zs : List Int} (h : Row w base v zs) : Rd w v zs := by
 rcases h with ⟨rfl, rfl⟩ | ⟨g, cap, rfl, hb, hr⟩
 ·
  exact ⟨none, 0, rfl, .inl rfl⟩
 ·
  exact ⟨some ⟨g, 0, none⟩, cap, rfl, .inr ⟨g, 0, rfl, hr.lt, fun i hi => by rw [Nat.zero_add]; exact hr.cell hi⟩⟩
theorem Row.base_le {w : World} {base base' : Nat} {v : Value} {zs : List Int} (h : Row w base v zs) (hb : base' ≤ base) : Row w base' v zs := by
 rcases h with h | ⟨g, cap, hv, hg, hr⟩
 ·
  exact .inl h
 ·
  exact .inr ⟨g, cap, hv, Nat.le_trans hb hg, hr⟩
theorem Row.apart {w w' : World} {base : Nat} {v v' : Value} {zs zs' : List Int} (h : Row w base v zs) (h' : Row w' w.heap.size v' zs') : v.ownBlock = none ∨ v.ownBlock ≠ v'.ownBlock := by
 cases hv : v.ownBlock with
 | none => exact .inl rfl
 | some k =>
  refine .inr fun e => ?_
  have h1 := (h.lt k hv).2
  have h2 := h'.ge k e.symm
  omega
theorem row_new {w : World} {g n cap base : Nat} {zs : List Int} (h : RowAt w g zs) (hb : base ≤ g) (hn : zs.length = n) : Row w base (.slice (some ⟨g, 0, none⟩) n cap) zs := by
 subst hn; exact .inr ⟨g, cap, rfl, hb, h⟩
theorem row_empty (w : World) (e : TypeId) : Row (w.alloc (.cells #[] e)) w.heap.size (.slice (some ⟨w.heap.size, 0, none⟩) 0 0) [] :=
 .inr ⟨w.heap.size, 0, rfl, Nat.le_refl _, #[], e, heap_alloc_new w _, rfl⟩
theorem But.cell {C : Nat → Prop} {w w' : World} (h : But C w w') {b o : Nat} (hb : b < w.heap.size) (hn : ¬ C b) : w'.cell? ⟨b, o, none⟩ = w.cell? ⟨b, o, none⟩ := World.cell?_of_block (w := w) (h.block b hb hn)
theorem But.free {C : Nat → Prop} {w w' : World} (h : But C w w') {b o : Nat} (hb : b < w.heap.size) (hn : ¬ C b) : w'.frozen? ⟨b, o, none⟩ = w.frozen? ⟨b, o, none⟩ := World.frozen?_of_block (w := w) (h.block b hb hn)
theorem But.drewN {C : Nat → Prop} {a b : World} (h : But C a b) (n : Nat) : But C a (b.drewN n) := h.trans ⟨rfl, rfl, rfl, Nat.le_refl _, fun _ _ _ => rfl⟩
theorem But.keep {C : Nat → Prop} {a b c : World} (h : But C a b) (k : Keep b c) : But C a c := h.trans (But.of_below k)
def RdR (s1 s2 : Nat) (w : World) (v : Value) (zs : List Int) : Prop :=
 ∃ (a : Option Addr) (cap : Nat), v = .slice a zs.length cap ∧
  (zs = [] ∨ ∃ b off, a = some ⟨b, off, none⟩ ∧ s1 ≤ b ∧ b < s2 ∧ ∀ i, i < zs.length → w.cell? ⟨b, off + i, none⟩ = some (.int .i64 (zs.getD i 0)))
theorem RdR.rd {s1 s2 : Nat} {w : World} {v : Value} {zs : List Int} (h : RdR s1 s2 w v zs) (hs : s2 ≤ w.heap.size) : Rd w v zs := by
 obtain ⟨a, cap, rfl, h⟩ := h
 refine ⟨a, cap, rfl, ?_⟩
 rcases h with h | ⟨b, off, rfl, h1, h2, hc⟩
 ·
  exact .inl h
 ·
  exact .inr ⟨b, off, rfl, by omega, hc⟩
def RdP (s1 s2 : Nat) (w : World) (v : Value) (n : Nat) (css : List (List Int)) : Prop :=
 n ≤ css.length ∧ ∃ (a : Option Addr) (cap : Nat), v = .slice a n cap ∧ n ≤ cap ∧
  (n = 0 ∨ ∃ b off, a = some ⟨b, off, none⟩ ∧ s1 ≤ b ∧ b < s2 ∧ ∀ i, i < n → ∃ vi, w.cell? ⟨b, off + i, none⟩ = some vi ∧ RdR s1 s2 w vi (css.getD i []))
theorem AppL.rdp {w : World} {base : Nat} {x : Value} {vs : List Value} {zss : List (List Int)} (h : AppL w base x vs zss) (hge : ∀ (i : Nat) u, vs[i]? = some u → ∀ k, u.ownBlock = some k → base ≤ k) : RdP base w.heap.size w x zss.length zss := by
 have hl := h.row.1
 have hlt := h.lt
 have h2 := h.row
 refine ⟨Nat.le_refl _, ?_⟩
 rcases h.row.2 with ⟨rfl, hz⟩ | ⟨g, cap, cur, rfl, hb, hg, hcap, _⟩
 ·
  exact ⟨none, 0, by rw [hz], by omega, .inl hz⟩
 ·
  refine ⟨_, _, rfl, hcap, .inr ⟨g, 0, rfl, hb, (hlt g rfl).2, fun i hi => ?_⟩⟩
  have hi' : i < vs.length := by omega
  have hE := h.each i _ (List.getElem?_eq_getElem hi')
  refine ⟨vs[i], ?_, ?_⟩
  ·
   rw [Nat.zero_add, World.ownsRow.cellAt h2 i (by omega), List.getElem?_eq_getElem hi']
  ·
   have hG := hge i _ (List.getElem?_eq_getElem hi')
   obtain ⟨a, c, e, hr⟩ := hE.rd
   refine ⟨a, c, e, ?_⟩
   rcases hr with hr | ⟨b, off, rfl, hb2, hc2⟩
   ·
    exact .inl hr
   ·
    exact .inr ⟨b, off, rfl, hG b (by rw [e]; rfl), hb2, hc2⟩
theorem RdP.rdl {s1 s2 : Nat} {w : World} {v : Value} {css : List (List Int)} (h : RdP s1 s2 w v css.length css) (hs : s2 ≤ w.heap.size) : RdL w v css := by
 obtain ⟨_, a, cap, rfl, _, h⟩ := h
 refine ⟨a, cap, rfl, ?_⟩
 rcases h with h | ⟨b, off, rfl, h1, h2, h3⟩
 ·
  exact .inl (List.eq_nil_of_length_eq_zero h)
 ·
  refine .inr ⟨b, off, rfl, by omega, fun i hi => ?_⟩
  obtain ⟨vi, e1, e2⟩ := h3 i hi
  exact ⟨vi, e1, e2.rd hs⟩
def tstE (f : Ev → Bool) (es : List Ev) (k : Nat) : Bool := decide (k < es.length) && f (es.getD k zE)
def chK (f : Ev → Bool) (es : List Ev) : Nat → List Int
 | 0 => []
 | k + 1 => if tstE f es k = true then chK f es k ++ [(k : Int)] else chK f es k
theorem chK_min (f : Ev → Bool) (es : List Ev) : ∀ k, chK f es k = idxK f es (min k es.length)
 | 0 => by simp [chK, idxK]
 | k + 1 => by
  rw [chK, chK_min f es k]
  by_cases h : k < es.length
  ·
   rw [show min (k + 1) es.length = k + 1 by omega, show min k es.length = k by omega, idxK]
   simp [tstE, h]
  ·
   rw [show min (k + 1) es.length = min k es.length by omega]
   simp [tstE, h]
theorem chK_all (f : Ev → Bool) (es : List Ev) (k : Nat) (h : es.length ≤ k) : chK f es k = idxK f es es.length := by
 rw [chK_min, Nat.min_eq_right h]
theorem chK_len (f : Ev → Bool) (es : List Ev) (k : Nat) : (chK f es k).length ≤ k := by
 rw [chK_min]
 have := idxK_len f es (min k es.length)
 omega
theorem rClo_any (x0 x1 : Int) (x2 : Bool) (x3 x4 x5 : Int) (w : World) :
  Calls Try.prog 54 #[.agg #[.int .i64 x0, .int .i64 x1, .bool x2, .int .i64 x3, .int .i64 x4, .int .i64 x5]] w fun e w' => e = .returned (.bool (rdE (x0, x1, x2, x3, x4, x5))) ∧ Keep w w' := by
 go_enter Try.func54, Try.ntmps54
 go_wp2
 go_ret
 exact ⟨rfl, (Keep.refl w).alloc _⟩
set_option maxRecDepth 100000 in
set_option maxHeartbeats 2000000 in
theorem rNum_any (w : World) (v : Value) (es : List Ev) (h : RdE w v es) (k : Nat) (A B : Nat) (hA : w.cell? ⟨A, 0, none⟩ = some v) (hAl : A < w.heap.size) (hB : w.cell? ⟨B, 0, none⟩ = some (.func (Fn.func 54) #[] #[])) (hBl : B < w.heap.size) :
  Calls Try.prog 66 #[.int .i64 k, .pointer (some ⟨A, 0, none⟩), .pointer (some ⟨B, 0, none⟩)] w fun e w' => e = .returned (.bool (tstE rdE es k)) ∧ Keep w w' := by
 obtain ⟨a, c, rfl, h⟩ := h
 by_cases hlt : k < es.length
 ·
  rcases h with h | ⟨b, o, rfl, hb, hc⟩
  ·
   exfalso; rw [h] at hlt; simp at hlt
  have AT := hc k _ (evs_get hlt)
  have HE : Hid (tstE rdE es k = rdE (es.getD k zE)) := Lib.hid (by unfold tstE; simp [hlt])
  clear hc
  obtain ⟨e, he⟩ : ∃ e, e = es.getD k zE := ⟨_, rfl⟩
  rw [← he] at AT HE
  clear he
  obtain ⟨x0, x1, x2, x3, x4, x5⟩ := e
  obtain ⟨d0, d1, d2, d3, d4, d5⟩ := atE AT
  clear AT
  have i1 : (0 : Int) ≤ (k : Int) := Int.natCast_nonneg _
  have i2 : (k : Int) < (es.length : Int) := by omega
  have z1 : b < w.drew.heap.size := hb
  have z2 : A < w.drew.heap.size := hAl
  have z3 : B < w.drew.heap.size := hBl
  go_enter Try.func66, Try.ntmps66
  go_wp2_with fail
  go_region_held3 (fun w' => w'.cell? ⟨A, 0, none⟩ = some (.slice (some ⟨b, o, none⟩) es.length (es.length + c)) ∧ w'.cell? ⟨B, 0, none⟩ = some (.func (Fn.func 54) #[] #[]) ∧ w'.cell? ⟨b, o + k * 6, none⟩ = some (.int .i64 x0) ∧ w'.cell? ⟨b, o + k * 6 + 1, none⟩ = some (.int .i64 x1) ∧ w'.cell? ⟨b, o + k * 6 + 2, none⟩ = some (.bool x2) ∧ w'.cell? ⟨b, o + k * 6 + 3, none⟩ = some (.int .i64 x3) ∧ w'.cell? ⟨b, o + k * 6 + 4, none⟩ = some (.int .i64 x4) ∧ w'.cell? ⟨b, o + k * 6 + 5, none⟩ = some (.int .i64 x5))
   (first | go_keep | (go_split_ands; refine ⟨?_, ?_, ?_, ?_, ?_, ?_, ?_, ?_⟩ <;> (rw [kk.cell (by assumption)]; assumption)))
   ((go_at_call 54; refine (rClo_any x0 x1 x2 x3 x4 x5 _).mono ?_; rintro e wz ⟨rfl, kk⟩))
  all_goals
   go_wp2
   go_ret
   exact ⟨by rw [HE.out]; rfl, ((Keep.refl w).drew).trans kk⟩
 ·
  have HE : Hid (tstE rdE es k = false) := Lib.hid (by unfold tstE; simp [hlt])
  have i2 : ¬ ((k : Int) < (es.length : Int)) := by omega
  go_enter Try.func66, Try.ntmps66
  go_wp2_with fail
  go_quiet (fail)
  go_wp2
  go_ret
  exact ⟨by rw [HE.out]; rfl, (Keep.refl w).drewN _⟩
set_option maxRecDepth 100000 in
set_option maxHeartbeats 1000000 in
theorem rChosen_any (w : World) (v : Value) (es : List Ev) (h : RdE w v es) (hx : es.length ≤ 12) (A B : Nat) (hA : w.cell? ⟨A, 0, none⟩ = some v) (hAl : A < w.heap.size) (hB : w.cell? ⟨B, 0, none⟩ = some (.func (Fn.func 54) #[] #[])) (hBl : B < w.heap.size) :
  Calls Try.prog 61 #[.func (Fn.func 66) #[] #[.pointer (some ⟨A, 0, none⟩), .pointer (some ⟨B, 0, none⟩)]] w fun e w' => ∃ v', e = .returned v' ∧ Own w' w.heap.size v' (idxK rdE es es.length) ∧ Keep w w' := by
 have hown0 : Own (w.alloc (.cells #[] 2)) w.heap.size (.slice (some ⟨w.heap.size, 0, none⟩) 0 0) [] := World.ownsRow_lit w #[] 0 (Nat.le_refl _) (by decide) rfl
 obtain ⟨i0, hi, hz0, hz1, hz2⟩ := info_parts Try.infoI
 go_enter Try.func61, Try.ntmps61
 go_wp2
 go_loopw [3, 6] (fun v i wr => ∃ k : Nat, k ≤ 12 ∧ i = .int .i64 k ∧ Own wr w.heap.size v (chK rdE es k) ∧ Keep w wr) (fun _ i _ => 12 - (intOf i).toNat)
 case atStart => exact ⟨0, Nat.zero_le _, rfl, hown0, (Keep.refl _).alloc _⟩
 case round =>
  obtain ⟨k, hk, rfl, ho, hK⟩ := hrel
  clear hown0
  by_cases hlt : k < 12
  ·
   have hml := chK_len rdE es k
   have hsz := hK.size
   have C := rNum_any wr v es (h.keep hK) k A B (by rw [hK.cell hAl]; exact hA) (Nat.lt_of_lt_of_le hAl hK.size) (by rw [hK.cell hBl]; exact hB) (Nat.lt_of_lt_of_le hBl hK.size)
   clear h hA hB
   cases hb : tstE rdE es k
   ·
    have HM : Hid (chK rdE es (k + 1) = chK rdE es k) := Lib.hid (by rw [chK, hb]; rfl)
    rw [hb] at C
    go_wp2_with fail
    refine C.mono ?_
    rintro e w1 ⟨rfl, k1⟩
    go_wp2
    go_roundw
    case rel => exact ⟨k + 1, by omega, by go_num, by rw [HM.out]; exact ho.keep k1, hK.trans k1⟩
    case measure => simp [intOf]; omega
   ·
    have HM : Hid (chK rdE es (k + 1) = chK rdE es k ++ [(k : Int)]) := Lib.hid (by rw [chK, hb]; rfl)
    rw [hb] at C
    go_wp2_with fail
    refine C.mono ?_
    rintro e w1 ⟨rfl, k1⟩
    have ho1 := ho.keep k1
    have hK1 := hK.trans k1
    have hsz1 := hK1.size
    clear ho hK C
    go_wp2_with (at_builtin; refine wpList_append_own _ rfl _ _ 23 rfl w.heap.size 2 i0 (.int .i64 0) 1 8 Try.underlying23 hi hz0 hz1 hz2 rfl (by decide) _ _ _ rfl (World.ownsRow.alloc ho1 _) ⟨_, 0, none⟩ 1 1 [.int .i64 k] rfl rfl ?c1 ?c2 ?c3 ?c4 ?c5 ?_)
    case c1 =>
     intro j u hj
     match j, hj with
     | 0, hj => simp at hj; subst hj; simp [Addr.add]
    case c2 => intro u hu; simp at hu; subst hu; rfl
    case c3 => unfold maxLen; omega
    case c4 => omega
    case c5 => simp; omega
    intro v' w2 hown' hgrow _
    have hK2 : Keep w w2 := (hK1.alloc _).grown hgrow ho1.ge
    clear hgrow
    go_wp2
    go_roundw
    case rel => exact ⟨k + 1, by omega, by go_num, by rw [HM.out]; exact own_hit hown', hK2⟩
    case measure => simp [intOf]; omega
  ·
   obtain rfl : k = 12 := by omega
   rw [chK_all rdE es 12 hx] at ho
   go_wp2
   go_ret
   exact ⟨_, rfl, ho, hK⟩
set_option maxRecDepth 100000 in
set_option maxHeartbeats 1000000 in
theorem rNumbers_any (w : World) (v : Value) (es : List Ev) (h : RdE w v es) (hx : es.length ≤ 1048576) :
  Calls Try.prog 53 #[v, (.func (Fn.func 54) #[] #[])] w fun e w' => ∃ v', e = .returned v' ∧ Own w' w.heap.size v' (idxB rdE es) ∧ Keep w w' := by
 by_cases hl : 12 < es.length
 ·
  have HE : Hid (idxB rdE es = []) := Lib.hid (by unfold idxB; rw [if_neg (by omega)])
  have l1 : (12 : Int) < (es.length : Int) := by omega
  have O : ∀ o1 o2 : Obj, Own (((w.alloc o1).alloc o2).alloc (.cells #[] 2)) w.heap.size (.slice (some ⟨w.heap.size + 1 + 1, 0, none⟩) 0 0) [] := fun o1 o2 => by
   have q : Own (((w.alloc o1).alloc o2).alloc (.cells #[] 2)) ((w.alloc o1).alloc o2).heap.size (.slice (some ⟨((w.alloc o1).alloc o2).heap.size, 0, none⟩) 0 0) [] := World.ownsRow_lit _ #[] 0 (Nat.le_refl _) (by decide) rfl
   have z : ((w.alloc o1).alloc o2).heap.size = w.heap.size + 1 + 1 := by rw [heap_size, heap_size]
   rw [z] at q
   exact q.base_le (by omega)
  obtain ⟨a, c, rfl, h⟩ := h
  go_enter Try.func53, Try.ntmps53
  go_wp2
  go_ret
  refine ⟨_, rfl, ?_, (((Keep.refl w).alloc _).alloc _).alloc _⟩
  rw [HE.out]
  exact O _ _
 ·
  have l1 : es.length ≤ 12 := by omega
  have HE : Hid (idxB rdE es = idxK rdE es es.length) := Lib.hid (by unfold idxB; rw [if_pos l1])
  clear hl
  have C := fun (o1 o2 : Obj) => rChosen_any ((w.alloc o1).alloc o2) v es (h.keep (((Keep.refl w).alloc _).alloc _)) l1 w.heap.size (w.heap.size + 1)
  obtain ⟨a, c, rfl, h⟩ := h
  have l2 : (es.length : Int) ≤ 12 := by omega
  go_enter Try.func53, Try.ntmps53
  go_wp2_with fail
  refine (C _ _ ?g1 ?g2 ?g3 ?g4).mono ?_
  case g1 => simp
  case g2 => simp only [heap_size]; omega
  case g3 => simp
  case g4 => simp only [heap_size]; omega
  rintro e w1 ⟨v1, rfl, ho, hK⟩
  go_wp2
  go_ret
  refine ⟨_, rfl, ?_, (((Keep.refl w).alloc _).alloc _).trans hK⟩
  rw [HE.out]
  exact ho.base_le (by simp only [heap_size]; omega)
theorem implReadsOf_any (w : World) (v : Value) (es : List Ev) (h : RdE w v es) (hx : es.length ≤ 1048576) :
  Calls Try.prog 34 #[v] w fun e w' => ∃ v', e = .returned v' ∧ Own w' w.heap.size v' (idxB rdE es) ∧ Keep w w' := by
 go_enter Try.func34, Try.ntmps34
 go_wp2_with fail
 refine (rNumbers_any _ _ _ h hx).mono ?_
 rintro e w1 ⟨v1, rfl, ho, hK⟩
 go_wp2
 go_ret
 exact ⟨_, rfl, ho, hK⟩
end Go.Proofs.Ytkbkdlaknmgjpaa
