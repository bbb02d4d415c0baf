/- Plain mathematics of lines as the program draws them: from all events ahead to one, those that pass the tests. Of a right work they are the specification's. -/
import Derived.Test.YtkdebpfdiblliaaOrdEv
namespace Go.Proofs.Ytkdebpfdiblliaa
open Go.RowKit

def colIn (q : Nat → Nat → Bool) (j : Nat) (st : List Int) : Nat → List Int
  | 0 => st
  | i + 1 => if q i j = true then (colIn q j st i).set i (gAdd ((colIn q j st i).getD i 0) j) else colIn q j st i
def colAll (q : Nat → Nat → Bool) (n : Nat) : Nat → List Int
  | 0 => List.replicate n 0
  | j + 1 => colIn q j (colAll q n j) j
theorem colIn_hit {q : Nat → Nat → Bool} {j i : Nat} (st : List Int) (h : q i j = true) : colIn q j st (i + 1) = (colIn q j st i).set i (gAdd ((colIn q j st i).getD i 0) j) := if_pos h
theorem colIn_miss {q : Nat → Nat → Bool} {j i : Nat} (st : List Int) (h : q i j = false) : colIn q j st (i + 1) = colIn q j st i := if_neg (by simp [h])
theorem web_colIn {q : Nat → Nat → Bool} {n j : Nat} {st : List Int} (hj : j < n) (hst : Web n st) : ∀ m : Nat, m ≤ n →
    Web n (colIn q j st m) ∧ ∀ a b : Nat, a < n → line (colIn q j st m) a b = (line st a b || (decide (a < m) && decide (j = b) && q a j))
  | 0, _ => ⟨hst, fun a b _ => by simp [colIn]⟩
  | m + 1, hm => by
    have ih := web_colIn hj hst m (by omega) (q := q)
    cases hp : q m j with
    | false =>
      rw [colIn_miss st hp]
      refine ⟨ih.1, fun a b ha => ?_⟩
      rw [ih.2 a b ha]
      by_cases e : a = m
      · subst e; simp [hp]
      · have d : decide (a < m + 1) = decide (a < m) := decide_eq_decide.2 (by omega)
        rw [d]
    | true =>
      rw [colIn_hit st hp]
      have ha := ok_add (ih.1.2.2 m (by omega)) hj
      refine ⟨ih.1.set ha.1, fun a b haa => ?_⟩
      have e1 := ih.2 a b haa
      unfold line at e1 ⊢
      rw [getD_set _ _ _ _ (by rw [ih.1.2.1]; omega)]
      by_cases e : m = a
      · subst e
        simp only [if_true]
        rw [ha.2 b, e1]
        simp [hp]
      · simp only [e, if_false]
        rw [e1]
        have d : decide (a < m + 1) = decide (a < m) := decide_eq_decide.2 (by omega)
        rw [d]
theorem web_colAll {q : Nat → Nat → Bool} {n : Nat} (hn : n ≤ 12) : ∀ m : Nat, m ≤ n →
    Web n (colAll q n m) ∧ ∀ a b : Nat, a < n → line (colAll q n m) a b = (decide (b < m) && decide (a < b) && q a b)
  | 0, _ => ⟨Web.zero hn, fun a b _ => by unfold colAll; rw [line_zero]; simp⟩
  | m + 1, hm => by
    have ih := web_colAll hn m (by omega) (q := q)
    have h1 := web_colIn (q := q) (show m < n by omega) ih.1 m (by omega)
    refine ⟨h1.1, fun a b ha => ?_⟩
    show line (colIn q m (colAll q n m) m) a b = _
    rw [h1.2 a b ha, ih.2 a b ha]
    by_cases e : m = b
    · subst e; simp
    · have d : decide (b < m + 1) = decide (b < m) := decide_eq_decide.2 (by omega)
      rw [d]; simp [e]
/-- The program's tests of two events. -/
def isbE (a b : Ev) : Bool := (b.1 != -1) && ((a.1 == -1) || (a.1 == b.1))
def onpE (a b : Ev) : Bool := a.2.2.2.1 == b.2.2.2.1
def onceD (d : Dd) : Bool := (d.1 == 3) || (d.2.2.2 != 0)
def wtD : Dd := (4, 0, 0, 0)
def btwD (ds : List Dd) (lo hi : Nat) : Bool := (List.range (hi - lo)).any (fun i => ds.getD (lo + i) zD == wtD)
def keepE (dss : List (List Dd)) (a b : Ev) : Bool := (a.1 == -1) || a.2.2.1 || !b.2.2.1 || (onceD (dOf dss a) || onceD (dOf dss b) || btwD (dss.getD a.1.toNat []) a.2.1.toNat b.2.1.toNat)
theorem btwD_no {ds : List Dd} {lo hi : Nat} (h : ∀ i, i < hi - lo → ds.getD (lo + i) zD ≠ wtD) : btwD ds lo hi = false := by
  unfold btwD
  rw [List.any_eq_false]
  intro i hi'
  rw [List.mem_range] at hi'
  simpa using h i hi'
theorem btwD_yes {ds : List Dd} {lo hi i : Nat} (hi' : i < hi - lo) (h : ds.getD (lo + i) zD = wtD) : btwD ds lo hi = true := by
  unfold btwD
  rw [List.any_eq_true]
  exact ⟨i, List.mem_range.2 hi', by rw [h]; simp⟩
theorem once_whole {d : Dd} (h : okD d = true) : onceD d = wholeD d := by
  have := (okD_restE h).2.2.1
  unfold onceD wholeD
  by_cases e : d.2.2.2 = 0
  · rw [e]; rfl
  · have e2 : (d.2.2.2 != 0) = true := by simp [e]
    have e3 : decide (0 < d.2.2.2) = true := decide_eq_true (by omega)
    rw [e2, e3]
theorem okD_wait {d : Dd} (h : okD d = true) (h4 : d.1 = 4) : d = wtD := by
  obtain ⟨k, p, v, g⟩ := d
  simp only at h4
  subst h4
  simp [okD, deedB] at h
  unfold wtD
  rw [Prod.mk.injEq, Prod.mk.injEq, Prod.mk.injEq]
  omega
theorem btw_waits {ds : List Dd} {lo hi : Nat} (hok : ∀ j, j < ds.length → okD (ds.getD j zD) = true) (hh : hi ≤ ds.length) (h4 : (ds.getD lo zD).1 ≠ 4) : btwD ds lo hi = waitsD ds lo hi := by
  cases hw : waitsD ds lo hi with
  | false =>
    refine btwD_no (fun i hi' he => ?_)
    have hj : (ds.getD (lo + i) zD).1 = 4 := by rw [he]; rfl
    have : lo < lo + i := by
      apply Classical.byContradiction
      intro hn
      have : i = 0 := by omega
      subst this
      exact h4 hj
    rw [waitsD_yes this (show lo + i < hi by omega) hj] at hw
    cases hw
  | true =>
    unfold waitsD at hw
    rw [List.any_eq_true] at hw
    obtain ⟨j, hj, hq⟩ := hw
    rw [List.mem_range] at hj
    simp only [Bool.and_eq_true, decide_eq_true_eq, beq_iff_eq] at hq
    refine btwD_yes (i := j - lo) (by omega) ?_
    rw [show lo + (j - lo) = j by omega]
    exact okD_wait (hok j (by omega)) hq.2
/-- Is the event a beginning? -/
theorem evs_who {dss : List (List Dd)} (h : workB dss = true) {j : Nat} (hj : j < (evsW dss dss.length).length) : (j < 3 → ((evsW dss dss.length).getD j zE).1 = -1) ∧ (3 ≤ j → 0 ≤ ((evsW dss dss.length).getD j zE).1) := by
  obtain ⟨_, _, _, _, hG⟩ := events_law h
  have hok : ∀ i, i < dss.length → okL (dss.getD i []) = true := by
    simp only [workB, Bool.and_eq_true, decide_eq_true_eq] at h
    exact fun i hi => all_get [] h.1.1.1.2 i hi
  obtain ⟨⟨t, ht⟩, _⟩ := evs_good hok dss.length (Nat.le_refl _)
  obtain ⟨b0, b1, b2⟩ := beg_get ht
  refine ⟨fun h3 => ?_, fun h3 => ?_⟩
  · have : j = 0 ∨ j = 1 ∨ j = 2 := by omega
    rcases this with rfl | rfl | rfl
    · rw [b0]
    · rw [b1]
    · rw [b2]
  · obtain ⟨i, k, c, rd, vl, h1, _⟩ := hG j h3 hj
    rw [List.getD_eq_getElem?_getD, h1]
    exact Int.natCast_nonneg _
theorem isb_beh {dss : List (List Dd)} (h : workB dss = true) {i j : Nat} (hij : i < j) (hj : j < (evsW dss dss.length).length) :
    isbE ((evsW dss dss.length).getD i zE) ((evsW dss dss.length).getD j zE) = behP (evsW dss dss.length) i j := by
  have wi := evs_who h (show i < _ by omega)
  have wj := evs_who h hj
  unfold isbE behP
  generalize (evsW dss dss.length).getD i zE = a at wi ⊢
  generalize (evsW dss dss.length).getD j zE = b at wj ⊢
  have d0 : decide (i < j) = true := decide_eq_true hij
  rw [d0, Bool.true_and]
  by_cases i3 : i < 3
  · have e1 : (a.1 == -1) = true := by rw [wi.1 i3]; rfl
    have d1 : decide (i < 3) = true := decide_eq_true i3
    have d2 : decide (3 ≤ i) = false := decide_eq_false (by omega)
    rw [e1, d1, d2]
    by_cases j3 : j < 3
    · rw [wj.1 j3, decide_eq_false (show ¬ 3 ≤ j by omega)]; rfl
    · have := wj.2 (by omega)
      have e2 : (b.1 != -1) = true := by simp; omega
      rw [e2, decide_eq_true (show 3 ≤ j by omega)]; rfl
  · have a0 := wi.2 (by omega)
    have b0 := wj.2 (by omega)
    have e1 : (a.1 == -1) = false := by simp; omega
    have e2 : (b.1 != -1) = true := by simp; omega
    rw [e1, e2, decide_eq_false i3, decide_eq_true (show 3 ≤ i by omega)]
    simp
/-- Two events of one clerk, the earlier one first: their deeds. -/
theorem evs_two {dss : List (List Dd)} (h : workB dss = true) {i j : Nat} (hi3 : 3 ≤ i) (hij : i < j) (hj : j < (evsW dss dss.length).length)
    (hc : ((evsW dss dss.length).getD i zE).1 = ((evsW dss dss.length).getD j zE).1) :
    ∃ c x y : Nat, ((evsW dss dss.length).getD i zE).1 = (c : Int) ∧ ((evsW dss dss.length).getD i zE).2.1 = (x : Int) ∧ ((evsW dss dss.length).getD j zE).2.1 = (y : Int) ∧ c < dss.length ∧ (x < y ∨ (x = y ∧ ((dss.getD c []).getD x zD).1 = 3)) ∧ y < (dss.getD c []).length ∧ ((dss.getD c []).getD x zD).1 ≠ 4 := by
  obtain ⟨_, _, _, _, hG⟩ := events_law h
  obtain ⟨ho, _, hN⟩ := evs_ord dss dss.length
  have hi : i < (evsW dss dss.length).length := by omega
  obtain ⟨ci, qi, _, _, _, ei, hci, hqi, _⟩ := hG i hi3 hi
  obtain ⟨cj, qj, _, _, _, ej, hcj, hqj, _⟩ := hG j (by omega) hj
  have xi : (evsW dss dss.length)[i]? = some ((evsW dss dss.length).getD i zE) := by rw [List.getD_eq_getElem?_getD, List.getElem?_eq_getElem hi]; rfl
  have xj : (evsW dss dss.length)[j]? = some ((evsW dss dss.length).getD j zE) := by rw [List.getD_eq_getElem?_getD, List.getElem?_eq_getElem hj]; rfl
  have mi : (evsW dss dss.length).getD i zE ∈ evsW dss dss.length := List.mem_of_getElem? xi
  have hord : OrdE dss ((evsW dss dss.length).getD i zE) ((evsW dss dss.length).getD j zE) := by
    have := List.pairwise_iff_getElem.1 ho i j hi hj hij
    rw [List.getElem?_eq_getElem hi] at xi
    rw [List.getElem?_eq_getElem hj] at xj
    rw [Option.some.inj xi, Option.some.inj xj] at this
    exact this
  have gi := Option.some.inj (xi.symm.trans ei)
  have gj := Option.some.inj (xj.symm.trans ej)
  have hni := hN _ mi
  clear hN ho hG xi xj mi ei ej
  generalize (evsW dss dss.length).getD i zE = a at gi hc hord hni ⊢
  generalize (evsW dss dss.length).getD j zE = b at gj hc hord ⊢
  subst gi gj
  simp only at hc
  have hcc : ci = cj := by omega
  subst hcc
  have hord := hord rfl (by simp only; omega)
  unfold dOf at hni
  simp only [Int.toNat_natCast] at hord hni
  refine ⟨ci, qi, qj, rfl, rfl, rfl, hci, ?_, hqj, hni (by omega)⟩
  rcases hord with h | h
  · exact .inl (by omega)
  · refine .inr ⟨by omega, ?_⟩
    have h2 := h.2
    unfold dOf at h2
    simpa only [Int.toNat_natCast] using h2
theorem keep_kep {dss : List (List Dd)} (h : workB dss = true) {i j : Nat} (hij : i < j) (hj : j < (evsW dss dss.length).length) :
    (isbE ((evsW dss dss.length).getD i zE) ((evsW dss dss.length).getD j zE) && keepE dss ((evsW dss dss.length).getD i zE) ((evsW dss dss.length).getD j zE)) = (behP (evsW dss dss.length) i j && !kepP dss (evsW dss dss.length) i j) := by
  rw [isb_beh h hij hj]
  cases hb : behP (evsW dss dss.length) i j with
  | false => rfl
  | true =>
    rw [Bool.true_and, Bool.true_and]
    have hi : i < (evsW dss dss.length).length := by omega
    by_cases i3 : i < 3
    · have e1 := (evs_who h hi).1 i3
      have e2 : kepP dss (evsW dss dss.length) i j = false := by unfold kepP; rw [decide_eq_false (show ¬ 3 ≤ i by omega)]; rfl
      rw [e2]
      unfold keepE
      rw [e1]
      rfl
    · have hc : ((evsW dss dss.length).getD i zE).1 = ((evsW dss dss.length).getD j zE).1 := by
        unfold behP at hb
        simp only [Bool.and_eq_true, Bool.or_eq_true, decide_eq_true_eq, beq_iff_eq] at hb
        rcases hb.2 with q | q
        · omega
        · exact q.2
      obtain ⟨c, x, y, h1, h2, h3, hcl, hxy, hyl, h4⟩ := evs_two h (by omega) hij hj hc
      obtain ⟨_, _, _, _, hG⟩ := events_law h
      have hok : ∀ k, k < (dss.getD c []).length → okD ((dss.getD c []).getD k zD) = true := by
        simp only [workB, Bool.and_eq_true, decide_eq_true_eq] at h
        have := all_get [] h.1.1.1.2 c hcl
        simp only [okL, Bool.and_eq_true] at this
        exact fun k hk => all_get zD this.1 k hk
      -- one class: of a swap or a Group
      have hcs : csE ((evsW dss dss.length).getD i zE) = csE ((evsW dss dss.length).getD j zE) → wholeD (dOf dss ((evsW dss dss.length).getD j zE)) = true := by
        intro he
        obtain ⟨ci, qi, ki, _, _, ei, _, _, _, _, li, _⟩ := hG i (by omega) hi
        obtain ⟨cj, qj, kj, _, _, ej, _, hqj, _, _, lj, _, _, _, _, _, _, hw⟩ := hG j (by omega) hj
        have xi : (evsW dss dss.length)[i]? = some ((evsW dss dss.length).getD i zE) := by rw [List.getD_eq_getElem?_getD, List.getElem?_eq_getElem hi]; rfl
        have xj : (evsW dss dss.length)[j]? = some ((evsW dss dss.length).getD j zE) := by rw [List.getD_eq_getElem?_getD, List.getElem?_eq_getElem hj]; rfl
        have gi := Option.some.inj (xi.symm.trans ei)
        have gj := Option.some.inj (xj.symm.trans ej)
        clear xi xj ei ej
        rw [hc, gj] at h1
        rw [gj] at h3
        rw [gi, gj] at he
        simp only [csE] at he h1 h3
        have h3 : qj = y := by omega
        rw [gi] at hc
        rw [gj] at hc ⊢
        unfold dOf
        simp only [Int.toNat_natCast] at hc ⊢
        by_cases k3 : ((dss.getD cj []).getD qj zD).1 = 3
        · unfold wholeD; rw [k3]; rfl
        · have := hw (by omega) k3
          unfold wholeD
          have ccj : cj = c := by
            omega
          subst ccj
          have r := okD_restE (hok qj hqj)
          have : decide (0 < ((dss.getD cj []).getD qj zD).2.2.2) = true := decide_eq_true (by omega)
          rw [this]; simp
      have h1j : ((evsW dss dss.length).getD j zE).1 = (c : Int) := by rw [← hc]; exact h1
      unfold keepE kepP kepQ
      rw [hb, decide_eq_true (show 3 ≤ i by omega)]
      generalize (evsW dss dss.length).getD i zE = a at h1 h2 hcs ⊢
      generalize (evsW dss dss.length).getD j zE = b at h1j h3 hcs ⊢
      have da : dOf dss a = (dss.getD c []).getD x zD := by unfold dOf; rw [h1, h2, Int.toNat_natCast, Int.toNat_natCast]
      have db : dOf dss b = (dss.getD c []).getD y zD := by unfold dOf; rw [h1j, h3, Int.toNat_natCast, Int.toNat_natCast]
      have ea : (a.1 == -1) = false := by rw [h1]; simp
      rw [ea, h1, h2, h3, Int.toNat_natCast, Int.toNat_natCast, Int.toNat_natCast, btw_waits hok (by omega) h4, da, db, once_whole (hok x (by omega)), once_whole (hok y (by omega))]
      rw [db] at hcs
      unfold rdE
      cases a.2.2.1
      · cases b.2.2.1
        · simp
        · cases wb : wholeD ((dss.getD c []).getD y zD)
          · have ne : (csE a != csE b) = true := by
              simp only [bne_iff_ne, ne_eq]
              intro e
              rw [hcs e] at wb
              cases wb
            rw [ne]
            simp
            exact Bool.or_comm _ _
          · simp
      · simp
theorem beh_same {dss : List (List Dd)} (h : workB dss = true) : colAll (fun i j => isbE ((evsW dss dss.length).getD i zE) ((evsW dss dss.length).getD j zE)) (evsW dss dss.length).length (evsW dss dss.length).length = behL (evsW dss dss.length) := by
  have h12 := (events_law h).1
  have c1 := web_colAll (q := fun i j => isbE ((evsW dss dss.length).getD i zE) ((evsW dss dss.length).getD j zE)) h12 _ (Nat.le_refl _)
  have b1 := beh_line h12
  refine Web.ext c1.1 b1.1 (fun i j hi hj => ?_)
  rw [c1.2 i j hi, b1.2 i j hi]
  by_cases hij : i < j
  · rw [isb_beh h hij hj]; simp [hij]
  · rw [behP_up (by omega)]; simp [hij]
theorem plc_same {dss : List (List Dd)} (h : workB dss = true) : colAll (fun i j => isbE ((evsW dss dss.length).getD i zE) ((evsW dss dss.length).getD j zE) && onpE ((evsW dss dss.length).getD i zE) ((evsW dss dss.length).getD j zE)) (evsW dss dss.length).length (evsW dss dss.length).length = plcL (evsW dss dss.length) := by
  have h12 := (events_law h).1
  have c1 := web_colAll (q := fun i j => isbE ((evsW dss dss.length).getD i zE) ((evsW dss dss.length).getD j zE) && onpE ((evsW dss dss.length).getD i zE) ((evsW dss dss.length).getD j zE)) h12 _ (Nat.le_refl _)
  have b1 := plc_line h12
  refine Web.ext c1.1 b1.1 (fun i j hi hj => ?_)
  rw [c1.2 i j hi, b1.2 i j hi]
  by_cases hij : i < j
  · rw [isb_beh h hij hj]; unfold onpE plcP; simp [hij, hj, bne]
  · rw [behP_up (by omega)]; simp [hij]
theorem kep_same {dss : List (List Dd)} (h : workB dss = true) : colAll (fun i j => isbE ((evsW dss dss.length).getD i zE) ((evsW dss dss.length).getD j zE) && keepE dss ((evsW dss dss.length).getD i zE) ((evsW dss dss.length).getD j zE)) (evsW dss dss.length).length (evsW dss dss.length).length = kepL dss (evsW dss dss.length) := by
  have h12 := (events_law h).1
  have c1 := web_colAll (q := fun i j => isbE ((evsW dss dss.length).getD i zE) ((evsW dss dss.length).getD j zE) && keepE dss ((evsW dss dss.length).getD i zE) ((evsW dss dss.length).getD j zE)) h12 _ (Nat.le_refl _)
  have b1 := kep_line (dss := dss) h12
  refine Web.ext c1.1 b1.1 (fun i j hi hj => ?_)
  rw [c1.2 i j hi, b1.2 i j hi]
  by_cases hij : i < j
  · rw [keep_kep h hij hj]; simp [hij, hj]
  · rw [behP_up (by omega)]; simp [hij]
end Go.Proofs.Ytkdebpfdiblliaa
