/- Plain mathematics of pages: a tale as the program holds it, a seat of its rows for each event. -/
import Derived.Test.YtgolhjmbloiakaaMB
namespace Go.Proofs.Ytgolhjmbloiakaa
open Go.RowKit

def sitS (rows : List Int) : Nat → List Int
  | 0 => List.replicate 12 0
  | k + 1 => (sitS rows k).set (rows.getD k 0).toNat (k : Int)
def pgK (rs f s : List Int) : Nat → List Int
  | 0 => s
  | k + 1 => (pgK rs f s k).set (rs.getD k 0).toNat ((pgK rs f s k).getD (f.getD k 0).toNat 0)
def pageL (es : List Ev) (f rows : List Int) : List Int := pgK (idxB rdE es) f (sitS rows rows.length) (idxB rdE es).length
def pageB (dss : List (List Dd)) (f rows : List Int) : List Int := if taleB dss f rows = true then pageL (eventsB dss) f rows else List.replicate 12 0
theorem sitS_len (rows : List Int) : ∀ k : Nat, (sitS rows k).length = 12
  | 0 => by simp [sitS]
  | k + 1 => by rw [sitS, List.length_set, sitS_len rows k]
theorem pgK_len (rs f s : List Int) : ∀ k : Nat, (pgK rs f s k).length = s.length
  | 0 => rfl
  | k + 1 => by rw [pgK, List.length_set, pgK_len rs f s k]
theorem pageL_len (es : List Ev) (f rows : List Int) : (pageL es f rows).length = 12 := by rw [pageL, pgK_len, sitS_len]
theorem pageB_len (dss : List (List Dd)) (f rows : List Int) : (pageB dss f rows).length = 12 := by
  unfold pageB
  split
  · exact pageL_len _ _ _
  · simp
theorem seat_get {rows : List Int} (hn : rows.Nodup) (hr : ∀ i, i < rows.length → 0 ≤ rows.getD i 0 ∧ rows.getD i 0 < 12) : ∀ (k i : Nat), k ≤ rows.length → i < k → (sitS rows k).getD (rows.getD i 0).toNat 0 = (i : Int)
  | 0, i, _, h => by omega
  | k + 1, i, hk, h => by
    have r1 := hr k (by omega)
    have r2 := hr i (by omega)
    rw [sitS, getD_set _ _ _ _ (by rw [sitS_len]; omega)]
    by_cases e : i = k
    · subst e; rw [if_pos rfl]
    · rw [if_neg (fun e2 => e (nodup_get hn (by omega) (by omega) (by omega)))]
      exact seat_get hn hr k i (by omega) (by omega)
theorem pg_other {rs f s : List Int} {a : Nat} (hs : s.length = 12) : ∀ k : Nat, (∀ i, i < k → (rs.getD i 0).toNat < 12 ∧ (rs.getD i 0).toNat ≠ a) → (pgK rs f s k).getD a 0 = s.getD a 0
  | 0, _ => rfl
  | k + 1, h => by
    rw [pgK, getD_set _ _ _ _ (by rw [pgK_len, hs]; exact (h k (by omega)).1), if_neg (h k (by omega)).2]
    exact pg_other hs k (fun i hi => h i (by omega))
theorem pg_read {rs f s : List Int} (hs : s.length = 12) (hn : rs.Nodup) (hr : ∀ i, i < rs.length → 0 ≤ rs.getD i 0 ∧ rs.getD i 0 < 12) (hf : ∀ i j, i < rs.length → j < rs.length → (rs.getD i 0).toNat ≠ (f.getD j 0).toNat) : ∀ (k i : Nat), k ≤ rs.length → i < k → (pgK rs f s k).getD (rs.getD i 0).toNat 0 = s.getD (f.getD i 0).toNat 0
  | 0, i, _, h => by omega
  | k + 1, i, hk, h => by
    have r1 := hr k (by omega)
    have r2 := hr i (by omega)
    rw [pgK, getD_set _ _ _ _ (by rw [pgK_len, hs]; omega)]
    by_cases e : i = k
    · subst e
      rw [if_pos rfl]
      exact pg_other hs i (fun j hj => ⟨by have := hr j (by omega); omega, hf j i (by omega) (by omega)⟩)
    · rw [if_neg (fun e2 => e (nodup_get hn (by omega) (by omega) (by omega)))]
      exact pg_read hs hn hr hf k i (by omega) (by omega)
theorem idx_all {es : List Ev} (hx : es.length ≤ 12) {t : Ev → Bool} {x : Int} (h : x ∈ idxB t es) : (0 ≤ x ∧ x < (es.length : Int)) ∧ t (es.getD x.toNat zE) = true := by
  unfold idxB at h
  rw [if_pos hx] at h
  exact ⟨idxK_lt _ _ _ _ h, idxK_mem _ _ _ _ h⟩
theorem idx_nodup {es : List Ev} (hx : es.length ≤ 12) (t : Ev → Bool) : (idxB t es).Nodup := by
  unfold idxB
  rw [if_pos hx]
  exact rises_nodup _ (idxK_rises t _ _)
theorem idx_has {es : List Ev} (hx : es.length ≤ 12) {t : Ev → Bool} {i : Nat} (hi : i < es.length) (h : t (es.getD i zE) = true) : (i : Int) ∈ idxB t es := by
  unfold idxB
  rw [if_pos hx]
  exact idxK_has _ _ h _ hi
theorem get_mem {l : List Int} {i : Nat} (h : i < l.length) : l.getD i 0 ∈ l := by
  rw [List.getD_eq_getElem?_getD, List.getElem?_eq_getElem h]
  exact List.getElem_mem h
theorem mem_get {l : List Int} {x : Int} (h : x ∈ l) : ∃ i, i < l.length ∧ l.getD i 0 = x := by
  obtain ⟨k, hk, ek⟩ := List.getElem_of_mem h
  exact ⟨k, hk, by rw [List.getD_eq_getElem?_getD, List.getElem?_eq_getElem hk]; exact ek⟩
/-- What a right tale's writes and reads are. -/
theorem page_use {dss : List (List Dd)} {f rows : List Int} (h : taleB dss f rows = true) : (eventsB dss).length ≤ 12 ∧ (idxB rdE (eventsB dss)).length = f.length ∧ f.length ≤ 12 ∧ rows.length ≤ 36 ∧
    (∀ i, i < rows.length → (pageL (eventsB dss) f rows).getD (rows.getD i 0).toNat 0 = (i : Int)) ∧
    (∀ i, i < f.length → ∃ q, q < rows.length ∧ rows.getD q 0 = f.getD i 0 ∧ (pageL (eventsB dss) f rows).getD ((idxB rdE (eventsB dss)).getD i 0).toNat 0 = (q : Int)) ∧
    (∀ i, i < rows.length → 0 ≤ rows.getD i 0 ∧ rows.getD i 0 < ((eventsB dss).length : Int)) ∧
    (∀ i, i < f.length → (0 ≤ f.getD i 0 ∧ f.getD i 0 < ((eventsB dss).length : Int)) ∧ (0 ≤ (idxB rdE (eventsB dss)).getD i 0 ∧ (idxB rdE (eventsB dss)).getD i 0 < ((eventsB dss).length : Int)) ∧ plE (eventsB dss) (f.getD i 0) = plE (eventsB dss) ((idxB rdE (eventsB dss)).getD i 0)) ∧
    (∀ i, i < (eventsB dss).length → ((eventsB dss).getD i zE).2.2.1 = false → ∃ q, q < rows.length ∧ rows.getD q 0 = (i : Int)) := by
  obtain ⟨hb, hs, hr⟩ := tale_use h
  have hx := eventsB_12 dss
  have hall : ∀ i, i < (eventsB dss).length → ((eventsB dss).getD i zE).2.2.1 = false → ∃ q, q < rows.length ∧ rows.getD q 0 = (i : Int) := fun i hi hrd => by
    have plin : 0 ≤ ((eventsB dss).getD i zE).2.2.2.1 ∧ ((eventsB dss).getD i zE).2.2.2.1 ≤ 2 := by
      have := place_in hb i (by rw [eventsB, if_pos hb] at hi; exact hi)
      rw [eventsB, if_pos hb]
      exact this
    obtain ⟨p, hp⟩ := Int.eq_ofNat_of_zero_le plin.1
    have hmem : (i : Int) ∈ plcW (eventsB dss) p := idx_has hx hi (by unfold toE; rw [hrd, hp]; simp)
    refine mem_get ((rows_perm hx hr).mem_iff.1 ?_)
    unfold allW
    have : p = 0 ∨ p = 1 ∨ p = 2 := by omega
    rcases this with rfl | rfl | rfl
    · exact List.mem_append.2 (.inl (List.mem_append.2 (.inl hmem)))
    · exact List.mem_append.2 (.inl (List.mem_append.2 (.inr hmem)))
    · exact List.mem_append.2 (.inr hmem)
  obtain ⟨rn, r36, ru⟩ := rows_use hx hr
  have hwr : ∀ i, i < rows.length → ((eventsB dss).getD (rows.getD i 0).toNat zE).2.2.1 = false := fun i hi => by
    have hm := (rows_perm hx hr).mem_iff.2 (get_mem hi)
    have fin : ∀ p, rows.getD i 0 ∈ plcW (eventsB dss) p → ((eventsB dss).getD (rows.getD i 0).toNat zE).2.2.1 = false := fun p hp => by
      have := (idx_all hx hp).2
      unfold toE at this
      simp only [Bool.and_eq_true, Bool.not_eq_true'] at this
      exact this.1
    unfold allW at hm
    rcases List.mem_append.1 hm with hm | hm
    · rcases List.mem_append.1 hm with hm | hm
      · exact fin _ hm
      · exact fin _ hm
    · exact fin _ hm
  obtain ⟨sl, su⟩ := src_use hx hs
  have hf12 : f.length ≤ 12 := by
    rw [← sl]
    unfold idxB
    rw [if_pos hx]
    have := idxK_len rdE (eventsB dss) (eventsB dss).length
    omega
  have fw : ∀ i, i < f.length → ((eventsB dss).getD (f.getD i 0).toNat zE).2.2.1 = false := fun i hi => by
    have hs2 := hs
    unfold srcB at hs2
    rw [Bool.and_eq_true, decide_eq_true_eq] at hs2
    have hc : (chcL (eventsB dss)).length = (idxB rdE (eventsB dss)).length := chcK_len _ _ _
    have h3 := (srcK_iff (chcL (eventsB dss)).length).1 hs2.2 i (by omega)
    unfold chcL at h3
    rw [chcK_get _ _ _ _ (by omega)] at h3
    have := (idx_all hx (isB_mem h3)).2
    unfold toE at this
    simp only [Bool.and_eq_true, Bool.not_eq_true'] at this
    exact this.1
  have rd : ∀ i, i < f.length → (0 ≤ (idxB rdE (eventsB dss)).getD i 0 ∧ (idxB rdE (eventsB dss)).getD i 0 < ((eventsB dss).length : Int)) ∧ ((eventsB dss).getD ((idxB rdE (eventsB dss)).getD i 0).toNat zE).2.2.1 = true := fun i hi => idx_all hx (get_mem (by omega))
  have r12 : ∀ i, i < rows.length → 0 ≤ rows.getD i 0 ∧ rows.getD i 0 < 12 := fun i hi => by have := ru i hi; omega
  refine ⟨hx, sl, hf12, ?_, fun i hi => ?_, fun i hi => ?_, ru, fun i hi => ⟨(su i (by omega)).1, (rd i hi).1, (su i (by omega)).2⟩, hall⟩
  · exact r36
  · unfold pageL
    rw [pg_other (sitS_len _ _) _ (fun j hj => ⟨by have := (rd j (by omega)).1; omega, fun e => by have a := (rd j (by omega)).2; have b := hwr i hi; rw [e, b] at a; cases a⟩)]
    exact seat_get rn r12 _ i (Nat.le_refl _) hi
  · obtain ⟨q, hq, eq⟩ := hall (f.getD i 0).toNat (by have := (su i (by omega)).1; omega) (fw i hi)
    have eq' : rows.getD q 0 = f.getD i 0 := by have := (su i (by omega)).1; omega
    refine ⟨q, hq, eq', ?_⟩
    unfold pageL
    rw [pg_read (sitS_len _ _) (idx_nodup hx _) (fun j hj => by have := (rd j (by omega)).1; omega) (fun a b ha hb e => by have x := (rd a (by omega)).2; have y := fw b (by omega); rw [e, y] at x; cases x) _ i (Nat.le_refl _) (by omega), ← eq']
    exact seat_get rn r12 _ q (Nat.le_refl _) hq
/-- The page of a tale is never blank: at most one of the first two has seat 0. -/
theorem page_some {dss : List (List Dd)} {f rows : List Int} (h : taleB dss f rows = true) : pageL (eventsB dss) f rows ≠ List.replicate 12 0 := fun e => by
  obtain ⟨hb, hs, hr⟩ := tale_use h
  obtain ⟨hx, -, -, -, pw, -, -, -, -⟩ := page_use h
  have z : ∀ p : Nat, p < 3 → ∃ q, q < rows.length ∧ rows.getD q 0 = (p : Int) := fun p hp => by
    obtain ⟨f1, f2⟩ := plcW_first hb p hp
    have hm : (p : Int) ∈ plcW (eventsB dss) p := by rw [← f2]; exact get_mem f1
    refine mem_get ((rows_perm hx hr).mem_iff.1 ?_)
    unfold allW
    have : p = 0 ∨ p = 1 ∨ p = 2 := by omega
    rcases this with rfl | rfl | rfl
    · exact List.mem_append.2 (.inl (List.mem_append.2 (.inl hm)))
    · exact List.mem_append.2 (.inl (List.mem_append.2 (.inr hm)))
    · exact List.mem_append.2 (.inr hm)
  have zero : ∀ a : Nat, (List.replicate 12 (0 : Int)).getD a 0 = 0 := fun a => by
    rw [List.getD_eq_getElem?_getD, List.getElem?_replicate]
    split <;> rfl
  obtain ⟨a, ha, ea⟩ := z 0 (by omega)
  obtain ⟨b, hb2, eb⟩ := z 1 (by omega)
  have pa := pw a ha
  have pb := pw b hb2
  rw [e, zero] at pa pb
  have : a = b := by omega
  subst this
  omega
def blankB (p : List Int) : Bool := decide (p = List.replicate 12 0)
theorem page_blank (dss : List (List Dd)) (f rows : List Int) : blankB (pageB dss f rows) = !taleB dss f rows := by
  unfold blankB pageB
  cases h : taleB dss f rows with
  | false => simp
  | true => rw [if_pos rfl, decide_eq_false (page_some h)]; rfl
/-- AgainstWeb's lines as the program draws them. -/
def agI (p : List Int) (r : Nat) (ws st : List Int) : Nat → List Int
  | 0 => st
  | j + 1 => if decide (p.getD r 0 < p.getD (ws.getD j 0).toNat 0) = true then (agI p r ws st j).set r (gAdd ((agI p r ws st j).getD r 0) (ws.getD j 0)) else agI p r ws st j
def agO (es : List Ev) (p rs : List Int) : Nat → List Int
  | 0 => List.replicate es.length 0
  | k + 1 => agI p (rs.getD k 0).toNat (idxB (toE (plE es (rs.getD k 0))) es) (agO es p rs k) (idxB (toE (plE es (rs.getD k 0))) es).length
theorem web_agI {p ws st : List Int} {n r : Nat} (hw : ∀ j, j < ws.length → 0 ≤ ws.getD j 0 ∧ ws.getD j 0 < (n : Int)) (hr : r < n) (hst : Web n st) : ∀ m : Nat, m ≤ ws.length →
    Web n (agI p r ws st m) ∧ ∀ a b : Nat, a < n → (line (agI p r ws st m) a b = true ↔ line st a b = true ∨ (a = r ∧ ∃ q, q < m ∧ p.getD r 0 < p.getD b 0 ∧ ws.getD q 0 = (b : Int)))
  | 0, _ => ⟨hst, fun a b _ => by simp [agI]⟩
  | m + 1, hm => by
    obtain ⟨h1, h2⟩ := web_agI (p := p) hw hr hst m (by omega)
    obtain ⟨b0, hb0⟩ := Int.eq_ofNat_of_zero_le (hw m (by omega)).1
    have hb : b0 < n := by have := (hw m (by omega)).2; omega
    by_cases hp : p.getD r 0 < p.getD b0 0
    · have e0 : agI p r ws st (m + 1) = (agI p r ws st m).set r (gAdd ((agI p r ws st m).getD r 0) (b0 : Int)) := by rw [agI, hb0, Int.toNat_natCast, if_pos (decide_eq_true hp)]
      rw [e0]
      have hadd := ok_add (h1.2.2 r hr) hb
      refine ⟨h1.set hadd.1, fun a b haa => ?_⟩
      have e1 := h2 a b haa
      unfold line at e1 ⊢
      rw [getD_set _ _ _ _ (by rw [h1.2.1]; exact hr)]
      by_cases e : r = a
      · subst e
        simp only [if_true]
        rw [hadd.2 b, Bool.or_eq_true, e1, decide_eq_true_eq]
        constructor
        · rintro ((h | ⟨-, q, hq, r1, r2⟩) | h)
          · exact .inl h
          · exact .inr ⟨trivial, q, by omega, r1, r2⟩
          · subst h; exact .inr ⟨trivial, m, by omega, hp, hb0⟩
        · rintro (h | ⟨-, q, hq, r1, r2⟩)
          · exact .inl (.inl h)
          · by_cases eq : q = m
            · subst eq
              right
              rw [hb0] at r2
              omega
            · exact .inl (.inr ⟨rfl, q, by omega, r1, r2⟩)
      · simp only [e, if_false]
        rw [e1]
        constructor
        · rintro (h | ⟨h, _⟩)
          · exact .inl h
          · exact absurd h.symm e
        · rintro (h | ⟨h, _⟩)
          · exact .inl h
          · exact absurd h.symm e
    · have e0 : agI p r ws st (m + 1) = agI p r ws st m := by rw [agI, hb0, Int.toNat_natCast, if_neg (by simpa using hp)]
      rw [e0]
      refine ⟨h1, fun a b ha => ?_⟩
      rw [h2 a b ha]
      constructor
      · rintro (h | ⟨h, q, hq, r⟩)
        · exact .inl h
        · exact .inr ⟨h, q, by omega, r⟩
      · rintro (h | ⟨h, q, hq, r1, r2⟩)
        · exact .inl h
        · by_cases e : q = m
          · subst e
            rw [hb0] at r2
            exfalso
            obtain rfl : b0 = b := by omega
            exact hp r1
          · exact .inr ⟨h, q, by omega, r1, r2⟩
theorem web_agO {es : List Ev} {p rs : List Int} (hx : es.length ≤ 12) (hr : ∀ j, j < rs.length → 0 ≤ rs.getD j 0 ∧ rs.getD j 0 < (es.length : Int)) : ∀ m : Nat, m ≤ rs.length →
    Web es.length (agO es p rs m) ∧ ∀ a b : Nat, a < es.length → (line (agO es p rs m) a b = true ↔ ∃ i, i < m ∧ rs.getD i 0 = (a : Int) ∧ p.getD a 0 < p.getD b 0 ∧ (b : Int) ∈ idxB (toE (plE es (a : Int))) es)
  | 0, _ => ⟨Web.zero hx, fun a b _ => by unfold agO; rw [line_zero]; simp⟩
  | m + 1, hm => by
    obtain ⟨h1, h2⟩ := web_agO (p := p) hx hr m (by omega)
    obtain ⟨a0, ha0⟩ := Int.eq_ofNat_of_zero_le (hr m (by omega)).1
    have hal : a0 < es.length := by have := (hr m (by omega)).2; omega
    obtain ⟨g1, g2⟩ := web_agI (p := p) (ws := idxB (toE (plE es (a0 : Int))) es) (n := es.length) (r := a0) (fun j hj => (idx_all hx (get_mem hj)).1) hal h1 _ (Nat.le_refl _)
    rw [agO, ha0, Int.toNat_natCast]
    refine ⟨g1, fun a b ha => ?_⟩
    rw [g2 a b ha, h2 a b ha]
    constructor
    · rintro (⟨i, hi, r⟩ | ⟨rfl, q, hq, r1, r2⟩)
      · exact ⟨i, by omega, r⟩
      · exact ⟨m, by omega, ha0, r1, by rw [← r2]; exact get_mem hq⟩
    · rintro ⟨i, hi, e1, r1, r2⟩
      by_cases e : i = m
      · subst e
        have : a0 = a := by omega
        subst this
        obtain ⟨q, hq, eq⟩ := mem_get r2
        exact .inr ⟨rfl, q, hq, r1, eq⟩
      · exact .inl ⟨i, by omega, e1, r1, r2⟩
theorem ag_same {dss : List (List Dd)} {f rows : List Int} (h : taleB dss f rows = true) : agO (eventsB dss) (pageL (eventsB dss) f rows) (idxB rdE (eventsB dss)) (idxB rdE (eventsB dss)).length = agB dss f rows := by
  obtain ⟨hb, hs, hr⟩ := tale_use h
  obtain ⟨hx, sl, hf12, hr12, pw, pr, ru, fu, hall⟩ := page_use h
  have rr : ∀ i, i < (idxB rdE (eventsB dss)).length → 0 ≤ (idxB rdE (eventsB dss)).getD i 0 ∧ (idxB rdE (eventsB dss)).getD i 0 < ((eventsB dss).length : Int) := fun i hi => (fu i (by omega)).2.1
  have e3 : agB dss f rows = agK (eventsB dss).length (idxB rdE (eventsB dss)) f (rwL (eventsB dss) rows) (idxB rdE (eventsB dss)).length := by rw [agB, if_pos h]; rfl
  have wr := web_rwAll hx ru rows.length (Nat.le_refl _)
  have wa := web_ag hx (idx_nodup hx _) wr.1 (idxB rdE (eventsB dss)).length (Nat.le_refl _) rr (fun i hi => (fu i (by omega)).1)
  have wo := web_agO (p := pageL (eventsB dss) f rows) hx rr _ (Nat.le_refl _)
  rw [e3]
  refine Web.ext wo.1 wa.1 (fun a j ha hj => ?_)
  rw [Bool.eq_iff_iff, wo.2 a j ha]
  have e4 := wa.2 a j ha
  rw [show rwL (eventsB dss) rows = rwAll (eventsB dss) rows rows.length from rfl, e4]
  constructor
  · rintro ⟨i, hi, r1, r2, r3⟩
    refine ⟨i, hi, r1, ?_⟩
    obtain ⟨q, hq, eq, pq⟩ := pr i (by omega)
    have fa := fu i (by omega)
    rw [r1, Int.toNat_natCast] at pq
    have t := (idx_all hx r3).2
    rw [Int.toNat_natCast] at t
    unfold toE at t
    simp only [Bool.and_eq_true, Bool.not_eq_true', beq_iff_eq] at t
    obtain ⟨k, hk, ek⟩ := hall j hj t.1
    have pk := pw k hk
    rw [ek, Int.toNat_natCast] at pk
    rw [wr.2 _ _ (by omega)]
    refine ⟨q, k, hq, hk, ?_, by omega, ek⟩
    unfold rwP
    rw [pq, pk] at r2
    rw [decide_eq_true (show q < k by omega), eq, fa.2.2, r1, ek]
    show (true && _) = true
    rw [Bool.true_and, beq_iff_eq, ← t.2]
    unfold plE
    rw [Int.toNat_natCast]
  · rintro ⟨i, hi, r1, r2⟩
    refine ⟨i, hi, r1, ?_⟩
    have fa := fu i (by omega)
    obtain ⟨q, hq, eq, pq⟩ := pr i (by omega)
    rw [r1, Int.toNat_natCast] at pq
    rw [wr.2 _ _ (by omega)] at r2
    obtain ⟨i', k, hi', hk, r3, r4, r5⟩ := r2
    have pi := pw i' hi'
    have pk := pw k hk
    have pq' := pw q hq
    rw [r5, Int.toNat_natCast] at pk
    have e5 : rows.getD i' 0 = rows.getD q 0 := by omega
    rw [e5, pq'] at pi
    obtain rfl : q = i' := by omega
    unfold rwP at r3
    rw [Bool.and_eq_true, decide_eq_true_eq, beq_iff_eq] at r3
    refine ⟨by rw [pq, pk]; omega, idx_has hx hj ?_⟩
    have hm := (rows_perm hx hr).mem_iff.2 (get_mem hk)
    have fin : ∀ p, rows.getD k 0 ∈ plcW (eventsB dss) p → ((eventsB dss).getD (rows.getD k 0).toNat zE).2.2.1 = false := fun p hp => by
      have := (idx_all hx hp).2
      unfold toE at this
      simp only [Bool.and_eq_true, Bool.not_eq_true'] at this
      exact this.1
    have hw : ((eventsB dss).getD (rows.getD k 0).toNat zE).2.2.1 = false := by
      unfold allW at hm
      rcases List.mem_append.1 hm with hm | hm
      · rcases List.mem_append.1 hm with hm | hm
        · exact fin _ hm
        · exact fin _ hm
      · exact fin _ hm
    rw [r5, Int.toNat_natCast] at hw
    have h3 := r3.2
    rw [eq, fa.2.2, r1, r5] at h3
    unfold toE
    rw [hw, h3]
    unfold plE
    rw [Int.toNat_natCast]
    simp
end Go.Proofs.Ytgolhjmbloiakaa
