/- Several texts in one. -/
import Derived.Test.YtgolhjmbloiakaaMA
import Derived.Test.YtgolhjmbloiakaaRows
import Derived.OpenShut
import Derived.Below
import Derived.WalkSmall
import Derived.Laws.Rows
import Derived.Laws.ResultCell
import Derived.Laws.Tables
import Derived.Maps.AppendAt
import Derived.Laws.OwnMore
import Derived.OwnWalk
import Derived.RangeFuncBox
import Derived.RangeFuncCalls
import Derived.RangeFuncLeaves
import Derived.Outline
import Derived.BigRegion
import Derived.RegionTactic
import Derived.Deep.RegionHeld3
import Derived.Deep.QuietTactic
import Derived.BigQuiet
import Derived.Lib.Hide
import Derived.Deep.Slices
import Derived.Lib.SmallJoins
/- Plain mathematics of pages: a tale as the program holds it, a seat of its rows for each event. -/
namespace Go.Proofs.Ytgolhjmbloiakaa
open Go.RowKit

def sitS (rows : List Int) : Nat → List Int
  | 0 => List.replicate 12 0
  | k + 1 => (sitS rows k).set (rows.getD k 0).toNat (k : Int)
def pgK (rs f s : List Int) : Nat → List Int
  | 0 => s
  | k + 1 => (pgK rs f s k).set (rs.getD k 0).toNat ((pgK rs f s k).getD (f.getD k 0).toNat 0)
def pageL (es : List Ev) (f rows : List Int) : List Int := pgK (idxB rdE es) f (sitS rows rows.length) (idxB rdE es).length
def pageB (dss : List (List Dd)) (f rows : List Int) : List Int := if taleB dss f rows = true then pageL (eventsB dss) f rows else List.replicate 12 0
theorem sitS_len (rows : List Int) : ∀ k : Nat, (sitS rows k).length = 12
  | 0 => by simp [sitS]
  | k + 1 => by rw [sitS, List.length_set, sitS_len rows k]
theorem pgK_len (rs f s : List Int) : ∀ k : Nat, (pgK rs f s k).length = s.length
  | 0 => rfl
  | k + 1 => by rw [pgK, List.length_set, pgK_len rs f s k]
theorem pageL_len (es : List Ev) (f rows : List Int) : (pageL es f rows).length = 12 := by rw [pageL, pgK_len, sitS_len]
theorem pageB_len (dss : List (List Dd)) (f rows : List Int) : (pageB dss f rows).length = 12 := by
  unfold pageB
  split
  · exact pageL_len _ _ _
  · simp
theorem seat_get {rows : List Int} (hn : rows.Nodup) (hr : ∀ i, i < rows.length → 0 ≤ rows.getD i 0 ∧ rows.getD i 0 < 12) : ∀ (k i : Nat), k ≤ rows.length → i < k → (sitS rows k).getD (rows.getD i 0).toNat 0 = (i : Int)
  | 0, i, _, h => by omega
  | k + 1, i, hk, h => by
    have r1 := hr k (by omega)
    have r2 := hr i (by omega)
    rw [sitS, getD_set _ _ _ _ (by rw [sitS_len]; omega)]
    by_cases e : i = k
    · subst e; rw [if_pos rfl]
    · rw [if_neg (fun e2 => e (nodup_get hn (by omega) (by omega) (by omega)))]
      exact seat_get hn hr k i (by omega) (by omega)
theorem pg_other {rs f s : List Int} {a : Nat} (hs : s.length = 12) : ∀ k : Nat, (∀ i, i < k → (rs.getD i 0).toNat < 12 ∧ (rs.getD i 0).toNat ≠ a) → (pgK rs f s k).getD a 0 = s.getD a 0
  | 0, _ => rfl
  | k + 1, h => by
    rw [pgK, getD_set _ _ _ _ (by rw [pgK_len, hs]; exact (h k (by omega)).1), if_neg (h k (by omega)).2]
    exact pg_other hs k (fun i hi => h i (by omega))
theorem pg_read {rs f s : List Int} (hs : s.length = 12) (hn : rs.Nodup) (hr : ∀ i, i < rs.length → 0 ≤ rs.getD i 0 ∧ rs.getD i 0 < 12) (hf : ∀ i j, i < rs.length → j < rs.length → (rs.getD i 0).toNat ≠ (f.getD j 0).toNat) : ∀ (k i : Nat), k ≤ rs.length → i < k → (pgK rs f s k).getD (rs.getD i 0).toNat 0 = s.getD (f.getD i 0).toNat 0
  | 0, i, _, h => by omega
  | k + 1, i, hk, h => by
    have r1 := hr k (by omega)
    have r2 := hr i (by omega)
    rw [pgK, getD_set _ _ _ _ (by rw [pgK_len, hs]; omega)]
    by_cases e : i = k
    · subst e
      rw [if_pos rfl]
      exact pg_other hs i (fun j hj => ⟨by have := hr j (by omega); omega, hf j i (by omega) (by omega)⟩)
    · rw [if_neg (fun e2 => e (nodup_get hn (by omega) (by omega) (by omega)))]
      exact pg_read hs hn hr hf k i (by omega) (by omega)
theorem idx_all {es : List Ev} (hx : es.length ≤ 12) {t : Ev → Bool} {x : Int} (h : x ∈ idxB t es) : (0 ≤ x ∧ x < (es.length : Int)) ∧ t (es.getD x.toNat zE) = true := by
  unfold idxB at h
  rw [if_pos hx] at h
  exact ⟨idxK_lt _ _ _ _ h, idxK_mem _ _ _ _ h⟩
theorem idx_nodup {es : List Ev} (hx : es.length ≤ 12) (t : Ev → Bool) : (idxB t es).Nodup := by
  unfold idxB
  rw [if_pos hx]
  exact rises_nodup _ (idxK_rises t _ _)
theorem idx_has {es : List Ev} (hx : es.length ≤ 12) {t : Ev → Bool} {i : Nat} (hi : i < es.length) (h : t (es.getD i zE) = true) : (i : Int) ∈ idxB t es := by
  unfold idxB
  rw [if_pos hx]
  exact idxK_has _ _ h _ hi
theorem get_mem {l : List Int} {i : Nat} (h : i < l.length) : l.getD i 0 ∈ l := by
  rw [List.getD_eq_getElem?_getD, List.getElem?_eq_getElem h]
  exact List.getElem_mem h
theorem mem_get {l : List Int} {x : Int} (h : x ∈ l) : ∃ i, i < l.length ∧ l.getD i 0 = x := by
  obtain ⟨k, hk, ek⟩ := List.getElem_of_mem h
  exact ⟨k, hk, by rw [List.getD_eq_getElem?_getD, List.getElem?_eq_getElem hk]; exact ek⟩
/-- What a right tale's writes and reads are. -/
theorem page_use {dss : List (List Dd)} {f rows : List Int} (h : taleB dss f rows = true) : (eventsB dss).length ≤ 12 ∧ (idxB rdE (eventsB dss)).length = f.length ∧ f.length ≤ 12 ∧ rows.length ≤ 36 ∧
    (∀ i, i < rows.length → (pageL (eventsB dss) f rows).getD (rows.getD i 0).toNat 0 = (i : Int)) ∧
    (∀ i, i < f.length → ∃ q, q < rows.length ∧ rows.getD q 0 = f.getD i 0 ∧ (pageL (eventsB dss) f rows).getD ((idxB rdE (eventsB dss)).getD i 0).toNat 0 = (q : Int)) ∧
    (∀ i, i < rows.length → 0 ≤ rows.getD i 0 ∧ rows.getD i 0 < ((eventsB dss).length : Int)) ∧
    (∀ i, i < f.length → (0 ≤ f.getD i 0 ∧ f.getD i 0 < ((eventsB dss).length : Int)) ∧ (0 ≤ (idxB rdE (eventsB dss)).getD i 0 ∧ (idxB rdE (eventsB dss)).getD i 0 < ((eventsB dss).length : Int)) ∧ plE (eventsB dss) (f.getD i 0) = plE (eventsB dss) ((idxB rdE (eventsB dss)).getD i 0)) ∧
    (∀ i, i < (eventsB dss).length → ((eventsB dss).getD i zE).2.2.1 = false → ∃ q, q < rows.length ∧ rows.getD q 0 = (i : Int)) := by
  obtain ⟨hb, hs, hr⟩ := tale_use h
  have hx := eventsB_12 dss
  have hall : ∀ i, i < (eventsB dss).length → ((eventsB dss).getD i zE).2.2.1 = false → ∃ q, q < rows.length ∧ rows.getD q 0 = (i : Int) := fun i hi hrd => by
    have plin : 0 ≤ ((eventsB dss).getD i zE).2.2.2.1 ∧ ((eventsB dss).getD i zE).2.2.2.1 ≤ 2 := by
      have := place_in hb i (by rw [eventsB, if_pos hb] at hi; exact hi)
      rw [eventsB, if_pos hb]
      exact this
    obtain ⟨p, hp⟩ := Int.eq_ofNat_of_zero_le plin.1
    have hmem : (i : Int) ∈ plcW (eventsB dss) p := idx_has hx hi (by unfold toE; rw [hrd, hp]; simp)
    refine mem_get ((rows_perm hx hr).mem_iff.1 ?_)
    unfold allW
    have : p = 0 ∨ p = 1 ∨ p = 2 := by omega
    rcases this with rfl | rfl | rfl
    · exact List.mem_append.2 (.inl (List.mem_append.2 (.inl hmem)))
    · exact List.mem_append.2 (.inl (List.mem_append.2 (.inr hmem)))
    · exact List.mem_append.2 (.inr hmem)
  obtain ⟨rn, r36, ru⟩ := rows_use hx hr
  have hwr : ∀ i, i < rows.length → ((eventsB dss).getD (rows.getD i 0).toNat zE).2.2.1 = false := fun i hi => by
    have hm := (rows_perm hx hr).mem_iff.2 (get_mem hi)
    have fin : ∀ p, rows.getD i 0 ∈ plcW (eventsB dss) p → ((eventsB dss).getD (rows.getD i 0).toNat zE).2.2.1 = false := fun p hp => by
      have := (idx_all hx hp).2
      unfold toE at this
      simp only [Bool.and_eq_true, Bool.not_eq_true'] at this
      exact this.1
    unfold allW at hm
    rcases List.mem_append.1 hm with hm | hm
    · rcases List.mem_append.1 hm with hm | hm
      · exact fin _ hm
      · exact fin _ hm
    · exact fin _ hm
  obtain ⟨sl, su⟩ := src_use hx hs
  have hf12 : f.length ≤ 12 := by
    rw [← sl]
    unfold idxB
    rw [if_pos hx]
    have := idxK_len rdE (eventsB dss) (eventsB dss).length
    omega
  have fw : ∀ i, i < f.length → ((eventsB dss).getD (f.getD i 0).toNat zE).2.2.1 = false := fun i hi => by
    have hs2 := hs
    unfold srcB at hs2
    rw [Bool.and_eq_true, decide_eq_true_eq] at hs2
    have hc : (chcL (eventsB dss)).length = (idxB rdE (eventsB dss)).length := chcK_len _ _ _
    have h3 := (srcK_iff (chcL (eventsB dss)).length).1 hs2.2 i (by omega)
    unfold chcL at h3
    rw [chcK_get _ _ _ _ (by omega)] at h3
    have := (idx_all hx (isB_mem h3)).2
    unfold toE at this
    simp only [Bool.and_eq_true, Bool.not_eq_true'] at this
    exact this.1
  have rd : ∀ i, i < f.length → (0 ≤ (idxB rdE (eventsB dss)).getD i 0 ∧ (idxB rdE (eventsB dss)).getD i 0 < ((eventsB dss).length : Int)) ∧ ((eventsB dss).getD ((idxB rdE (eventsB dss)).getD i 0).toNat zE).2.2.1 = true := fun i hi => idx_all hx (get_mem (by omega))
  have r12 : ∀ i, i < rows.length → 0 ≤ rows.getD i 0 ∧ rows.getD i 0 < 12 := fun i hi => by have := ru i hi; omega
  refine ⟨hx, sl, hf12, ?_, fun i hi => ?_, fun i hi => ?_, ru, fun i hi => ⟨(su i (by omega)).1, (rd i hi).1, (su i (by omega)).2⟩, hall⟩
  · exact r36
  · unfold pageL
    rw [pg_other (sitS_len _ _) _ (fun j hj => ⟨by have := (rd j (by omega)).1; omega, fun e => by have a := (rd j (by omega)).2; have b := hwr i hi; rw [e, b] at a; cases a⟩)]
    exact seat_get rn r12 _ i (Nat.le_refl _) hi
  · obtain ⟨q, hq, eq⟩ := hall (f.getD i 0).toNat (by have := (su i (by omega)).1; omega) (fw i hi)
    have eq' : rows.getD q 0 = f.getD i 0 := by have := (su i (by omega)).1; omega
    refine ⟨q, hq, eq', ?_⟩
    unfold pageL
    rw [pg_read (sitS_len _ _) (idx_nodup hx _) (fun j hj => by have := (rd j (by omega)).1; omega) (fun a b ha hb e => by have x := (rd a (by omega)).2; have y := fw b (by omega); rw [e, y] at x; cases x) _ i (Nat.le_refl _) (by omega), ← eq']
    exact seat_get rn r12 _ q (Nat.le_refl _) hq
/-- The page of a tale is never blank: at most one of the first two has seat 0. -/
theorem page_some {dss : List (List Dd)} {f rows : List Int} (h : taleB dss f rows = true) : pageL (eventsB dss) f rows ≠ List.replicate 12 0 := fun e => by
  obtain ⟨hb, hs, hr⟩ := tale_use h
  obtain ⟨hx, -, -, -, pw, -, -, -, -⟩ := page_use h
  have z : ∀ p : Nat, p < 3 → ∃ q, q < rows.length ∧ rows.getD q 0 = (p : Int) := fun p hp => by
    obtain ⟨f1, f2⟩ := plcW_first hb p hp
    have hm : (p : Int) ∈ plcW (eventsB dss) p := by rw [← f2]; exact get_mem f1
    refine mem_get ((rows_perm hx hr).mem_iff.1 ?_)
    unfold allW
    have : p = 0 ∨ p = 1 ∨ p = 2 := by omega
    rcases this with rfl | rfl | rfl
    · exact List.mem_append.2 (.inl (List.mem_append.2 (.inl hm)))
    · exact List.mem_append.2 (.inl (List.mem_append.2 (.inr hm)))
    · exact List.mem_append.2 (.inr hm)
  have zero : ∀ a : Nat, (List.replicate 12 (0 : Int)).getD a 0 = 0 := fun a => by
    rw [List.getD_eq_getElem?_getD, List.getElem?_replicate]
    split <;> rfl
  obtain ⟨a, ha, ea⟩ := z 0 (by omega)
  obtain ⟨b, hb2, eb⟩ := z 1 (by omega)
  have pa := pw a ha
  have pb := pw b hb2
  rw [e, zero] at pa pb
  have : a = b := by omega
  subst this
  omega
def blankB (p : List Int) : Bool := decide (p = List.replicate 12 0)
theorem page_blank (dss : List (List Dd)) (f rows : List Int) : blankB (pageB dss f rows) = !taleB dss f rows := by
  unfold blankB pageB
  cases h : taleB dss f rows with
  | false => simp
  | true => rw [if_pos rfl, decide_eq_false (page_some h)]; rfl
/-- AgainstWeb's lines as the program draws them. -/
def agI (p : List Int) (r : Nat) (ws st : List Int) : Nat → List Int
  | 0 => st
  | j + 1 => if decide (p.getD r 0 < p.getD (ws.getD j 0).toNat 0) = true then (agI p r ws st j).set r (gAdd ((agI p r ws st j).getD r 0) (ws.getD j 0)) else agI p r ws st j
def agO (es : List Ev) (p rs : List Int) : Nat → List Int
  | 0 => List.replicate es.length 0
  | k + 1 => agI p (rs.getD k 0).toNat (idxB (toE (plE es (rs.getD k 0))) es) (agO es p rs k) (idxB (toE (plE es (rs.getD k 0))) es).length
theorem web_agI {p ws st : List Int} {n r : Nat} (hw : ∀ j, j < ws.length → 0 ≤ ws.getD j 0 ∧ ws.getD j 0 < (n : Int)) (hr : r < n) (hst : Web n st) : ∀ m : Nat, m ≤ ws.length →
    Web n (agI p r ws st m) ∧ ∀ a b : Nat, a < n → (line (agI p r ws st m) a b = true ↔ line st a b = true ∨ (a = r ∧ ∃ q, q < m ∧ p.getD r 0 < p.getD b 0 ∧ ws.getD q 0 = (b : Int)))
  | 0, _ => ⟨hst, fun a b _ => by simp [agI]⟩
  | m + 1, hm => by
    obtain ⟨h1, h2⟩ := web_agI (p := p) hw hr hst m (by omega)
    obtain ⟨b0, hb0⟩ := Int.eq_ofNat_of_zero_le (hw m (by omega)).1
    have hb : b0 < n := by have := (hw m (by omega)).2; omega
    by_cases hp : p.getD r 0 < p.getD b0 0
    · have e0 : agI p r ws st (m + 1) = (agI p r ws st m).set r (gAdd ((agI p r ws st m).getD r 0) (b0 : Int)) := by rw [agI, hb0, Int.toNat_natCast, if_pos (decide_eq_true hp)]
      rw [e0]
      have hadd := ok_add (h1.2.2 r hr) hb
      refine ⟨h1.set hadd.1, fun a b haa => ?_⟩
      have e1 := h2 a b haa
      unfold line at e1 ⊢
      rw [getD_set _ _ _ _ (by rw [h1.2.1]; exact hr)]
      by_cases e : r = a
      · subst e
        simp only [if_true]
        rw [hadd.2 b, Bool.or_eq_true, e1, decide_eq_true_eq]
        constructor
        · rintro ((h | ⟨-, q, hq, r1, r2⟩) | h)
          · exact .inl h
          · exact .inr ⟨trivial, q, by omega, r1, r2⟩
          · subst h; exact .inr ⟨trivial, m, by omega, hp, hb0⟩
        · rintro (h | ⟨-, q, hq, r1, r2⟩)
          · exact .inl (.inl h)
          · by_cases eq : q = m
            · subst eq
              right
              rw [hb0] at r2
              omega
            · exact .inl (.inr ⟨rfl, q, by omega, r1, r2⟩)
      · simp only [e, if_false]
        rw [e1]
        constructor
        · rintro (h | ⟨h, _⟩)
          · exact .inl h
          · exact absurd h.symm e
        · rintro (h | ⟨h, _⟩)
          · exact .inl h
          · exact absurd h.symm e
    · have e0 : agI p r ws st (m + 1) = agI p r ws st m := by rw [agI, hb0, Int.toNat_natCast, if_neg (by simpa using hp)]
      rw [e0]
      refine ⟨h1, fun a b ha => ?_⟩
      rw [h2 a b ha]
      constructor
      · rintro (h | ⟨h, q, hq, r⟩)
        · exact .inl h
        · exact .inr ⟨h, q, by omega, r⟩
      · rintro (h | ⟨h, q, hq, r1, r2⟩)
        · exact .inl h
        · by_cases e : q = m
          · subst e
            rw [hb0] at r2
            exfalso
            obtain rfl : b0 = b := by omega
            exact hp r1
          · exact .inr ⟨h, q, by omega, r1, r2⟩
theorem web_agO {es : List Ev} {p rs : List Int} (hx : es.length ≤ 12) (hr : ∀ j, j < rs.length → 0 ≤ rs.getD j 0 ∧ rs.getD j 0 < (es.length : Int)) : ∀ m : Nat, m ≤ rs.length →
    Web es.length (agO es p rs m) ∧ ∀ a b : Nat, a < es.length → (line (agO es p rs m) a b = true ↔ ∃ i, i < m ∧ rs.getD i 0 = (a : Int) ∧ p.getD a 0 < p.getD b 0 ∧ (b : Int) ∈ idxB (toE (plE es (a : Int))) es)
  | 0, _ => ⟨Web.zero hx, fun a b _ => by unfold agO; rw [line_zero]; simp⟩
  | m + 1, hm => by
    obtain ⟨h1, h2⟩ := web_agO (p := p) hx hr m (by omega)
    obtain ⟨a0, ha0⟩ := Int.eq_ofNat_of_zero_le (hr m (by omega)).1
    have hal : a0 < es.length := by have := (hr m (by omega)).2; omega
    obtain ⟨g1, g2⟩ := web_agI (p := p) (ws := idxB (toE (plE es (a0 : Int))) es) (n := es.length) (r := a0) (fun j hj => (idx_all hx (get_mem hj)).1) hal h1 _ (Nat.le_refl _)
    rw [agO, ha0, Int.toNat_natCast]
    refine ⟨g1, fun a b ha => ?_⟩
    rw [g2 a b ha, h2 a b ha]
    constructor
    · rintro (⟨i, hi, r⟩ | ⟨rfl, q, hq, r1, r2⟩)
      · exact ⟨i, by omega, r⟩
      · exact ⟨m, by omega, ha0, r1, by rw [← r2]; exact get_mem hq⟩
    · rintro ⟨i, hi, e1, r1, r2⟩
      by_cases e : i = m
      · subst e
        have : a0 = a := by omega
        subst this
        obtain ⟨q, hq, eq⟩ := mem_get r2
        exact .inr ⟨rfl, q, hq, r1, eq⟩
      · exact .inl ⟨i, by omega, e1, r1, r2⟩
theorem ag_same {dss : List (List Dd)} {f rows : List Int} (h : taleB dss f rows = true) : agO (eventsB dss) (pageL (eventsB dss) f rows) (idxB rdE (eventsB dss)) (idxB rdE (eventsB dss)).length = agB dss f rows := by
  obtain ⟨hb, hs, hr⟩ := tale_use h
  obtain ⟨hx, sl, hf12, hr12, pw, pr, ru, fu, hall⟩ := page_use h
  have rr : ∀ i, i < (idxB rdE (eventsB dss)).length → 0 ≤ (idxB rdE (eventsB dss)).getD i 0 ∧ (idxB rdE (eventsB dss)).getD i 0 < ((eventsB dss).length : Int) := fun i hi => (fu i (by omega)).2.1
  have e3 : agB dss f rows = agK (eventsB dss).length (idxB rdE (eventsB dss)) f (rwL (eventsB dss) rows) (idxB rdE (eventsB dss)).length := by rw [agB, if_pos h]; rfl
  have wr := web_rwAll hx ru rows.length (Nat.le_refl _)
  have wa := web_ag hx (idx_nodup hx _) wr.1 (idxB rdE (eventsB dss)).length (Nat.le_refl _) rr (fun i hi => (fu i (by omega)).1)
  have wo := web_agO (p := pageL (eventsB dss) f rows) hx rr _ (Nat.le_refl _)
  rw [e3]
  refine Web.ext wo.1 wa.1 (fun a j ha hj => ?_)
  rw [Bool.eq_iff_iff, wo.2 a j ha]
  have e4 := wa.2 a j ha
  rw [show rwL (eventsB dss) rows = rwAll (eventsB dss) rows rows.length from rfl, e4]
  constructor
  · rintro ⟨i, hi, r1, r2, r3⟩
    refine ⟨i, hi, r1, ?_⟩
    obtain ⟨q, hq, eq, pq⟩ := pr i (by omega)
    have fa := fu i (by omega)
    rw [r1, Int.toNat_natCast] at pq
    have t := (idx_all hx r3).2
    rw [Int.toNat_natCast] at t
    unfold toE at t
    simp only [Bool.and_eq_true, Bool.not_eq_true', beq_iff_eq] at t
    obtain ⟨k, hk, ek⟩ := hall j hj t.1
    have pk := pw k hk
    rw [ek, Int.toNat_natCast] at pk
    rw [wr.2 _ _ (by omega)]
    refine ⟨q, k, hq, hk, ?_, by omega, ek⟩
    unfold rwP
    rw [pq, pk] at r2
    rw [decide_eq_true (show q < k by omega), eq, fa.2.2, r1, ek]
    show (true && _) = true
    rw [Bool.true_and, beq_iff_eq, ← t.2]
    unfold plE
    rw [Int.toNat_natCast]
  · rintro ⟨i, hi, r1, r2⟩
    refine ⟨i, hi, r1, ?_⟩
    have fa := fu i (by omega)
    obtain ⟨q, hq, eq, pq⟩ := pr i (by omega)
    rw [r1, Int.toNat_natCast] at pq
    rw [wr.2 _ _ (by omega)] at r2
    obtain ⟨i', k, hi', hk, r3, r4, r5⟩ := r2
    have pi := pw i' hi'
    have pk := pw k hk
    have pq' := pw q hq
    rw [r5, Int.toNat_natCast] at pk
    have e5 : rows.getD i' 0 = rows.getD q 0 := by omega
    rw [e5, pq'] at pi
    obtain rfl : q = i' := by omega
    unfold rwP at r3
    rw [Bool.and_eq_true, decide_eq_true_eq, beq_iff_eq] at r3
    refine ⟨by rw [pq, pk]; omega, idx_has hx hj ?_⟩
    have hm := (rows_perm hx hr).mem_iff.2 (get_mem hk)
    have fin : ∀ p, rows.getD k 0 ∈ plcW (eventsB dss) p → ((eventsB dss).getD (rows.getD k 0).toNat zE).2.2.1 = false := fun p hp => by
      have := (idx_all hx hp).2
      unfold toE at this
      simp only [Bool.and_eq_true, Bool.not_eq_true'] at this
      exact this.1
    have hw : ((eventsB dss).getD (rows.getD k 0).toNat zE).2.2.1 = false := by
      unfold allW at hm
      rcases List.mem_append.1 hm with hm | hm
      · rcases List.mem_append.1 hm with hm | hm
        · exact fin _ hm
        · exact fin _ hm
      · exact fin _ hm
    rw [r5, Int.toNat_natCast] at hw
    have h3 := r3.2
    rw [eq, fa.2.2, r1, r5] at h3
    unfold toE
    rw [hw, h3]
    unfold plE
    rw [Int.toNat_natCast]
    simp
end Go.Proofs.Ytgolhjmbloiakaa

/- What the contracts of this seat say of memory: 'Keep': all that was there is there as it was; 'Rd': a list of numbers that can be read; 'Own': one in memory that the call itself made. -/
namespace Go.Proofs.Ytgolhjmbloiakaa
open Go.ChangeShapes Go.WideShapes Go.ChangeAt Go.RowKit

def Keep (w w' : World) : Prop := Below w.heap.size w w'
theorem Keep.refl (w : World) : Keep w w := Below.refl _ _
theorem Keep.size {w w' : World} (h : Keep w w') : w.heap.size ≤ w'.heap.size := Below.size h
theorem Keep.trans {a b c : World} (h : Keep a b) (k : Keep b c) : Keep a c := Below.trans h (Below.mono k h.size)
theorem Keep.drew {a w : World} (h : Keep a w) : Keep a w.drew := Below.drew h
theorem Keep.drewN {a w : World} (h : Keep a w) (n : Nat) : Keep a (w.drewN n) := below_drewN h n
theorem Keep.alloc {a w : World} (h : Keep a w) (o : Obj) : Keep a (w.alloc o) := Below.alloc h h.size o
theorem Keep.grown {a w w' : World} {row : Option Nat} (h : Keep a w) (hg : w.grownBy w' row) (hr : ∀ k, row = some k → a.heap.size ≤ k) : Keep a w' := Below.grown h hg h.size hr
theorem Keep.grownBy {w w' : World} (h : Keep w w') : w.grownBy w' none := ⟨Below.os h, Below.tape h, Below.output h, Below.size h, fun k hk _ => Below.block h k hk⟩
theorem Keep.cell {w w' : World} (h : Keep w w') {b o : Nat} (hb : b < w.heap.size) : w'.cell? ⟨b, o, none⟩ = w.cell? ⟨b, o, none⟩ := Below.cell h hb

theorem grown_trans {a b c : World} {row : Option Nat} (h : a.grownBy b row) (k : b.grownBy c row) : a.grownBy c row :=
  ⟨k.os.trans h.os, k.tape.trans h.tape, k.output.trans h.output, Nat.le_trans h.size k.size, fun i hi hne => (k.block i (Nat.lt_of_lt_of_le hi h.size) hne).trans (h.block i hi hne)⟩

def Rd (w : World) (v : Value) (zs : List Int) : Prop :=
  ∃ (a : Option Addr) (cap : Nat), v = .slice a zs.length cap ∧
    (zs = [] ∨ ∃ b off, a = some ⟨b, off, none⟩ ∧ b < w.heap.size ∧ ∀ i, i < zs.length → w.cell? ⟨b, off + i, none⟩ = some (.int .i64 (zs.getD i 0)))
theorem Rd.keep {w w' : World} {v : Value} {zs : List Int} (h : Rd w v zs) (k : Keep w w') : Rd w' v zs := by
  obtain ⟨a, cap, hv, h⟩ := h
  refine ⟨a, cap, hv, ?_⟩
  rcases h with h | ⟨b, off, ha, hb, hc⟩
  · exact .inl h
  · exact .inr ⟨b, off, ha, Nat.lt_of_lt_of_le hb k.size, fun i hi => (k.cell hb).trans (hc i hi)⟩

def Own (w : World) (base : Nat) (v : Value) (zs : List Int) : Prop := w.ownsRow base 2 1 v zs.length (zs.map (Value.int .i64))
theorem Own.kept {w w' : World} {base : Nat} {v : Value} {zs : List Int} {row : Option Nat} (h : Own w base v zs) (hg : w.grownBy w' row) (hne : v.ownBlock = none ∨ v.ownBlock ≠ row) : Own w' base v zs :=
  World.ownsRow.kept h hg hne
theorem Own.keep {w w' : World} {base : Nat} {v : Value} {zs : List Int} (h : Own w base v zs) (k : Keep w w') : Own w' base v zs :=
  Own.kept h k.grownBy (by cases v.ownBlock <;> simp)
theorem Own.rd {w : World} {base : Nat} {v : Value} {zs : List Int} (h : Own w base v zs) : Rd w v zs := by
  have hlt := World.ownsRow.lt h
  rcases h.2 with ⟨rfl, hn⟩ | ⟨g, cap, cur, rfl, hb, hg, rest⟩
  · have : zs = [] := List.eq_nil_of_length_eq_zero hn
    subst this
    exact ⟨none, 0, rfl, .inl rfl⟩
  · refine ⟨some ⟨g, 0, none⟩, cap, rfl, .inr ⟨g, 0, rfl, (hlt g rfl).2, fun i hi => ?_⟩⟩
    have hc := World.ownsRow.cellAt h i (by simpa using hi)
    rw [Nat.zero_add, hc, List.getElem?_map, List.getElem?_eq_getElem hi, List.getD_eq_getElem?_getD, List.getElem?_eq_getElem hi]
    rfl
theorem Own.base_le {w : World} {base base' : Nat} {v : Value} {zs : List Int} (h : Own w base v zs) (hb : base' ≤ base) : Own w base' v zs := by
  refine ⟨h.1, ?_⟩
  rcases h.2 with h | ⟨g, cap, cur, hv, hg, rest⟩
  · exact .inl h
  · exact .inr ⟨g, cap, cur, hv, Nat.le_trans hb hg, rest⟩
theorem Own.ge {w : World} {base : Nat} {v : Value} {zs : List Int} (h : Own w base v zs) : ∀ k, v.ownBlock = some k → base ≤ k := fun k hk => (World.ownsRow.lt h k hk).1
theorem Own.apart {w w' : World} {base : Nat} {v v' : Value} {zs zs' : List Int} (h : Own w base v zs) (h' : Own w' w.heap.size v' zs') : v.ownBlock = none ∨ v.ownBlock ≠ v'.ownBlock := by
  cases hv : v.ownBlock with
  | none => exact .inl rfl
  | some k =>
    refine .inr fun e => ?_
    have h1 := (World.ownsRow.lt h k hv).2
    have h2 := h'.ge k e.symm
    omega
/-- What the shell tells of a slice that came in, as a list that can be read. -/
theorem rd_of_row {w : World} {a : Option Addr} {len cap : Nat} {ys : List Int}
    (h : (a = none ∧ len = 0 ∧ cap = 0 ∧ ys = []) ∨ ∃ x, a = some x ∧ len ≤ cap ∧ cap ≤ maxLen ∧ ys.length = cap ∧ (∀ i, i < ys.length → w.cell? (x.add i) = some (.int .i64 (ys.getD i 0))) ∧ ∀ n ∈ ys, (Lit.int .i64 n).wf = true) :
    ∃ zs : List Int, zs.length = len ∧ Rd w (.slice a len cap) zs := by
  rcases h with ⟨rfl, rfl, rfl, rfl⟩ | ⟨x, rfl, hl, hm, hy, hc, _⟩
  · exact ⟨[], rfl, none, 0, rfl, .inl rfl⟩
  · have hzl : (ys.take len).length = len := by rw [List.length_take]; omega
    refine ⟨ys.take len, hzl, some x, cap, by rw [hzl], ?_⟩
    by_cases h0 : len = 0
    · left; subst h0; simp
    · right
      obtain ⟨b, off, spot⟩ := x
      have hc0 := hc 0 (by omega)
      have hspot : spot = none := by simpa [Addr.add] using World.cell?_spot hc0
      subst hspot
      have hcc : ∀ i, i < (ys.take len).length → w.cell? ⟨b, off + i, none⟩ = some (.int .i64 ((ys.take len).getD i 0)) := by
        intro i hi
        have h1 := hc i (by omega)
        have e1 : (⟨b, off, none⟩ : Addr).add i = ⟨b, off + i, none⟩ := by unfold Addr.add; split <;> simp_all
        rw [e1] at h1
        rw [h1, List.getD_eq_getElem?_getD, List.getD_eq_getElem?_getD, List.getElem?_take, if_pos (by omega)]
      refine ⟨b, off, rfl, ?_, hcc⟩
      have h2 := hcc 0 (by omega)
      apply Classical.byContradiction
      intro hnb
      have h3 : w.heap[b]? = none := by simp; omega
      simp [World.cell?, h3] at h2
theorem own_hit {w : World} {base : Nat} {v : Value} {zs : List Int} {x : Int} (h : w.ownsRow base 2 1 v (zs.length + 1) (zs.map (Value.int .i64) ++ [.int .i64 x])) : Own w base v (zs ++ [x]) := by
  unfold Own; simpa using h
theorem Try.infoI : (Try.prog.info? 2).map (fun i => (i.zero, i.size, i.bytes)) = some (some (.int .i64 0), 1, 8) := by kernel_rfl
end Go.Proofs.Ytgolhjmbloiakaa

/- A list of numbers that lies at the beginning of a block, whatever room stands behind it there: 'RowAt', 'Row'; what a store turns in it, and that it stays where others write. -/
namespace Go.Proofs.Ytgolhjmbloiakaa
open Go.ChangeShapes Go.WideShapes Go.ChangeAt Go.RowKit

/-- Block g begins with the numbers zs and may be written. -/
def RowAt (w : World) (g : Nat) (zs : List Int) : Prop :=
  ∃ (cur : Array Value) (e : TypeId), w.heap[g]? = some (.cells cur e (0, 0)) ∧ cur.toList.take zs.length = zs.map (Value.int .i64)
theorem RowAt.lt {w : World} {g : Nat} {zs : List Int} (h : RowAt w g zs) : g < w.heap.size := by
  obtain ⟨cur, e, hh, _⟩ := h
  exact (Array.getElem?_eq_some_iff.1 hh).1
theorem RowAt.cell {w : World} {g : Nat} {zs : List Int} (h : RowAt w g zs) {j : Nat} (hj : j < zs.length) : w.cell? ⟨g, j, none⟩ = some (.int .i64 (zs.getD j 0)) := by
  obtain ⟨cur, e, hh, ht⟩ := h
  rw [cell_of_row w g j cur e (0, 0) hh]
  have h1 : (cur.toList.take zs.length)[j]? = (zs.map (Value.int .i64))[j]? := by rw [ht]
  rw [List.getElem?_take, if_pos hj, List.getElem?_map, List.getElem?_eq_getElem hj] at h1
  rw [List.getD_eq_getElem?_getD, List.getElem?_eq_getElem hj]
  simpa using h1
theorem RowAt.free {w : World} {g : Nat} {zs : List Int} (h : RowAt w g zs) (j : Nat) : w.frozen? ⟨g, j, none⟩ = false := by
  obtain ⟨cur, e, hh, _⟩ := h
  exact frozen_of_row w g j _ _ hh
theorem RowAt.kept {w w' : World} {g : Nat} {zs : List Int} {row : Option Nat} (h : RowAt w g zs) (hg : w.grownBy w' row) (hne : row ≠ some g) : RowAt w' g zs := by
  have hlt := h.lt
  obtain ⟨cur, e, hh, ht⟩ := h
  exact ⟨cur, e, by rw [hg.block g hlt (fun e => hne e.symm)]; exact hh, ht⟩
theorem RowAt.keep {w w' : World} {g : Nat} {zs : List Int} (h : RowAt w g zs) (k : Keep w w') : RowAt w' g zs := h.kept k.grownBy (by simp)
theorem grown_set (w : World) (g j : Nat) (v : Value) : w.grownBy (w.setCell ⟨g, j, none⟩ v) (some g) :=
  ⟨rfl, rfl, rfl, by simp, fun k _ hk => heap_setCell_other w ⟨g, j, none⟩ k v (fun e => hk (by simp [e]))⟩
theorem grown_draw (w : World) (n : Nat) (row : Option Nat) : w.grownBy (w.drewN n) row := ⟨rfl, rfl, rfl, Nat.le_refl _, fun _ _ _ => rfl⟩
theorem grown_drew (w : World) (row : Option Nat) : w.grownBy w.drew row := ⟨rfl, rfl, rfl, Nat.le_refl _, fun _ _ _ => rfl⟩
theorem RowAt.drewN {w : World} {g : Nat} {zs : List Int} (h : RowAt w g zs) (n : Nat) : RowAt (w.drewN n) g zs := h.kept (row := none) (grown_draw w n none) (by simp)
theorem RowAt.drew {w : World} {g : Nat} {zs : List Int} (h : RowAt w g zs) : RowAt w.drew g zs := h.kept (row := none) (grown_drew w none) (by simp)
theorem take_set_val (l : List Value) (zs : List Int) (j : Nat) (x : Int) (h : l.take zs.length = zs.map (Value.int .i64)) :
    (l.set j (.int .i64 x)).take (zs.set j x).length = (zs.set j x).map (Value.int .i64) := by
  rw [List.length_set, List.take_set, h, List.map_set]
theorem RowAt.set {w : World} {g : Nat} {zs : List Int} (h : RowAt w g zs) (j : Nat) (x : Int) : RowAt (w.setCell ⟨g, j, none⟩ (.int .i64 x)) g (zs.set j x) := by
  obtain ⟨cur, e, hh, ht⟩ := h
  refine ⟨cur.setIfInBounds j (.int .i64 x), e, ?_, ?_⟩
  · rw [heap_setCell_same w g j _ _ _ hh]
  · rw [Array.toList_setIfInBounds]
    exact take_set_val _ zs j x ht

/-- A list in memory from block 'base' on. -/
def Row (w : World) (base : Nat) (v : Value) (zs : List Int) : Prop :=
  (v = .slice none 0 0 ∧ zs = []) ∨ ∃ g cap, v = .slice (some ⟨g, 0, none⟩) zs.length cap ∧ base ≤ g ∧ RowAt w g zs
theorem Own.row {w : World} {base : Nat} {v : Value} {zs : List Int} (h : Own w base v zs) : Row w base v zs := by
  rcases h.2 with ⟨rfl, hn⟩ | ⟨g, cap, cur, rfl, hb, hg, _, _, _, ht⟩
  · exact .inl ⟨rfl, List.eq_nil_of_length_eq_zero hn⟩
  · exact .inr ⟨g, cap, rfl, hb, cur, _, hg, by rw [Nat.mul_one] at ht; exact ht⟩
theorem Row.lt {w : World} {base : Nat} {v : Value} {zs : List Int} (h : Row w base v zs) : ∀ k, v.ownBlock = some k → base ≤ k ∧ k < w.heap.size := by
  intro k hk
  rcases h with ⟨rfl, _⟩ | ⟨g, cap, rfl, hb, hr⟩
  · simp [Value.ownBlock] at hk
  · simp [Value.ownBlock] at hk; subst hk; exact ⟨hb, hr.lt⟩
theorem Row.ge {w : World} {base : Nat} {v : Value} {zs : List Int} (h : Row w base v zs) : ∀ k, v.ownBlock = some k → base ≤ k := fun k hk => (h.lt k hk).1
theorem Row.kept {w w' : World} {base : Nat} {v : Value} {zs : List Int} {row : Option Nat} (h : Row w base v zs) (hg : w.grownBy w' row) (hne : v.ownBlock = none ∨ v.ownBlock ≠ row) : Row w' base v zs := by
  rcases h with h | ⟨g, cap, rfl, hb, hr⟩
  · exact .inl h
  · refine .inr ⟨g, cap, rfl, hb, hr.kept hg ?_⟩
    simp [Value.ownBlock] at hne
    exact fun e => hne e.symm
theorem Row.keep {w w' : World} {base : Nat} {v : Value} {zs : List Int} (h : Row w base v zs) (k : Keep w w') : Row w' base v zs :=
  h.kept k.grownBy (by cases v.ownBlock <;> simp)
theorem Row.rd {w : World} {base : Nat} {v : Value} {zs : List Int} (h : Row w base v zs) : Rd w v zs := by
  rcases h with ⟨rfl, rfl⟩ | ⟨g, cap, rfl, hb, hr⟩
  · exact ⟨none, 0, rfl, .inl rfl⟩
  · exact ⟨some ⟨g, 0, none⟩, cap, rfl, .inr ⟨g, 0, rfl, hr.lt, fun i hi => by rw [Nat.zero_add]; exact hr.cell hi⟩⟩
theorem Row.base_le {w : World} {base base' : Nat} {v : Value} {zs : List Int} (h : Row w base v zs) (hb : base' ≤ base) : Row w base' v zs := by
  rcases h with h | ⟨g, cap, hv, hg, hr⟩
  · exact .inl h
  · exact .inr ⟨g, cap, hv, Nat.le_trans hb hg, hr⟩
/-- Of two rows the later one was made behind the first. -/
theorem Row.apart {w w' : World} {base : Nat} {v v' : Value} {zs zs' : List Int} (h : Row w base v zs) (h' : Row w' w.heap.size v' zs') : v.ownBlock = none ∨ v.ownBlock ≠ v'.ownBlock := by
  cases hv : v.ownBlock with
  | none => exact .inl rfl
  | some k =>
    refine .inr fun e => ?_
    have h1 := (h.lt k hv).2
    have h2 := h'.ge k e.symm
    omega
/-- A row that lies above is another one. -/
theorem Row.apart' {w w' : World} {base : Nat} {v v' : Value} {zs zs' : List Int} (h : Row w base v zs) (h' : Row w' w.heap.size v' zs') : v'.ownBlock = none ∨ v'.ownBlock ≠ v.ownBlock := by
  cases hv : v'.ownBlock with
  | none => exact .inl rfl
  | some k =>
    refine .inr fun e => ?_
    have h1 := (h.lt k e.symm).2
    have h2 := h'.ge k hv
    omega
theorem row_new {w : World} {g n cap base : Nat} {zs : List Int} (h : RowAt w g zs) (hb : base ≤ g) (hn : zs.length = n) : Row w base (.slice (some ⟨g, 0, none⟩) n cap) zs := by
  subst hn; exact .inr ⟨g, cap, rfl, hb, h⟩
/-- A literal without an element. -/
theorem row_empty (w : World) (e : TypeId) : Row (w.alloc (.cells #[] e)) w.heap.size (.slice (some ⟨w.heap.size, 0, none⟩) 0 0) [] :=
  .inr ⟨w.heap.size, 0, rfl, Nat.le_refl _, #[], e, heap_alloc_new w _, rfl⟩
end Go.Proofs.Ytgolhjmbloiakaa

/- How a function hands back structs that lie in blocks of its own: one, two, or one beside a plain value. -/
namespace Go.Proofs.Ytgolhjmbloiakaa
open Go.ChangeShapes Go.WideShapes Go.ChangeAt Go.RowKit

theorem heap_at (w : World) (A : Obj) (i : Nat) : (w.alloc A).heap[i]? = if i = w.heap.size then some A else w.heap[i]? := Array.getElem?_push
theorem heap_size (w : World) (A : Obj) : (w.alloc A).heap.size = w.heap.size + 1 := Array.size_push _
theorem heap_drew (w : World) : w.drew.heap = w.heap := rfl
theorem heap_drewN (w : World) (n : Nat) : (w.drewN n).heap = w.heap := rfl
theorem box_size {w w1 : World} {o : Obj} (k : Keep (w.alloc o) w1) : w.heap.size < w1.heap.size := by
  have := k.size
  rw [heap_size] at this
  omega
theorem box_cell {w w1 : World} {cs : Array Value} {t : TypeId} (k : Keep (w.alloc (.cells cs t)) w1) (i : Nat) : w1.cell? ⟨w.heap.size, i, none⟩ = cs[i]? := by
  rw [k.cell (by rw [heap_size]; omega), cell_of_row (w.alloc (.cells cs t)) w.heap.size i cs t (0, 0) (heap_alloc_new w _)]
theorem box_heap {w w1 : World} {o : Obj} (k : Keep (w.alloc o) w1) : w1.heap[w.heap.size]? = some o :=
  (Below.block k w.heap.size (by rw [heap_size]; omega)).trans (heap_alloc_new w o)
theorem box_deed {w w1 : World} {t : TypeId} {k p v g : Int} (h : Keep (w.alloc (.cells #[.int .i64 k, .int .i64 p, .int .i64 v, .int .i64 g] t)) w1) :
    w.heap.size < w1.heap.size ∧ w1.cell? ⟨w.heap.size, 0, none⟩ = some (.int .i64 k) ∧ w1.cell? ⟨w.heap.size, 1, none⟩ = some (.int .i64 p) ∧ w1.cell? ⟨w.heap.size, 2, none⟩ = some (.int .i64 v) ∧ w1.cell? ⟨w.heap.size, 3, none⟩ = some (.int .i64 g) :=
  ⟨box_size h, box_cell h 0, box_cell h 1, box_cell h 2, box_cell h 3⟩
abbrev strV (l : List UInt8) : Value := .string ⟨l.toArray⟩
theorem ret_bytes {a : ByteArray} {l : List UInt8} (h : a.data.toList = l) : Ending.returned (.string a) = .returned (strV l) := by
  subst h; rfl
theorem results_row {P : Program} {fn : Func} {p : Tmp} {ty : TypeId} (h : fn.results = #[.cell p ty]) (tmps : Array Value) (w : World) (g : Nat) (t : TypeId) (cs : Array Value) (fr : Nat × Nat) (d : TypeDesc)
    (hp : tmps.getD p undef = .pointer (some ⟨g, 0, none⟩)) (hg : w.heap[g]? = some (.cells cs t fr))
    (hu : P.underlying ty = some d) (hd : (match d with | .struct _ | .array _ _ => true | _ => false) = true) (hi : (P.info? ty).map (·.size) = some cs.size) :
    (results fn tmps).run P w = .ok (.agg cs) w := results_cell_row h tmps w g t cs fr d hp hg hu hd hi
theorem results_row_tmp {P : Program} {fn : Func} {p u : Tmp} {ty : TypeId} (h : fn.results = #[.cell p ty, .tmp u]) (tmps : Array Value) (w : World) (g : Nat) (t : TypeId) (cs : Array Value) (fr : Nat × Nat) (d : TypeDesc) (v : Value)
    (hp : tmps.getD p undef = .pointer (some ⟨g, 0, none⟩)) (hg : w.heap[g]? = some (.cells cs t fr)) (hv : tmps.getD u undef = v)
    (hu : P.underlying ty = some d) (hd : (match d with | .struct _ | .array _ _ => true | _ => false) = true) (hi : (P.info? ty).map (·.size) = some cs.size) :
    (results fn tmps).run P w = .ok (.tuple #[.agg cs, v]) w := by
  rw [results_cell_tmp h, hp, hv]
  simp [asAddr, run_loadVar_row w g t ty cs fr d hg hu hd hi, Result.andThen]
theorem results_row2 {P : Program} {fn : Func} {p q : Tmp} {ty : TypeId} (h : fn.results = #[.cell p ty, .cell q ty]) (tmps : Array Value) (w : World) (g g' : Nat) (t t' : TypeId) (cs cs' : Array Value) (fr fr' : Nat × Nat) (d : TypeDesc)
    (hp : tmps.getD p undef = .pointer (some ⟨g, 0, none⟩)) (hg : w.heap[g]? = some (.cells cs t fr))
    (hq : tmps.getD q undef = .pointer (some ⟨g', 0, none⟩)) (hg' : w.heap[g']? = some (.cells cs' t' fr'))
    (hu : P.underlying ty = some d) (hd : (match d with | .struct _ | .array _ _ => true | _ => false) = true) (hi : (P.info? ty).map (·.size) = some cs.size) (hi' : (P.info? ty).map (·.size) = some cs'.size) :
    (results fn tmps).run P w = .ok (.tuple #[.agg cs, .agg cs']) w := by
  have hp' : tmps[p]?.getD undef = .pointer (some ⟨g, 0, none⟩) := by simpa using hp
  have hq' : tmps[q]?.getD undef = .pointer (some ⟨g', 0, none⟩) := by simpa using hq
  simp [results, h, hp', hq', asAddr, run_loadVar_row w g t ty cs fr d hg hu hd hi, run_loadVar_row w g' t' ty cs' fr' d hg' hu hd hi']
end Go.Proofs.Ytgolhjmbloiakaa

/- An array of twelve numbers in a block of its own. -/
namespace Go.Proofs.Ytgolhjmbloiakaa
open Go.ChangeShapes Go.WideShapes Go.ChangeAt Go.RowKit

abbrev pgC (p : List Int) : Array Value := (p.map (Value.int .i64)).toArray
abbrev pgV (p : List Int) : Value := .agg (pgC p)
def Pg (w : World) (g : Nat) (p : List Int) : Prop := w.heap[g]? = some (.cells (pgC p) 63 (0, 0))
theorem Pg.lt {w : World} {g : Nat} {p : List Int} (h : Pg w g p) : g < w.heap.size := (Array.getElem?_eq_some_iff.1 h).1
theorem Pg.row {w : World} {g : Nat} {p : List Int} (h : Pg w g p) : RowAt w g p := ⟨_, _, h, by show List.take p.length (p.map _) = _; exact List.take_of_length_le (by simp)⟩
theorem Pg.cell {w : World} {g : Nat} {p : List Int} (h : Pg w g p) {j : Nat} (hj : j < p.length) : w.cell? ⟨g, j, none⟩ = some (.int .i64 (p.getD j 0)) := h.row.cell hj
theorem Pg.free {w : World} {g : Nat} {p : List Int} (h : Pg w g p) (j : Nat) : w.frozen? ⟨g, j, none⟩ = false := frozen_of_row w g j _ _ h
theorem Pg.kept {w w' : World} {g : Nat} {p : List Int} {row : Option Nat} (h : Pg w g p) (hg : w.grownBy w' row) (hne : row ≠ some g) : Pg w' g p := by
  unfold Pg
  rw [hg.block g h.lt (fun e => hne e.symm)]
  exact h
theorem Pg.keep {w w' : World} {g : Nat} {p : List Int} (h : Pg w g p) (k : Keep w w') : Pg w' g p := h.kept k.grownBy (by simp)
theorem Pg.set {w : World} {g : Nat} {p : List Int} (h : Pg w g p) (j : Nat) (x : Int) : Pg (w.setCell ⟨g, j, none⟩ (.int .i64 x)) g (p.set j x) := by
  unfold Pg at h ⊢
  rw [heap_setCell_same w g j _ _ _ h]
  congr 2
  apply Array.ext'
  rw [Array.toList_setIfInBounds]
  simp [List.map_set]
theorem Pg.new {w : World} (p : List Int) : Pg (w.alloc (.cells (pgC p) 63 (0, 0))) w.heap.size p := heap_alloc_new w _
theorem pg_size {p : List Int} (h : p.length = 12) : (pgC p).size = 12 := by simp [pgC, h]
theorem pg_one (p : List Int) : (pgC p).all (·.oneCell') = true := by
  rw [Array.all_eq_true_iff_forall_mem]
  intro x hx
  simp only [pgC, List.mem_toArray, List.mem_map] at hx
  obtain ⟨a, _, rfl⟩ := hx
  rfl
theorem heap_setRow_same (w : World) (g : Nat) (t : TypeId) (old cs : Array Value) (hg : w.heap[g]? = some (.cells old t (0, 0))) : (w.setRow g cs).heap[g]? = some (.cells cs t (0, 0)) := by
  unfold World.setRow
  have hl := (Array.getElem?_eq_some_iff.1 hg).1
  rw [Array.getElem?_modify]
  simp [hg]
theorem grown_setRow (w : World) (g : Nat) (cs : Array Value) : w.grownBy (w.setRow g cs) (some g) :=
  ⟨rfl, rfl, rfl, by simp, fun k _ hk => by
    unfold World.setRow
    have hk' : k ≠ g := fun e => hk (by rw [e])
    rw [Array.getElem?_modify]
    simp [hk'.symm]⟩
theorem page_info : (Try.prog.info? 63).map (·.size) = some 12 := by kernel_rfl
end Go.Proofs.Ytgolhjmbloiakaa

/- Lists of lists of numbers in memory: that can be read ('RdL'); that grow, each part in a block apart from the row's ('AppL'). -/
namespace Go.Proofs.Ytgolhjmbloiakaa
open Go.ChangeShapes Go.WideShapes Go.ChangeAt Go.RowKit

def RdL (w : World) (v : Value) (zss : List (List Int)) : Prop :=
  ∃ (a : Option Addr) (cap : Nat), v = .slice a zss.length cap ∧
    (zss = [] ∨ ∃ b off, a = some ⟨b, off, none⟩ ∧ b < w.heap.size ∧ ∀ i, i < zss.length → ∃ vi, w.cell? ⟨b, off + i, none⟩ = some vi ∧ Rd w vi (zss.getD i []))
theorem RdL.keep {w w' : World} {v : Value} {zss : List (List Int)} (h : RdL w v zss) (k : Keep w w') : RdL w' v zss := by
  obtain ⟨a, cap, hv, h⟩ := h
  refine ⟨a, cap, hv, ?_⟩
  rcases h with h | ⟨b, off, ha, hb, hc⟩
  · exact .inl h
  · refine .inr ⟨b, off, ha, Nat.lt_of_lt_of_le hb k.size, fun i hi => ?_⟩
    obtain ⟨vi, h1, h2⟩ := hc i hi
    exact ⟨vi, (k.cell hb).trans h1, h2.keep k⟩
theorem Rd.keptR {w w' : World} {v : Value} {zs : List Int} {row : Option Nat} (h : Rd w v zs) (hg : w.grownBy w' row) (hne : v.ownBlock = none ∨ v.ownBlock ≠ row) : Rd w' v zs := by
  obtain ⟨a, cap, rfl, h⟩ := h
  refine ⟨a, cap, rfl, ?_⟩
  rcases h with h | ⟨b, off, rfl, hb, hc⟩
  · exact .inl h
  · refine .inr ⟨b, off, rfl, Nat.lt_of_lt_of_le hb hg.size, fun i hi => ?_⟩
    rw [World.cell?_of_block (w := w) (hg.block b hb (fun e => by rcases hne with h | h <;> simp [Value.ownBlock] at h; exact h e))]
    exact hc i hi
/-- The room of a slice. -/
def capZ : Value → Nat
  | .slice _ _ c => c
  | _ => 0
theorem Own.capz {w : World} {base : Nat} {v : Value} {zs : List Int} (h : Own w base v zs) : zs.length ≤ capZ v := by
  rcases h.2 with ⟨rfl, hz⟩ | ⟨g, cap, cur, rfl, hb, hg, hc, _⟩
  · rw [hz]; exact Nat.zero_le _
  · exact hc
/-- A list of numbers that can be read, in a block apart from that of x. -/
structure Beside (w : World) (x u : Value) (zs : List Int) : Prop where
  rd : Rd w u zs
  ne : u.ownBlock = none ∨ u.ownBlock ≠ x.ownBlock
  lt : ∀ k, u.ownBlock = some k → k < w.heap.size
  cap : zs.length ≤ capZ u
theorem Beside.keep {w w' : World} {x u : Value} {zs : List Int} (h : Beside w x u zs) (k : Keep w w') : Beside w' x u zs :=
  ⟨h.rd.keep k, h.ne, fun j hj => Nat.lt_of_lt_of_le (h.lt j hj) k.size, h.cap⟩
theorem Beside.grow {w w' : World} {x x' u : Value} {zs : List Int} (h : Beside w x u zs) (hg : w.grownBy w' x.ownBlock) (hb : x'.ownBlock = x.ownBlock ∨ x'.ownBlock = some w.heap.size) : Beside w' x' u zs := by
  refine ⟨h.rd.keptR hg h.ne, ?_, fun j hj => Nat.lt_of_lt_of_le (h.lt j hj) hg.size, h.cap⟩
  rcases hb with hb | hb
  · rw [hb]; exact h.ne
  · cases hu : u.ownBlock with
    | none => exact .inl rfl
    | some k => exact .inr (fun e => by rw [hb] at e; have := h.lt k hu; have := Option.some.inj e; omega)
theorem Own.beside {w' : World} {x u : Value} {zs : List Int} {base : Nat} (h : Own w' base u zs) (hx : ∀ k, x.ownBlock = some k → k < base) : Beside w' x u zs :=
  ⟨h.rd, by
    cases hu : u.ownBlock with
    | none => exact .inl rfl
    | some k => exact .inr (fun e => by have := hx k e.symm; have := h.ge k hu; omega), fun k hk => (World.ownsRow.lt h k hk).2, h.capz⟩
structure AppL (w : World) (base : Nat) (x : Value) (vs : List Value) (zss : List (List Int)) : Prop where
  row : w.ownsRow base 27 1 x zss.length vs
  each : ∀ i u, vs[i]? = some u → Beside w x u (zss.getD i [])
theorem AppL.keep {w w' : World} {base : Nat} {x : Value} {vs : List Value} {zss : List (List Int)} (h : AppL w base x vs zss) (k : Keep w w') : AppL w' base x vs zss :=
  ⟨World.ownsRow.kept h.row k.grownBy (by cases x.ownBlock <;> simp), fun i u hu => (h.each i u hu).keep k⟩
theorem AppL.lt {w : World} {base : Nat} {x : Value} {vs : List Value} {zss : List (List Int)} (h : AppL w base x vs zss) : ∀ k, x.ownBlock = some k → base ≤ k ∧ k < w.heap.size := World.ownsRow.lt h.row
theorem AppL.rd {w : World} {base : Nat} {x : Value} {vs : List Value} {zss : List (List Int)} (h : AppL w base x vs zss) : RdL w x zss := by
  have hl := h.row.1
  have hlt := h.lt
  have h2 := h.row
  rcases h.row.2 with ⟨rfl, hz⟩ | ⟨g, cap, cur, rfl, hb, hg, _⟩
  · exact ⟨none, 0, by rw [hz], .inl (List.eq_nil_of_length_eq_zero hz)⟩
  · refine ⟨_, _, rfl, .inr ⟨g, 0, rfl, (hlt g rfl).2, fun i hi => ?_⟩⟩
    have hi' : i < vs.length := by omega
    refine ⟨vs[i], ?_, (h.each i _ (List.getElem?_eq_getElem hi')).rd⟩
    rw [Nat.zero_add, World.ownsRow.cellAt h2 i (by omega), List.getElem?_eq_getElem hi']
/-- .. with the room of each list. -/
def RdLC (w : World) (v : Value) (zss : List (List Int)) : Prop :=
  ∃ (a : Option Addr) (cap : Nat), v = .slice a zss.length cap ∧
    (zss = [] ∨ ∃ b off, a = some ⟨b, off, none⟩ ∧ b < w.heap.size ∧ ∀ i, i < zss.length → ∃ vi, w.cell? ⟨b, off + i, none⟩ = some vi ∧ Rd w vi (zss.getD i []) ∧ (zss.getD i []).length ≤ capZ vi)
theorem RdLC.rd {w : World} {v : Value} {zss : List (List Int)} (h : RdLC w v zss) : RdL w v zss := by
  obtain ⟨a, cap, hv, h⟩ := h
  refine ⟨a, cap, hv, ?_⟩
  rcases h with h | ⟨b, off, ha, hb, hc⟩
  · exact .inl h
  · refine .inr ⟨b, off, ha, hb, fun i hi => ?_⟩
    obtain ⟨vi, h1, h2, _⟩ := hc i hi
    exact ⟨vi, h1, h2⟩
theorem AppL.rdc {w : World} {base : Nat} {x : Value} {vs : List Value} {zss : List (List Int)} (h : AppL w base x vs zss) : RdLC w x zss := by
  have hl := h.row.1
  have hlt := h.lt
  have h2 := h.row
  rcases h.row.2 with ⟨rfl, hz⟩ | ⟨g, cap, cur, rfl, hb, hg, _⟩
  · exact ⟨none, 0, by rw [hz], .inl (List.eq_nil_of_length_eq_zero hz)⟩
  · refine ⟨_, _, rfl, .inr ⟨g, 0, rfl, (hlt g rfl).2, fun i hi => ?_⟩⟩
    have hi' : i < vs.length := by omega
    have hE := h.each i _ (List.getElem?_eq_getElem hi')
    refine ⟨vs[i], ?_, hE.rd, hE.cap⟩
    rw [Nat.zero_add, World.ownsRow.cellAt h2 i (by omega), List.getElem?_eq_getElem hi']
theorem appL_empty (w : World) : AppL (w.alloc (.cells #[] 27)) w.heap.size (.slice (some ⟨w.heap.size, 0, none⟩) 0 0) [] [] :=
  ⟨World.ownsRow_lit w #[] 0 (Nat.le_refl _) (by decide) (by simp), by simp⟩
theorem AppL.push {w w' : World} {base : Nat} {x x' u : Value} {vs : List Value} {zss : List (List Int)} {zs : List Int} (h : AppL w base x vs zss) (hu : Beside w x u zs)
    (ho : w'.ownsRow base 27 1 x' (zss.length + 1) (vs ++ [u])) (hg : w.grownBy w' x.ownBlock) (hb : x'.ownBlock = x.ownBlock ∨ x'.ownBlock = some w.heap.size) : AppL w' base x' (vs ++ [u]) (zss ++ [zs]) := by
  have hl := h.row.1
  refine ⟨by rw [List.length_append]; exact ho, fun i y hy => ?_⟩
  by_cases hi : i < vs.length
  · rw [List.getElem?_append_left hi] at hy
    have := (h.each i y hy).grow hg hb
    rw [List.getD_eq_getElem?_getD, List.getElem?_append_left (by omega), ← List.getD_eq_getElem?_getD]
    exact this
  · have hi2 : i = vs.length := by
      have := (List.getElem?_eq_some_iff.1 hy).1
      simp at this
      omega
    subst hi2
    rw [List.getElem?_append_right (Nat.le_refl _), Nat.sub_self] at hy
    simp only [List.getElem?_cons_zero, Option.some.injEq] at hy
    subst hy
    rw [List.getD_eq_getElem?_getD, List.getElem?_append_right (by omega), show vs.length - zss.length = 0 by omega]
    exact hu.grow hg hb
theorem Try.infoL : (Try.prog.info? 27).map (fun i => (i.zero, i.size, i.bytes)) = some (some (.slice none 0 0), 1, 24) := by kernel_rfl
end Go.Proofs.Ytgolhjmbloiakaa

/- A range over a function whose iterator hands out what lies in memory: what a round keeps ('But'), the iterator's contract ('SeqM'), the law for its caller ('wp_rangeM'). -/
namespace Go.Proofs.Ytgolhjmbloiakaa
open Go.RowKit

/-- All that lay is as it was, but for the blocks of C. -/
structure But (C : Nat → Prop) (w w' : World) : Prop where
  os : w'.os = w.os
  tape : w'.tape = w.tape
  output : w'.output = w.output
  size : w.heap.size ≤ w'.heap.size
  block : ∀ k, k < w.heap.size → ¬ C k → w'.heap[k]? = w.heap[k]?
theorem But.refl (C : Nat → Prop) (w : World) : But C w w := ⟨rfl, rfl, rfl, Nat.le_refl _, fun _ _ _ => rfl⟩
theorem But.trans {C : Nat → Prop} {a b c : World} (h : But C a b) (k : But C b c) : But C a c :=
  ⟨k.os.trans h.os, k.tape.trans h.tape, k.output.trans h.output, Nat.le_trans h.size k.size, fun i hi hn => (k.block i (Nat.lt_of_lt_of_le hi h.size) hn).trans (h.block i hi hn)⟩
theorem But.mono {C C' : Nat → Prop} {a b : World} (h : But C a b) (hc : ∀ k, k < a.heap.size → C k → C' k) : But C' a b :=
  ⟨h.os, h.tape, h.output, h.size, fun i hi hn => h.block i hi (fun e => hn (hc i hi e))⟩
theorem But.of_below {C : Nat → Prop} {a b : World} (h : Below a.heap.size a b) : But C a b := ⟨h.os, h.tape, h.output, h.size, fun i hi _ => h.block i hi⟩
theorem But.of_grown {C : Nat → Prop} {a b : World} {row : Option Nat} (h : a.grownBy b row) (hr : ∀ k, row = some k → C k) : But C a b :=
  ⟨h.os, h.tape, h.output, h.size, fun i hi hn => h.block i hi (fun e => hn (hr i e.symm))⟩
theorem But.alloc {C : Nat → Prop} {a b : World} (h : But C a b) (o : Obj) : But C a (b.alloc o) := h.trans (But.of_grown (World.grownBy_alloc b o none) (by simp))
theorem But.put {C : Nat → Prop} {a b : World} (h : But C a b) {l : Nat} (hl : C l) (o : Obj) : But C a (b.putObj l o) := h.trans (But.of_grown (grownBy_putObj' b l o) (fun k e => by cases e; exact hl))
theorem But.setCell {C : Nat → Prop} {a b : World} (h : But C a b) {l : Nat} (hl : C l) (o : Nat) (v : Value) : But C a (b.setCell ⟨l, o, none⟩ v) :=
  h.trans ⟨rfl, rfl, rfl, by simp [World.setCell], fun k _ hn => Below.heap_setCell _ _ _ _ (fun e => hn (by rw [e]; exact hl))⟩
theorem But.drew {C : Nat → Prop} {a b : World} (h : But C a b) : But C a b.drew := h.trans ⟨rfl, rfl, rfl, Nat.le_refl _, fun _ _ _ => rfl⟩
theorem But.below {C : Nat → Prop} {a b : World} (h : But C a b) (hc : ∀ k, C k → a.heap.size ≤ k) : Below a.heap.size a b := ⟨h.os, h.tape, h.output, h.size, fun k hk => h.block k hk (fun e => by have := hc k e; omega)⟩
/-- A block from s on that holds no cells (the record of a loop, deferred calls). -/
def NC (s : Nat) (A : World) (b : Nat) : Prop := s ≤ b ∧ ∃ o : Obj, A.heap[b]? = some o ∧ o.isCells = false
theorem NC.le {s s' : Nat} {A : World} {b : Nat} (h : NC s A b) (hs : s' ≤ s) : NC s' A b := ⟨Nat.le_trans hs h.1, h.2⟩
/-- It speaks of blocks below s, and of cells, alone. -/
def Stays (s : Nat) (J : World → Prop) : Prop := ∀ A B, J A → But (NC s A) A B → J B
/-- The contract of an iterator that hands out N things, the k-th being what Lie says. C: the blocks that a round may turn; Pr: those that the iterator reads. -/
def SeqM (P : Program) (gf : Nat) (lb : Array Value) (Pr : Nat → Prop) (N : Nat) (Lie : Nat → Nat → Value → World → Prop) (w0 : World) : Prop :=
  ∀ (C : Nat → Prop) (l : Nat) (J Jx : Nat → World → Prop) (W : World), But (fun b => ¬ Pr b) w0 W → (∀ b, C b → b < W.heap.size ∧ ¬ Pr b) →
    (∀ k, Stays W.heap.size (J k)) → (∀ k, Stays W.heap.size (Jx k)) →
    (∀ (m k : Nat) (v : Value) (W1 : World), k < N → J k W1 → Lie W.heap.size k v W1 → YieldAt Fence.wide m P l #[v] W1 fun e W' =>
      ∃ b : Bool, e = .returned (.bool b) ∧ But C W1 W' ∧ (b = true → J (k + 1) W') ∧ (b = false → Jx k W')) →
    J 0 W →
    Calls P gf (#[.func (.yield l) #[] #[]] ++ lb) W fun e W' => (∃ v, e = .returned v) ∧ (J N W' ∨ ∃ k, k < N ∧ Jx k W')
/-- How the body of a round may be left. -/
def postM (C : Nat → Prop) (I : Nat → World → Prop) (Ix : Code → Nat → World → Prop) (k : Nat) (W : World) : Exit → Act → World → Prop
  | .normal, _, W' => But C W W' ∧ I (k + 1) W'
  | .ret, _, W' => But C W W' ∧ Ix .ret k W'
  | .exit id, _, W' => But C W W' ∧ Ix (.exit id) k W'
  | .goto t, _, W' => But C W W' ∧ Ix (.goto t) k W'
  | .panic _, _, _ => False
  | .outgrown, _, _ => False
theorem wp_rangeM {n : Nat} {P : Program} {g : Operand} {ps : Array Tmp} {assign body : Code} {Q : Exit → Act → World → Prop} {a : Act} {w : World} {gf : Nat} {lb : Array Value} {Pr : Nat → Prop} {N : Nat} {Lie : Nat → Nat → Value → World → Prop} {w0 : World}
    (hg : a.eval g = .func (.func gf) #[] lb) (eg : ∀ args w, (callFunc gf args).run P w = .ok (.enter gf args) w) (hps : ps.size = 1)
    (hseq : SeqM P gf lb Pr N Lie w0) (hk0 : But (fun b => ¬ Pr b) w0 w) (hPr : ∀ b, Pr b → b < w0.heap.size)
    (C : Nat → Prop) (hC : ∀ b, C b → b < w.heap.size ∧ ¬ Pr b)
    (I : Nat → World → Prop) (Ix : Code → Nat → World → Prop) (hI : ∀ k, Stays w.heap.size (I k)) (hIx : ∀ c k, Stays w.heap.size (Ix c k))
    (hL : ∀ s k v A B, Lie s k v A → But (fun b => b < s) A B → Lie s k v B) (h0 : I 0 w) (a₁ : Value → Act)
    (hassign : ∀ (m : Nat) (v : Value) (W : World) (K : Act → World → Prop), K (a₁ v) W →
      assign.wpIn (Fence.wide.inRound (w.heap.size + 1)) m P (Exit.then K (fun _ _ _ => False)) { tmps := (ps.zip #[v]).foldl (fun t (p, v) => t.setIfInBounds p v) a.tmps, defers := [] } W)
    (hbody : ∀ (m k : Nat) (v : Value) (W : World), k < N → I k W → Lie (w.heap.size + 2) k v W → body.wpIn (Fence.wide.inRound (w.heap.size + 1)) m P (postM C I Ix k W) (a₁ v) W)
    (hdone : ∀ W, I N W → W.heap[w.heap.size]? = some (.deferred (some [])) → Q .normal { a with defers := { target := .collected w.heap.size, args := #[] } :: a.defers } W)
    (hstop : ∀ c k W, k < N → Ix c k W → W.heap[w.heap.size]? = some (.deferred (some [])) → c.wpIn Fence.wide n P Q { a with defers := { target := .collected w.heap.size, args := #[] } :: a.defers } W) :
    (Code.rangeFunc g ps assign body).wpIn Fence.wide n P Q a w := by
  have hs0 := hk0.size
  refine wpIn_rangeFunc ?_
  intro fn hfn
  -- the two blocks that the loop lays: D for deferred calls, its record behind it
  obtain ⟨rc, hrc⟩ : ∃ rc : LoopState → Option Code → Loop, rc = fun st pe => { state := st, pending := pe, fn, tmps := a.tmps, params := ps, assign, body, defers := w.heap.size } := ⟨_, rfl⟩
  obtain ⟨W1, hW1⟩ : ∃ W1, W1 = (w.alloc (.deferred (some []))).alloc (.loop (rc .ready none)) := ⟨_, rfl⟩
  have hz : W1.heap.size = w.heap.size + 2 := by rw [hW1]; simp
  have hB1 : Below w.heap.size w W1 := by rw [hW1]; exact ((Below.refl _ w).alloc (Nat.le_refl _) _).alloc (by simp) _
  have hl1 : W1.heap[w.heap.size + 1]? = some (.loop (rc .ready none)) := by
    rw [hW1]
    have := World.alloc_heap_new (w.alloc (.deferred (some []))) (.loop (rc .ready none))
    rwa [World.size_alloc] at this
  have hd1 : W1.heap[w.heap.size]? = some (.deferred (some [])) := by
    rw [hW1]
    exact (Below.heap_alloc _ _ _ (by simp)).trans (World.alloc_heap_new w _)
  refine ⟨w.heap.size + 1, [{ target := .collected w.heap.size, args := #[] }], W1, { target := .fn (.func gf) lb, args := #[.func (.yield (w.heap.size + 1)) #[] #[]] }, W1, gf, #[.func (.yield (w.heap.size + 1)) #[] #[]] ++ lb, W1, ?_, ?_, ?_, ?_, ?_, ?_⟩
  · rw [hW1, hrc]; exact run_enterLoop_outer _ _ _ _ _
  · simp only [resolve, hg]
    simp [go_sem]
  · intro f' _; exact trivial
  · simp [invoke, go_sem, eg]
  · intro h; cases h
  refine callsIn_wide.2 ((hseq (fun b => C b ∨ b = w.heap.size + 1) (w.heap.size + 1)
    (fun k A => I k A ∧ A.heap[w.heap.size + 1]? = some (.loop (rc .ready none)) ∧ A.heap[w.heap.size]? = some (.deferred (some [])))
    (fun k A => ∃ c, Ix c k A ∧ A.heap[w.heap.size + 1]? = some (.loop (rc .done (some c))) ∧ A.heap[w.heap.size]? = some (.deferred (some [])))
    W1 (hk0.trans (But.of_below hB1)) ?_ ?_ ?_ ?_ ⟨hI 0 _ _ h0 (But.of_below hB1), hl1, hd1⟩).mono ?_)
  · rintro b (hb | rfl)
    · exact ⟨by have := (hC b hb).1; omega, (hC b hb).2⟩
    · exact ⟨by omega, fun hp => by have := hPr _ hp; omega⟩
  · rintro k A B ⟨h1, h2, h3⟩ hB
    have e1 : w.heap.size + 1 < A.heap.size := (Array.getElem?_eq_some_iff.1 h2).1
    have nl : ∀ b, b < w.heap.size + 2 → ¬ NC W1.heap.size A b := fun b hb h => by have := h.1; omega
    exact ⟨hI k _ _ h1 (hB.mono (fun b _ hb => hb.le (by omega))), (hB.block _ e1 (nl _ (by omega))).trans h2, (hB.block _ (by omega) (nl _ (by omega))).trans h3⟩
  · rintro k A B ⟨c, h1, h2, h3⟩ hB
    have e1 : w.heap.size + 1 < A.heap.size := (Array.getElem?_eq_some_iff.1 h2).1
    have nl : ∀ b, b < w.heap.size + 2 → ¬ NC W1.heap.size A b := fun b hb h => by have := h.1; omega
    exact ⟨c, hIx c k _ _ h1 (hB.mono (fun b _ hb => hb.le (by omega))), (hB.block _ e1 (nl _ (by omega))).trans h2, (hB.block _ (by omega) (nl _ (by omega))).trans h3⟩
  · -- one round
    rintro m k v W hk ⟨hi, hl, hd⟩ hv
    rw [hz] at hv
    have hlt : w.heap.size + 1 < W.heap.size := (Array.getElem?_eq_some_iff.1 hl).1
    have hy := run_yield (P := P) (args := #[v]) hl (by rw [hrc]; exact hps.symm)
    rw [hrc] at hy
    refine ⟨fn, _, assign, body, hy, roundIn_of_wpIn hfn (hassign m v W _ ⟨_, run_beginRound hl (by rw [hrc]), ?_⟩)⟩
    clear hy
    obtain ⟨W2, hW2⟩ : ∃ W2, W2 = W.putObj (w.heap.size + 1) (.loop { rc .ready none with state := .busy }) := ⟨_, rfl⟩
    rw [← hW2]
    have hl2 : W2.heap[w.heap.size + 1]? = some (.loop { rc .ready none with state := .busy }) := by rw [hW2]; exact World.putObj_heap_same hlt
    have hd2 : W2.heap[w.heap.size]? = some (.deferred (some [])) := by rw [hW2]; exact (World.putObj_heap_other (by omega)).trans hd
    have hb2 : ∀ X : Nat → Prop, X (w.heap.size + 1) → But X W W2 := fun X hX => by rw [hW2]; exact (But.refl X W).put hX _
    refine wpIn_mono (hbody m k v W2 hk (hI k _ _ hi (hb2 _ ⟨by omega, _, hl, rfl⟩)) (hL _ _ _ _ _ hv (hb2 _ (by omega)))) ?_
    have fin : ∀ (jump : Option Code) (W3 : World), But C W2 W3 → ∃ W4, (Instr.endRound (w.heap.size + 1) jump).run P W3 = .ok (.bool jump.isNone) W4 ∧ (∀ X : Nat → Prop, X (w.heap.size + 1) → But X W3 W4) ∧ NC w.heap.size W3 (w.heap.size + 1) ∧
        W4.heap[w.heap.size + 1]? = some (.loop (rc (if jump.isNone then .ready else .done) jump)) ∧ W4.heap[w.heap.size]? = some (.deferred (some [])) := by
      intro jump W3 h3
      have e1 : w.heap.size + 1 < W2.heap.size := (Array.getElem?_eq_some_iff.1 hl2).1
      have hl3 : W3.heap[w.heap.size + 1]? = some (.loop { rc .ready none with state := .busy }) := (h3.block _ e1 (fun e => by have := (hC _ e).1; omega)).trans hl2
      have hd3 : W3.heap[w.heap.size]? = some (.deferred (some [])) := (h3.block _ (by omega) (fun e => by have := (hC _ e).1; omega)).trans hd2
      have e3 : w.heap.size + 1 < W3.heap.size := (Array.getElem?_eq_some_iff.1 hl3).1
      have := run_endRound (P := P) jump hl3
      refine ⟨_, this, fun X hX => (But.refl X W3).put hX _, ⟨by omega, _, hl3, rfl⟩, ?_, (World.putObj_heap_other (by omega)).trans hd3⟩
      rw [World.putObj_heap_same e3, hrc]
    have bu : ∀ {W3 W4 : World}, But C W2 W3 → (∀ X : Nat → Prop, X (w.heap.size + 1) → But X W3 W4) → But (fun b => C b ∨ b = w.heap.size + 1) W W4 := fun h3 h4 =>
      ((hb2 _ (.inr rfl)).trans (h3.mono (fun _ _ hc => .inl hc))).trans (h4 _ (.inr rfl))
    rintro e a3 W3 hp
    cases e with
    | normal =>
      obtain ⟨h3, hi3⟩ := hp
      obtain ⟨W4, hr, h4, hn4, hl4, hd4⟩ := fin none W3 h3
      exact ⟨_, W4, hr, true, rfl, bu h3 h4, fun _ => ⟨hI _ _ _ hi3 (h4 _ hn4), hl4, hd4⟩, fun e => by cases e⟩
    | ret =>
      obtain ⟨h3, hi3⟩ := hp
      obtain ⟨W4, hr, h4, hn4, hl4, hd4⟩ := fin (some .ret) W3 h3
      exact ⟨_, W4, hr, false, rfl, bu h3 h4, fun e => (by cases e), fun _ => ⟨.ret, hIx _ _ _ _ hi3 (h4 _ hn4), hl4, hd4⟩⟩
    | exit id =>
      obtain ⟨h3, hi3⟩ := hp
      obtain ⟨W4, hr, h4, hn4, hl4, hd4⟩ := fin (some (.exit id)) W3 h3
      exact ⟨_, W4, hr, false, rfl, bu h3 h4, fun e => (by cases e), fun _ => ⟨.exit id, hIx _ _ _ _ hi3 (h4 _ hn4), hl4, hd4⟩⟩
    | goto t =>
      obtain ⟨h3, hi3⟩ := hp
      obtain ⟨W4, hr, h4, hn4, hl4, hd4⟩ := fin (some (.goto t)) W3 h3
      exact ⟨_, W4, hr, false, rfl, bu h3 h4, fun e => (by cases e), fun _ => ⟨.goto t, hIx _ _ _ _ hi3 (h4 _ hn4), hl4, hd4⟩⟩
    | panic ch => exact hp.elim
    | outgrown => exact hp.elim
  · -- behind the iterator
    rintro e W2 ⟨⟨v, rfl⟩, (⟨hi, hl, hd⟩ | ⟨k, hk, c, hi, hl, hd⟩)⟩
    · have hr := run_endLoop (P := P) hl (by rw [hrc]; simp)
      exact ⟨none, _, by rw [hr, hrc], hdone _ (hI _ _ _ hi ((But.refl (NC w.heap.size W2) W2).put ⟨by omega, _, hl, rfl⟩ _)) ((World.putObj_heap_other (by omega)).trans hd)⟩
    · have hr := run_endLoop (P := P) hl (by rw [hrc]; simp)
      exact ⟨some c, _, by rw [hr, hrc], hstop c k _ hk (hIx _ _ _ _ hi ((But.refl (NC w.heap.size W2) W2).put ⟨by omega, _, hl, rfl⟩ _)) ((World.putObj_heap_other (by omega)).trans hd)⟩
end Go.Proofs.Ytgolhjmbloiakaa

/- Lists of lists of numbers that an iterator reads, in blocks from s1 up to s2 alone; what stays of them where other blocks turn. -/
namespace Go.Proofs.Ytgolhjmbloiakaa
open Go.ChangeShapes Go.WideShapes Go.ChangeAt Go.RowKit

theorem But.cell {C : Nat → Prop} {w w' : World} (h : But C w w') {b o : Nat} (hb : b < w.heap.size) (hn : ¬ C b) : w'.cell? ⟨b, o, none⟩ = w.cell? ⟨b, o, none⟩ := World.cell?_of_block (w := w) (h.block b hb hn)
theorem But.free {C : Nat → Prop} {w w' : World} (h : But C w w') {b o : Nat} (hb : b < w.heap.size) (hn : ¬ C b) : w'.frozen? ⟨b, o, none⟩ = w.frozen? ⟨b, o, none⟩ := World.frozen?_of_block (w := w) (h.block b hb hn)
theorem But.drewN {C : Nat → Prop} {a b : World} (h : But C a b) (n : Nat) : But C a (b.drewN n) := h.trans ⟨rfl, rfl, rfl, Nat.le_refl _, fun _ _ _ => rfl⟩
theorem But.keep {C : Nat → Prop} {a b c : World} (h : But C a b) (k : Keep b c) : But C a c := h.trans (But.of_below k)
theorem Own.but {C : Nat → Prop} {w w' : World} {s : Nat} {v : Value} {zs : List Int} (h : Own w s v zs) (k : But C w w') (hc : ∀ b, s ≤ b → (∃ o : Obj, w.heap[b]? = some o ∧ o.isCells = true) → ¬ C b) : Own w' s v zs := by
  have hlt := World.ownsRow.lt h
  obtain ⟨h1, h2⟩ := h
  refine ⟨h1, ?_⟩
  rcases h2 with h2 | ⟨g, cap, cur, rfl, hb, hg, rest⟩
  · exact .inl h2
  · have := (hlt g rfl).2
    exact .inr ⟨g, cap, cur, rfl, hb, (k.block g this (hc g hb ⟨_, hg, rfl⟩)).trans hg, rest⟩
/-- A list that the call owns stays where no cells turn. -/
theorem Own.turn {s t : Nat} {w w' : World} {v : Value} {zs : List Int} (h : Own w s v zs) (k : But (NC t w) w w') : Own w' s v zs :=
  h.but k (fun b _ ⟨o, h1, h2⟩ ⟨_, o', h3, h4⟩ => by rw [h1] at h3; cases h3; rw [h2] at h4; cases h4)
/-- A list of numbers that can be read, in a block from s1 up to s2. -/
def RdR (s1 s2 : Nat) (w : World) (v : Value) (zs : List Int) : Prop :=
  ∃ (a : Option Addr) (cap : Nat), v = .slice a zs.length cap ∧
    (zs = [] ∨ ∃ b off, a = some ⟨b, off, none⟩ ∧ s1 ≤ b ∧ b < s2 ∧ ∀ i, i < zs.length → w.cell? ⟨b, off + i, none⟩ = some (.int .i64 (zs.getD i 0)))
theorem RdR.rd {s1 s2 : Nat} {w : World} {v : Value} {zs : List Int} (h : RdR s1 s2 w v zs) (hs : s2 ≤ w.heap.size) : Rd w v zs := by
  obtain ⟨a, cap, rfl, h⟩ := h
  refine ⟨a, cap, rfl, ?_⟩
  rcases h with h | ⟨b, off, rfl, h1, h2, hc⟩
  · exact .inl h
  · exact .inr ⟨b, off, rfl, by omega, hc⟩
theorem RdR.but {C : Nat → Prop} {s1 s2 : Nat} {w w' : World} {v : Value} {zs : List Int} (h : RdR s1 s2 w v zs) (hs : s2 ≤ w.heap.size) (k : But C w w') (hc : ∀ b, s1 ≤ b → b < s2 → ¬ C b) : RdR s1 s2 w' v zs := by
  obtain ⟨a, cap, rfl, h⟩ := h
  refine ⟨a, cap, rfl, ?_⟩
  rcases h with h | ⟨b, off, rfl, h1, h2, h3⟩
  · exact .inl h
  · exact .inr ⟨b, off, rfl, h1, h2, fun i hi => (k.cell (by omega) (hc b h1 h2)).trans (h3 i hi)⟩
/-- The first n of a list of such lists. -/
def RdP (s1 s2 : Nat) (w : World) (v : Value) (n : Nat) (css : List (List Int)) : Prop :=
  n ≤ css.length ∧ ∃ (a : Option Addr) (cap : Nat), v = .slice a n cap ∧ n ≤ cap ∧
    (n = 0 ∨ ∃ b off, a = some ⟨b, off, none⟩ ∧ s1 ≤ b ∧ b < s2 ∧ ∀ i, i < n → ∃ vi, w.cell? ⟨b, off + i, none⟩ = some vi ∧ RdR s1 s2 w vi (css.getD i []))
theorem RdP.but {C : Nat → Prop} {s1 s2 : Nat} {w w' : World} {v : Value} {n : Nat} {css : List (List Int)} (h : RdP s1 s2 w v n css) (hs : s2 ≤ w.heap.size) (k : But C w w') (hc : ∀ b, s1 ≤ b → b < s2 → ¬ C b) : RdP s1 s2 w' v n css := by
  obtain ⟨h0, a, cap, rfl, hn, h⟩ := h
  refine ⟨h0, a, cap, rfl, hn, ?_⟩
  rcases h with h | ⟨b, off, rfl, h1, h2, h3⟩
  · exact .inl h
  · refine .inr ⟨b, off, rfl, h1, h2, fun i hi => ?_⟩
    obtain ⟨vi, e1, e2⟩ := h3 i hi
    exact ⟨vi, (k.cell (by omega) (hc b h1 h2)).trans e1, e2.but hs k hc⟩
theorem AppL.rdp {w : World} {base : Nat} {x : Value} {vs : List Value} {zss : List (List Int)} (h : AppL w base x vs zss) (hge : ∀ (i : Nat) u, vs[i]? = some u → ∀ k, u.ownBlock = some k → base ≤ k) : RdP base w.heap.size w x zss.length zss := by
  have hl := h.row.1
  have hlt := h.lt
  have h2 := h.row
  refine ⟨Nat.le_refl _, ?_⟩
  rcases h.row.2 with ⟨rfl, hz⟩ | ⟨g, cap, cur, rfl, hb, hg, hcap, _⟩
  · exact ⟨none, 0, by rw [hz], by omega, .inl hz⟩
  · refine ⟨_, _, rfl, hcap, .inr ⟨g, 0, rfl, hb, (hlt g rfl).2, fun i hi => ?_⟩⟩
    have hi' : i < vs.length := by omega
    have hE := h.each i _ (List.getElem?_eq_getElem hi')
    refine ⟨vs[i], ?_, ?_⟩
    · rw [Nat.zero_add, World.ownsRow.cellAt h2 i (by omega), List.getElem?_eq_getElem hi']
    · have hG := hge i _ (List.getElem?_eq_getElem hi')
      obtain ⟨a, c, e, hr⟩ := hE.rd
      refine ⟨a, c, e, ?_⟩
      rcases hr with hr | ⟨b, off, rfl, hb2, hc2⟩
      · exact .inl hr
      · exact .inr ⟨b, off, rfl, hG b (by rw [e]; rfl), hb2, hc2⟩
theorem RdP.rdl {s1 s2 : Nat} {w : World} {v : Value} {css : List (List Int)} (h : RdP s1 s2 w v css.length css) (hs : s2 ≤ w.heap.size) : RdL w v css := by
  obtain ⟨_, a, cap, rfl, _, h⟩ := h
  refine ⟨a, cap, rfl, ?_⟩
  rcases h with h | ⟨b, off, rfl, h1, h2, h3⟩
  · exact .inl (List.eq_nil_of_length_eq_zero h)
  · refine .inr ⟨b, off, rfl, by omega, fun i hi => ?_⟩
    obtain ⟨vi, e1, e2⟩ := h3 i hi
    exact ⟨vi, e1, e2.rd hs⟩
end Go.Proofs.Ytgolhjmbloiakaa

/- Lists of structs in memory, whatever the struct: its cells are a list of plain values. 'RdT': can be read; 'AppT': in memory of one's own, grows by append. -/
namespace Go.Proofs.Ytgolhjmbloiakaa
open Go.ChangeShapes Go.WideShapes Go.ChangeAt Go.RowKit

section
variable {α : Type} {cf : α → List Value} {n : Nat}
/-- A struct at a place. -/
def AtT (cf : α → List Value) (w : World) (b o : Nat) (x : α) : Prop := ∀ m u, (cf x)[m]? = some u → w.cell? ⟨b, o + m, none⟩ = some u
def RdT (cf : α → List Value) (n : Nat) (w : World) (v : Value) (xs : List α) : Prop :=
  ∃ (a : Option Addr) (cap : Nat), v = .slice a xs.length (xs.length + cap) ∧
    (xs = [] ∨ ∃ b off, a = some ⟨b, off, none⟩ ∧ b < w.heap.size ∧ ∀ i x, xs[i]? = some x → AtT cf w b (off + i * n) x)
theorem AtT.same {w w' : World} {b o : Nat} {x : α} (h : AtT cf w b o x) (hh : w'.heap[b]? = w.heap[b]?) : AtT cf w' b o x :=
  fun m u hm => by
    have := h m u hm
    simp only [World.cell?, hh] at this ⊢
    exact this
theorem AtT.keep {w w' : World} {b o : Nat} {x : α} (h : AtT cf w b o x) (hb : b < w.heap.size) (k : Keep w w') : AtT cf w' b o x := h.same (Below.block k b hb)
theorem RdT.keep {w w' : World} {v : Value} {xs : List α} (h : RdT cf n w v xs) (k : Keep w w') : RdT cf n w' v xs := by
  obtain ⟨a, cap, hv, h⟩ := h
  refine ⟨a, cap, hv, ?_⟩
  rcases h with h | ⟨b, off, ha, hb, hc⟩
  · exact .inl h
  · exact .inr ⟨b, off, ha, Nat.lt_of_lt_of_le hb k.size, fun i x hx => (hc i x hx).keep hb k⟩
def AppT (cf : α → List Value) (e : TypeId) (n : Nat) (w : World) (base : Nat) (v : Value) (xs : List α) : Prop := w.ownsRow base e n v xs.length (xs.flatMap cf)
variable {e : TypeId}
theorem AppT.keep {w w' : World} {base : Nat} {v : Value} {xs : List α} (h : AppT cf e n w base v xs) (k : Keep w w') : AppT cf e n w' base v xs :=
  World.ownsRow.kept h k.grownBy (by cases v.ownBlock <;> simp)
theorem AppT.kept {w w' : World} {base : Nat} {v : Value} {xs : List α} {row : Option Nat} (h : AppT cf e n w base v xs) (hg : w.grownBy w' row) (hne : v.ownBlock = none ∨ v.ownBlock ≠ row) : AppT cf e n w' base v xs :=
  World.ownsRow.kept h hg hne
theorem AppT.lt {w : World} {base : Nat} {v : Value} {xs : List α} (h : AppT cf e n w base v xs) : ∀ k, v.ownBlock = some k → base ≤ k ∧ k < w.heap.size := World.ownsRow.lt h
theorem AppT.ge {w : World} {base : Nat} {v : Value} {xs : List α} (h : AppT cf e n w base v xs) : ∀ k, v.ownBlock = some k → base ≤ k := fun k hk => (h.lt k hk).1
theorem appT_hit {w : World} {base : Nat} {v : Value} {xs : List α} {x : α} (h : w.ownsRow base e n v (xs.length + 1) (xs.flatMap cf ++ cf x)) : AppT cf e n w base v (xs ++ [x]) := by
  unfold AppT; rw [List.flatMap_append]; simpa using h
theorem appT_empty (w : World) : AppT cf e n (w.alloc (.cells #[] e)) w.heap.size (.slice (some ⟨w.heap.size, 0, none⟩) 0 0) [] :=
  World.ownsRow_lit w #[] 0 (Nat.le_refl _) (by decide) (by simp)
theorem flat_at (hn : ∀ x, (cf x).length = n) : ∀ (xs : List α) (i : Nat) (x : α) (m : Nat), xs[i]? = some x → m < n → (xs.flatMap cf)[i * n + m]? = (cf x)[m]?
  | [], i, x, m, h, _ => by simp at h
  | y :: r, 0, x, m, h, hm => by
    simp at h
    subst h
    rw [List.flatMap_cons, List.getElem?_append_left (by rw [hn]; omega)]
    simp
  | y :: r, i + 1, x, m, h, hm => by
    have ih := flat_at hn r i x m (by simpa using h) hm
    have e1 : (i + 1) * n + m = n + (i * n + m) := by rw [Nat.add_mul]; omega
    rw [List.flatMap_cons, List.getElem?_append_right (by rw [hn]; omega), hn, e1, Nat.add_sub_cancel_left, ih]
theorem AppT.shape {w : World} {base : Nat} {v : Value} {xs : List α} (h : AppT cf e n w base v xs) : ∃ a c, v = .slice a xs.length c := by
  rcases h.2 with ⟨rfl, hz⟩ | ⟨g, cap, cur, rfl, _⟩
  · exact ⟨none, 0, by rw [hz]⟩
  · exact ⟨_, _, rfl⟩
theorem AppT.rd (hn : ∀ x, (cf x).length = n) {w : World} {base : Nat} {v : Value} {xs : List α} (h : AppT cf e n w base v xs) : RdT cf n w v xs := by
  have h2 := h
  have hlt := h.lt
  rcases h.2 with ⟨rfl, hz⟩ | ⟨g, cap, cur, rfl, hb, hg, hcap, _, hs, _⟩
  · have : xs = [] := List.eq_nil_of_length_eq_zero hz
    subst this
    exact ⟨none, 0, rfl, .inl rfl⟩
  · obtain ⟨x, rfl⟩ : ∃ x, cap = xs.length + x := ⟨cap - xs.length, by omega⟩
    refine ⟨_, x, rfl, .inr ⟨g, 0, rfl, (hlt g rfl).2, fun i y hy m u hm => ?_⟩⟩
    have hi : i < xs.length := (List.getElem?_eq_some_iff.1 hy).1
    have hmn : m < n := by have := (List.getElem?_eq_some_iff.1 hm).1; rw [hn] at this; exact this
    have hb2 : i * n + m < xs.length * n := by
      have h3 : (i + 1) * n ≤ xs.length * n := Nat.mul_le_mul_right n hi
      rw [Nat.add_mul] at h3
      omega
    rw [Nat.zero_add, World.ownsRow.cellAt h2 (i * n + m) hb2, flat_at hn xs i y m hy hmn]
    exact hm
end
end Go.Proofs.Ytgolhjmbloiakaa

/- Lists of events in memory. -/
namespace Go.Proofs.Ytgolhjmbloiakaa
open Go.ChangeShapes Go.WideShapes Go.ChangeAt Go.RowKit

def cE (e : Ev) : List Value := [.int .i64 e.1, .int .i64 e.2.1, .bool e.2.2.1, .int .i64 e.2.2.2.1, .int .i64 e.2.2.2.2.1, .int .i64 e.2.2.2.2.2]
theorem cE_len (e : Ev) : (cE e).length = 6 := rfl
theorem Try.infoE : (Try.prog.info? 85).map (fun i => (i.zero, i.size, i.bytes)) = some (some (.agg #[.int .i64 0, .int .i64 0, .bool false, .int .i64 0, .int .i64 0, .int .i64 0]), 6, 48) := by kernel_rfl
abbrev RdE (w : World) (v : Value) (es : List Ev) : Prop := RdT cE 6 w v es
abbrev AppE (w : World) (base : Nat) (v : Value) (es : List Ev) : Prop := AppT cE 85 6 w base v es
theorem atE {w : World} {b o : Nat} {x0 x1 : Int} {r : Bool} {x3 x4 x5 : Int} (h : AtT cE w b o (x0, x1, r, x3, x4, x5)) :
    w.cell? ⟨b, o, none⟩ = some (.int .i64 x0) ∧ w.cell? ⟨b, o + 1, none⟩ = some (.int .i64 x1) ∧ w.cell? ⟨b, o + 2, none⟩ = some (.bool r) ∧ w.cell? ⟨b, o + 3, none⟩ = some (.int .i64 x3) ∧ w.cell? ⟨b, o + 4, none⟩ = some (.int .i64 x4) ∧ w.cell? ⟨b, o + 5, none⟩ = some (.int .i64 x5) :=
  ⟨h 0 _ rfl, h 1 _ rfl, h 2 _ rfl, h 3 _ rfl, h 4 _ rfl, h 5 _ rfl⟩
theorem AppE.rd {w : World} {base : Nat} {v : Value} {es : List Ev} (h : AppE w base v es) : RdE w v es := AppT.rd cE_len h
theorem evs_get {es : List Ev} {i : Nat} (h : i < es.length) : es[i]? = some (es.getD i zE) := by
  rw [List.getD_eq_getElem?_getD, List.getElem?_eq_getElem h]; rfl
end Go.Proofs.Ytgolhjmbloiakaa

/- Plain mathematics of the numbers that the program picks among twelve: those that there are and that pass a test. -/
namespace Go.Proofs.Ytgolhjmbloiakaa

def tstE (f : Ev → Bool) (es : List Ev) (k : Nat) : Bool := decide (k < es.length) && f (es.getD k zE)
def chK (f : Ev → Bool) (es : List Ev) : Nat → List Int
  | 0 => []
  | k + 1 => if tstE f es k = true then chK f es k ++ [(k : Int)] else chK f es k
theorem chK_min (f : Ev → Bool) (es : List Ev) : ∀ k, chK f es k = idxK f es (min k es.length)
  | 0 => by simp [chK, idxK]
  | k + 1 => by
    rw [chK, chK_min f es k]
    by_cases h : k < es.length
    · rw [show min (k + 1) es.length = k + 1 by omega, show min k es.length = k by omega, idxK]
      simp [tstE, h]
    · rw [show min (k + 1) es.length = min k es.length by omega]
      simp [tstE, h]
theorem chK_all (f : Ev → Bool) (es : List Ev) (k : Nat) (h : es.length ≤ k) : chK f es k = idxK f es es.length := by
  rw [chK_min, Nat.min_eq_right h]
theorem chK_len (f : Ev → Bool) (es : List Ev) (k : Nat) : (chK f es k).length ≤ k := by
  rw [chK_min]
  have := idxK_len f es (min k es.length)
  omega
end Go.Proofs.Ytgolhjmbloiakaa

/- Contract of the program's ReadsOf: a new list of numbers. (Written by mknum.py.) -/
namespace Go.Proofs.Ytgolhjmbloiakaa
open Go.ChangeShapes Go.WideShapes Go.ChangeAt Go.RowKit

theorem rClo_any (x0 x1 : Int) (x2 : Bool) (x3 x4 x5 : Int) (w : World) :
    Calls Try.prog 109 #[.agg #[.int .i64 x0, .int .i64 x1, .bool x2, .int .i64 x3, .int .i64 x4, .int .i64 x5]] w fun e w' => e = .returned (.bool (rdE (x0, x1, x2, x3, x4, x5))) ∧ Keep w w' := by
  go_enter Try.func109, Try.ntmps109
  go_wp2
  go_ret
  exact ⟨rfl, (Keep.refl w).alloc _⟩
set_option maxRecDepth 100000 in
set_option maxHeartbeats 2000000 in
theorem rNum_any (w : World) (v : Value) (es : List Ev) (h : RdE w v es) (k : Nat) (A B : Nat) (hA : w.cell? ⟨A, 0, none⟩ = some v) (hAl : A < w.heap.size) (hB : w.cell? ⟨B, 0, none⟩ = some (.func (Fn.func 109) #[] #[])) (hBl : B < w.heap.size) :
    Calls Try.prog 125 #[.int .i64 k, .pointer (some ⟨A, 0, none⟩), .pointer (some ⟨B, 0, none⟩)] w fun e w' => e = .returned (.bool (tstE rdE es k)) ∧ Keep w w' := by
  obtain ⟨a, c, rfl, h⟩ := h
  by_cases hlt : k < es.length
  · rcases h with h | ⟨b, o, rfl, hb, hc⟩
    · exfalso; rw [h] at hlt; simp at hlt
    have AT := hc k _ (evs_get hlt)
    have HE : Hid (tstE rdE es k = rdE (es.getD k zE)) := Lib.hid (by unfold tstE; simp [hlt])
    clear hc
    obtain ⟨e, he⟩ : ∃ e, e = es.getD k zE := ⟨_, rfl⟩
    rw [← he] at AT HE
    clear he
    obtain ⟨x0, x1, x2, x3, x4, x5⟩ := e
    obtain ⟨d0, d1, d2, d3, d4, d5⟩ := atE AT
    clear AT
    have i1 : (0 : Int) ≤ (k : Int) := Int.natCast_nonneg _
    have i2 : (k : Int) < (es.length : Int) := by omega
    have z1 : b < w.drew.heap.size := hb
    have z2 : A < w.drew.heap.size := hAl
    have z3 : B < w.drew.heap.size := hBl
    go_enter Try.func125, Try.ntmps125
    go_wp2_with fail
    go_region_held3 (fun w' => w'.cell? ⟨A, 0, none⟩ = some (.slice (some ⟨b, o, none⟩) es.length (es.length + c)) ∧ w'.cell? ⟨B, 0, none⟩ = some (.func (Fn.func 109) #[] #[]) ∧ w'.cell? ⟨b, o + k * 6, none⟩ = some (.int .i64 x0) ∧ w'.cell? ⟨b, o + k * 6 + 1, none⟩ = some (.int .i64 x1) ∧ w'.cell? ⟨b, o + k * 6 + 2, none⟩ = some (.bool x2) ∧ w'.cell? ⟨b, o + k * 6 + 3, none⟩ = some (.int .i64 x3) ∧ w'.cell? ⟨b, o + k * 6 + 4, none⟩ = some (.int .i64 x4) ∧ w'.cell? ⟨b, o + k * 6 + 5, none⟩ = some (.int .i64 x5))
      (first | go_keep | (go_split_ands; refine ⟨?_, ?_, ?_, ?_, ?_, ?_, ?_, ?_⟩ <;> (rw [kk.cell (by assumption)]; assumption)))
      ((go_at_call 109; refine (rClo_any x0 x1 x2 x3 x4 x5 _).mono ?_; rintro e wz ⟨rfl, kk⟩))
    all_goals
      go_wp2
      go_ret
      exact ⟨by rw [HE.out]; rfl, ((Keep.refl w).drew).trans kk⟩
  · have HE : Hid (tstE rdE es k = false) := Lib.hid (by unfold tstE; simp [hlt])
    have i2 : ¬ ((k : Int) < (es.length : Int)) := by omega
    go_enter Try.func125, Try.ntmps125
    go_wp2_with fail
    go_quiet (fail)
    go_wp2
    go_ret
    exact ⟨by rw [HE.out]; rfl, (Keep.refl w).drewN _⟩

set_option maxRecDepth 100000 in
set_option maxHeartbeats 1000000 in
theorem rChosen_any (w : World) (v : Value) (es : List Ev) (h : RdE w v es) (hx : es.length ≤ 12) (A B : Nat) (hA : w.cell? ⟨A, 0, none⟩ = some v) (hAl : A < w.heap.size) (hB : w.cell? ⟨B, 0, none⟩ = some (.func (Fn.func 109) #[] #[])) (hBl : B < w.heap.size) :
    Calls Try.prog 124 #[.func (Fn.func 125) #[] #[.pointer (some ⟨A, 0, none⟩), .pointer (some ⟨B, 0, none⟩)]] w fun e w' => ∃ v', e = .returned v' ∧ Own w' w.heap.size v' (idxK rdE es es.length) ∧ Keep w w' := by
  have hown0 : Own (w.alloc (.cells #[] 2)) w.heap.size (.slice (some ⟨w.heap.size, 0, none⟩) 0 0) [] := World.ownsRow_lit w #[] 0 (Nat.le_refl _) (by decide) rfl
  obtain ⟨i0, hi, hz0, hz1, hz2⟩ := info_parts Try.infoI
  go_enter Try.func124, Try.ntmps124
  go_wp2
  go_loopw [3, 6] (fun v i wr => ∃ k : Nat, k ≤ 12 ∧ i = .int .i64 k ∧ Own wr w.heap.size v (chK rdE es k) ∧ Keep w wr) (fun _ i _ => 12 - (intOf i).toNat)
  case atStart => exact ⟨0, Nat.zero_le _, rfl, hown0, (Keep.refl _).alloc _⟩
  case round =>
    obtain ⟨k, hk, rfl, ho, hK⟩ := hrel
    clear hown0
    by_cases hlt : k < 12
    · have hml := chK_len rdE es k
      have hsz := hK.size
      have C := rNum_any wr v es (h.keep hK) k A B (by rw [hK.cell hAl]; exact hA) (Nat.lt_of_lt_of_le hAl hK.size) (by rw [hK.cell hBl]; exact hB) (Nat.lt_of_lt_of_le hBl hK.size)
      clear h hA hB
      cases hb : tstE rdE es k
      · have HM : Hid (chK rdE es (k + 1) = chK rdE es k) := Lib.hid (by rw [chK, hb]; rfl)
        rw [hb] at C
        go_wp2_with fail
        refine C.mono ?_
        rintro e w1 ⟨rfl, k1⟩
        go_wp2
        go_roundw
        case rel => exact ⟨k + 1, by omega, by go_num, by rw [HM.out]; exact ho.keep k1, hK.trans k1⟩
        case measure => simp [intOf]; omega
      · have HM : Hid (chK rdE es (k + 1) = chK rdE es k ++ [(k : Int)]) := Lib.hid (by rw [chK, hb]; rfl)
        rw [hb] at C
        go_wp2_with fail
        refine C.mono ?_
        rintro e w1 ⟨rfl, k1⟩
        have ho1 := ho.keep k1
        have hK1 := hK.trans k1
        have hsz1 := hK1.size
        clear ho hK C
        go_wp2_with (at_builtin; refine wpList_append_own _ rfl _ _ 27 rfl w.heap.size 2 i0 (.int .i64 0) 1 8 Try.underlying27 hi hz0 hz1 hz2 rfl (by decide) _ _ _ rfl (World.ownsRow.alloc ho1 _) ⟨_, 0, none⟩ 1 1 [.int .i64 k] rfl rfl ?c1 ?c2 ?c3 ?c4 ?c5 ?_)
        case c1 =>
          intro j u hj
          match j, hj with
          | 0, hj => simp at hj; subst hj; simp [Addr.add]
        case c2 => intro u hu; simp at hu; subst hu; rfl
        case c3 => unfold maxLen; omega
        case c4 => omega
        case c5 => simp; omega
        intro v' w2 hown' hgrow _
        have hK2 : Keep w w2 := (hK1.alloc _).grown hgrow ho1.ge
        clear hgrow
        go_wp2
        go_roundw
        case rel => exact ⟨k + 1, by omega, by go_num, by rw [HM.out]; exact own_hit hown', hK2⟩
        case measure => simp [intOf]; omega
    · obtain rfl : k = 12 := by omega
      rw [chK_all rdE es 12 hx] at ho
      go_wp2
      go_ret
      exact ⟨_, rfl, ho, hK⟩

set_option maxRecDepth 100000 in
set_option maxHeartbeats 1000000 in
theorem rNumbers_any (w : World) (v : Value) (es : List Ev) (h : RdE w v es) (hx : es.length ≤ 1048576) :
    Calls Try.prog 108 #[v, (.func (Fn.func 109) #[] #[])] w fun e w' => ∃ v', e = .returned v' ∧ Own w' w.heap.size v' (idxB rdE es) ∧ Keep w w' := by
  by_cases hl : 12 < es.length
  · have HE : Hid (idxB rdE es = []) := Lib.hid (by unfold idxB; rw [if_neg (by omega)])
    have l1 : (12 : Int) < (es.length : Int) := by omega
    have O : ∀ o1 o2 : Obj, Own (((w.alloc o1).alloc o2).alloc (.cells #[] 2)) w.heap.size (.slice (some ⟨w.heap.size + 1 + 1, 0, none⟩) 0 0) [] := fun o1 o2 => by
      have q : Own (((w.alloc o1).alloc o2).alloc (.cells #[] 2)) ((w.alloc o1).alloc o2).heap.size (.slice (some ⟨((w.alloc o1).alloc o2).heap.size, 0, none⟩) 0 0) [] := World.ownsRow_lit _ #[] 0 (Nat.le_refl _) (by decide) rfl
      have z : ((w.alloc o1).alloc o2).heap.size = w.heap.size + 1 + 1 := by rw [heap_size, heap_size]
      rw [z] at q
      exact q.base_le (by omega)
    obtain ⟨a, c, rfl, h⟩ := h
    go_enter Try.func108, Try.ntmps108
    go_wp2
    go_ret
    refine ⟨_, rfl, ?_, (((Keep.refl w).alloc _).alloc _).alloc _⟩
    rw [HE.out]
    exact O _ _
  · have l1 : es.length ≤ 12 := by omega
    have HE : Hid (idxB rdE es = idxK rdE es es.length) := Lib.hid (by unfold idxB; rw [if_pos l1])
    clear hl
    have C := fun (o1 o2 : Obj) => rChosen_any ((w.alloc o1).alloc o2) v es (h.keep (((Keep.refl w).alloc _).alloc _)) l1 w.heap.size (w.heap.size + 1)
    obtain ⟨a, c, rfl, h⟩ := h
    have l2 : (es.length : Int) ≤ 12 := by omega
    go_enter Try.func108, Try.ntmps108
    go_wp2_with fail
    refine (C _ _ ?g1 ?g2 ?g3 ?g4).mono ?_
    case g1 => simp
    case g2 => simp only [heap_size]; omega
    case g3 => simp
    case g4 => simp only [heap_size]; omega
    rintro e w1 ⟨v1, rfl, ho, hK⟩
    go_wp2
    go_ret
    refine ⟨_, rfl, ?_, (((Keep.refl w).alloc _).alloc _).trans hK⟩
    rw [HE.out]
    exact ho.base_le (by simp only [heap_size]; omega)

theorem implReadsOf_any (w : World) (v : Value) (es : List Ev) (h : RdE w v es) (hx : es.length ≤ 1048576) :
    Calls Try.prog 68 #[v] w fun e w' => ∃ v', e = .returned v' ∧ Own w' w.heap.size v' (idxB rdE es) ∧ Keep w w' := by
  go_enter Try.func68, Try.ntmps68
  go_wp2_with fail
  refine (rNumbers_any _ _ _ h hx).mono ?_
  rintro e w1 ⟨v1, rfl, ho, hK⟩
  go_wp2
  go_ret
  exact ⟨_, rfl, ho, hK⟩
end Go.Proofs.Ytgolhjmbloiakaa

/- Contract of the program's WritesTo: a new list of numbers. (Written by mknum.py.) -/
namespace Go.Proofs.Ytgolhjmbloiakaa
open Go.ChangeShapes Go.WideShapes Go.ChangeAt Go.RowKit

set_option maxHeartbeats 1000000 in
theorem wClo_any (x0 x1 : Int) (x2 : Bool) (x3 x4 x5 p : Int) (P : Nat) (w : World) (hP : w.cell? ⟨P, 0, none⟩ = some (.int .i64 p)) (hPl : P < w.heap.size) :
    Calls Try.prog 110 #[.agg #[.int .i64 x0, .int .i64 x1, .bool x2, .int .i64 x3, .int .i64 x4, .int .i64 x5], .pointer (some ⟨P, 0, none⟩)] w fun e w' => e = .returned (.bool (toE p (x0, x1, x2, x3, x4, x5))) ∧ Keep w w' := by
  cases x2
  · by_cases hp : x3 = p
    · subst hp
      go_enter Try.func110, Try.ntmps110
      go_wp2
      go_ret
      exact ⟨ret_bool (by simp [toE]), (Keep.refl w).alloc _⟩
    · have he : (x3 == p) = false := by simpa using hp
      go_enter Try.func110, Try.ntmps110
      go_wp2
      go_ret
      exact ⟨ret_bool (by simp [toE, hp]), (Keep.refl w).alloc _⟩
  · go_enter Try.func110, Try.ntmps110
    go_wp2
    go_ret
    exact ⟨ret_bool (by simp [toE]), (Keep.refl w).alloc _⟩
set_option maxRecDepth 100000 in
set_option maxHeartbeats 2000000 in
theorem wNum_any (w : World) (v : Value) (es : List Ev) (h : RdE w v es) (k : Nat) (A B : Nat) (p : Int) (P : Nat) (hP : w.cell? ⟨P, 0, none⟩ = some (.int .i64 p)) (hPl : P < w.heap.size) (hA : w.cell? ⟨A, 0, none⟩ = some v) (hAl : A < w.heap.size) (hB : w.cell? ⟨B, 0, none⟩ = some (.func (Fn.func 110) #[] #[.pointer (some ⟨P, 0, none⟩)])) (hBl : B < w.heap.size) :
    Calls Try.prog 125 #[.int .i64 k, .pointer (some ⟨A, 0, none⟩), .pointer (some ⟨B, 0, none⟩)] w fun e w' => e = .returned (.bool (tstE (toE p) es k)) ∧ Keep w w' := by
  obtain ⟨a, c, rfl, h⟩ := h
  by_cases hlt : k < es.length
  · rcases h with h | ⟨b, o, rfl, hb, hc⟩
    · exfalso; rw [h] at hlt; simp at hlt
    have AT := hc k _ (evs_get hlt)
    have HE : Hid (tstE (toE p) es k = (toE p) (es.getD k zE)) := Lib.hid (by unfold tstE; simp [hlt])
    clear hc
    obtain ⟨e, he⟩ : ∃ e, e = es.getD k zE := ⟨_, rfl⟩
    rw [← he] at AT HE
    clear he
    obtain ⟨x0, x1, x2, x3, x4, x5⟩ := e
    obtain ⟨d0, d1, d2, d3, d4, d5⟩ := atE AT
    clear AT
    have i1 : (0 : Int) ≤ (k : Int) := Int.natCast_nonneg _
    have i2 : (k : Int) < (es.length : Int) := by omega
    have z1 : b < w.drew.heap.size := hb
    have z2 : A < w.drew.heap.size := hAl
    have z3 : B < w.drew.heap.size := hBl
    have z4 : P < w.drew.heap.size := hPl
    go_enter Try.func125, Try.ntmps125
    go_wp2_with fail
    go_region_held3 (fun w' => w'.cell? ⟨A, 0, none⟩ = some (.slice (some ⟨b, o, none⟩) es.length (es.length + c)) ∧ w'.cell? ⟨B, 0, none⟩ = some (.func (Fn.func 110) #[] #[.pointer (some ⟨P, 0, none⟩)]) ∧ w'.cell? ⟨P, 0, none⟩ = some (.int .i64 p) ∧ w'.cell? ⟨b, o + k * 6, none⟩ = some (.int .i64 x0) ∧ w'.cell? ⟨b, o + k * 6 + 1, none⟩ = some (.int .i64 x1) ∧ w'.cell? ⟨b, o + k * 6 + 2, none⟩ = some (.bool x2) ∧ w'.cell? ⟨b, o + k * 6 + 3, none⟩ = some (.int .i64 x3) ∧ w'.cell? ⟨b, o + k * 6 + 4, none⟩ = some (.int .i64 x4) ∧ w'.cell? ⟨b, o + k * 6 + 5, none⟩ = some (.int .i64 x5))
      (first | go_keep | (go_split_ands; refine ⟨?_, ?_, ?_, ?_, ?_, ?_, ?_, ?_, ?_⟩ <;> (rw [kk.cell (by assumption)]; assumption)))
      ((go_at_call 110; refine (wClo_any x0 x1 x2 x3 x4 x5 p P _ (by assumption) (by assumption)).mono ?_; rintro e wz ⟨rfl, kk⟩))
    all_goals
      go_wp2
      go_ret
      exact ⟨by rw [HE.out]; rfl, ((Keep.refl w).drew).trans kk⟩
  · have HE : Hid (tstE (toE p) es k = false) := Lib.hid (by unfold tstE; simp [hlt])
    have i2 : ¬ ((k : Int) < (es.length : Int)) := by omega
    go_enter Try.func125, Try.ntmps125
    go_wp2_with fail
    go_quiet (fail)
    go_wp2
    go_ret
    exact ⟨by rw [HE.out]; rfl, (Keep.refl w).drewN _⟩

set_option maxRecDepth 100000 in
set_option maxHeartbeats 1000000 in
theorem wChosen_any (w : World) (v : Value) (es : List Ev) (h : RdE w v es) (hx : es.length ≤ 12) (A B : Nat) (p : Int) (P : Nat) (hP : w.cell? ⟨P, 0, none⟩ = some (.int .i64 p)) (hPl : P < w.heap.size) (hA : w.cell? ⟨A, 0, none⟩ = some v) (hAl : A < w.heap.size) (hB : w.cell? ⟨B, 0, none⟩ = some (.func (Fn.func 110) #[] #[.pointer (some ⟨P, 0, none⟩)])) (hBl : B < w.heap.size) :
    Calls Try.prog 124 #[.func (Fn.func 125) #[] #[.pointer (some ⟨A, 0, none⟩), .pointer (some ⟨B, 0, none⟩)]] w fun e w' => ∃ v', e = .returned v' ∧ Own w' w.heap.size v' (idxK (toE p) es es.length) ∧ Keep w w' := by
  have hown0 : Own (w.alloc (.cells #[] 2)) w.heap.size (.slice (some ⟨w.heap.size, 0, none⟩) 0 0) [] := World.ownsRow_lit w #[] 0 (Nat.le_refl _) (by decide) rfl
  obtain ⟨i0, hi, hz0, hz1, hz2⟩ := info_parts Try.infoI
  go_enter Try.func124, Try.ntmps124
  go_wp2
  go_loopw [3, 6] (fun v i wr => ∃ k : Nat, k ≤ 12 ∧ i = .int .i64 k ∧ Own wr w.heap.size v (chK (toE p) es k) ∧ Keep w wr) (fun _ i _ => 12 - (intOf i).toNat)
  case atStart => exact ⟨0, Nat.zero_le _, rfl, hown0, (Keep.refl _).alloc _⟩
  case round =>
    obtain ⟨k, hk, rfl, ho, hK⟩ := hrel
    clear hown0
    by_cases hlt : k < 12
    · have hml := chK_len (toE p) es k
      have hsz := hK.size
      have C := wNum_any wr v es (h.keep hK) k A B p P (by rw [hK.cell hPl]; exact hP) (Nat.lt_of_lt_of_le hPl hK.size) (by rw [hK.cell hAl]; exact hA) (Nat.lt_of_lt_of_le hAl hK.size) (by rw [hK.cell hBl]; exact hB) (Nat.lt_of_lt_of_le hBl hK.size)
      clear h hA hB
      cases hb : tstE (toE p) es k
      · have HM : Hid (chK (toE p) es (k + 1) = chK (toE p) es k) := Lib.hid (by rw [chK, hb]; rfl)
        rw [hb] at C
        go_wp2_with fail
        refine C.mono ?_
        rintro e w1 ⟨rfl, k1⟩
        go_wp2
        go_roundw
        case rel => exact ⟨k + 1, by omega, by go_num, by rw [HM.out]; exact ho.keep k1, hK.trans k1⟩
        case measure => simp [intOf]; omega
      · have HM : Hid (chK (toE p) es (k + 1) = chK (toE p) es k ++ [(k : Int)]) := Lib.hid (by rw [chK, hb]; rfl)
        rw [hb] at C
        go_wp2_with fail
        refine C.mono ?_
        rintro e w1 ⟨rfl, k1⟩
        have ho1 := ho.keep k1
        have hK1 := hK.trans k1
        have hsz1 := hK1.size
        clear ho hK C
        go_wp2_with (at_builtin; refine wpList_append_own _ rfl _ _ 27 rfl w.heap.size 2 i0 (.int .i64 0) 1 8 Try.underlying27 hi hz0 hz1 hz2 rfl (by decide) _ _ _ rfl (World.ownsRow.alloc ho1 _) ⟨_, 0, none⟩ 1 1 [.int .i64 k] rfl rfl ?c1 ?c2 ?c3 ?c4 ?c5 ?_)
        case c1 =>
          intro j u hj
          match j, hj with
          | 0, hj => simp at hj; subst hj; simp [Addr.add]
        case c2 => intro u hu; simp at hu; subst hu; rfl
        case c3 => unfold maxLen; omega
        case c4 => omega
        case c5 => simp; omega
        intro v' w2 hown' hgrow _
        have hK2 : Keep w w2 := (hK1.alloc _).grown hgrow ho1.ge
        clear hgrow
        go_wp2
        go_roundw
        case rel => exact ⟨k + 1, by omega, by go_num, by rw [HM.out]; exact own_hit hown', hK2⟩
        case measure => simp [intOf]; omega
    · obtain rfl : k = 12 := by omega
      rw [chK_all (toE p) es 12 hx] at ho
      go_wp2
      go_ret
      exact ⟨_, rfl, ho, hK⟩

set_option maxRecDepth 100000 in
set_option maxHeartbeats 1000000 in
theorem wNumbers_any (w : World) (v : Value) (es : List Ev) (h : RdE w v es) (hx : es.length ≤ 1048576) (p : Int) (P : Nat) (hP : w.cell? ⟨P, 0, none⟩ = some (.int .i64 p)) (hPl : P < w.heap.size) :
    Calls Try.prog 108 #[v, (.func (Fn.func 110) #[] #[.pointer (some ⟨P, 0, none⟩)])] w fun e w' => ∃ v', e = .returned v' ∧ Own w' w.heap.size v' (idxB (toE p) es) ∧ Keep w w' := by
  by_cases hl : 12 < es.length
  · have HE : Hid (idxB (toE p) es = []) := Lib.hid (by unfold idxB; rw [if_neg (by omega)])
    have l1 : (12 : Int) < (es.length : Int) := by omega
    have O : ∀ o1 o2 : Obj, Own (((w.alloc o1).alloc o2).alloc (.cells #[] 2)) w.heap.size (.slice (some ⟨w.heap.size + 1 + 1, 0, none⟩) 0 0) [] := fun o1 o2 => by
      have q : Own (((w.alloc o1).alloc o2).alloc (.cells #[] 2)) ((w.alloc o1).alloc o2).heap.size (.slice (some ⟨((w.alloc o1).alloc o2).heap.size, 0, none⟩) 0 0) [] := World.ownsRow_lit _ #[] 0 (Nat.le_refl _) (by decide) rfl
      have z : ((w.alloc o1).alloc o2).heap.size = w.heap.size + 1 + 1 := by rw [heap_size, heap_size]
      rw [z] at q
      exact q.base_le (by omega)
    obtain ⟨a, c, rfl, h⟩ := h
    go_enter Try.func108, Try.ntmps108
    go_wp2
    go_ret
    refine ⟨_, rfl, ?_, (((Keep.refl w).alloc _).alloc _).alloc _⟩
    rw [HE.out]
    exact O _ _
  · have l1 : es.length ≤ 12 := by omega
    have HE : Hid (idxB (toE p) es = idxK (toE p) es es.length) := Lib.hid (by unfold idxB; rw [if_pos l1])
    clear hl
    have C := fun (o1 o2 : Obj) => wChosen_any ((w.alloc o1).alloc o2) v es (h.keep (((Keep.refl w).alloc _).alloc _)) l1 w.heap.size (w.heap.size + 1) p P (by rw [Keep.cell (((Keep.refl w).alloc _).alloc _) hPl]; exact hP) (Nat.lt_of_lt_of_le hPl (Keep.size (((Keep.refl w).alloc _).alloc _)))
    obtain ⟨a, c, rfl, h⟩ := h
    have l2 : (es.length : Int) ≤ 12 := by omega
    go_enter Try.func108, Try.ntmps108
    go_wp2_with fail
    refine (C _ _ ?g1 ?g2 ?g3 ?g4).mono ?_
    case g1 => simp
    case g2 => simp only [heap_size]; omega
    case g3 => simp
    case g4 => simp only [heap_size]; omega
    rintro e w1 ⟨v1, rfl, ho, hK⟩
    go_wp2
    go_ret
    refine ⟨_, rfl, ?_, (((Keep.refl w).alloc _).alloc _).trans hK⟩
    rw [HE.out]
    exact ho.base_le (by simp only [heap_size]; omega)

theorem implWritesTo_any (w : World) (v : Value) (es : List Ev) (h : RdE w v es) (hx : es.length ≤ 1048576) (p : Int) :
    Calls Try.prog 69 #[v, .int .i64 p] w fun e w' => ∃ v', e = .returned v' ∧ Own w' w.heap.size v' (idxB (toE p) es) ∧ Keep w w' := by
  have C := fun (o1 : Obj) => wNumbers_any (w.alloc o1) v es (h.keep ((Keep.refl w).alloc _)) hx p w.heap.size
  go_enter Try.func69, Try.ntmps69
  go_wp2_with fail
  refine (C _ ?g1 ?g2).mono ?_
  case g1 => simp
  case g2 => simp only [heap_size]; omega
  rintro e w1 ⟨v1, rfl, ho, hK⟩
  go_wp2
  go_ret
  exact ⟨_, rfl, ho.base_le (by simp only [heap_size]; omega), ((Keep.refl w).alloc _).trans hK⟩
end Go.Proofs.Ytgolhjmbloiakaa

/- Contract of the program's choicesOf. -/
namespace Go.Proofs.Ytgolhjmbloiakaa
open Go.ChangeShapes Go.WideShapes Go.ChangeAt Go.RowKit

theorem cell_list {w : World} {b : Nat} {v : Value} (h : w.cell? ⟨b, 0, none⟩ = some v) : ∀ j u, ([v] : List Value)[j]? = some u → w.cell? ((⟨b, 0, none⟩ : Addr).add j) = some u := by
  intro j u hj
  match j, hj with
  | 0, hj =>
    simp at hj
    subst hj
    exact h
  | k + 1, hj => simp at hj
/-- All these lie from block s on. -/
def Ge (s : Nat) (vs : List Value) : Prop := ∀ (i : Nat) u, vs[i]? = some u → ∀ k, u.ownBlock = some k → s ≤ k
theorem Ge.push {s : Nat} {vs : List Value} {u : Value} (h : Ge s vs) (hu : ∀ k, u.ownBlock = some k → s ≤ k) : Ge s (vs ++ [u]) := by
  intro i y hy
  by_cases hi : i < vs.length
  · rw [List.getElem?_append_left hi] at hy
    exact h i y hy
  · rw [List.getElem?_append_right (by omega)] at hy
    have : i - vs.length = 0 := by
      have := (List.getElem?_eq_some_iff.1 hy).1
      simp at this
      omega
    rw [this] at hy
    simp only [List.getElem?_cons_zero, Option.some.injEq] at hy
    subst hy
    exact hu
set_option maxRecDepth 100000 in
set_option maxHeartbeats 2000000 in
theorem choicesOf_any (w : World) (v : Value) (es : List Ev) (h : RdE w v es) (hx : es.length ≤ 12) :
    Calls Try.prog 80 #[v] w fun e w' => ∃ v', e = .returned v' ∧ RdP w.heap.size w'.heap.size w' v' (chcL es).length (chcL es) ∧ Keep w w' := by
  obtain ⟨i0, hi, hz0, hz1, hz2⟩ := info_parts Try.infoL
  have A0 := appL_empty w
  have rl : (idxB rdE es).length ≤ 12 := by
    unfold idxB
    rw [if_pos hx]
    have := idxK_len rdE es es.length
    omega
  have rin : ∀ i, i < (idxB rdE es).length → 0 ≤ (idxB rdE es).getD i 0 ∧ (idxB rdE es).getD i 0 < (es.length : Int) := by
    intro i hi
    have hm : (idxB rdE es).getD i 0 ∈ idxB rdE es := by
      rw [List.getD_eq_getElem?_getD, List.getElem?_eq_getElem hi]
      exact List.getElem_mem hi
    refine idxK_lt rdE es _ _ ?_
    unfold idxB at hm ⊢
    rw [if_pos hx] at hm ⊢
    exact hm
  have HL : Hid (chcL es = chcK es (idxB rdE es) (idxB rdE es).length) := Lib.hid rfl
  go_enter Try.func80, Try.ntmps80
  go_wp2_with fail
  refine (implReadsOf_any _ _ _ (h.keep ((Keep.refl w).alloc _)) (by omega)).mono ?_
  rintro e w1 ⟨vr, rfl, or1, k1⟩
  generalize idxB rdE es = rs at rl rin HL or1
  have A1 := A0.keep k1
  have K1 : Keep w w1 := ((Keep.refl w).alloc _).trans k1
  have R1 : Beside w1 (.slice (some ⟨w.heap.size, 0, none⟩) 0 0) vr rs := or1.beside (fun k hk => by rw [heap_size]; simp [Value.ownBlock] at hk; omega)
  have RIN := Lib.hid rin
  obtain ⟨ar, cr, rfl, -⟩ := R1.rd
  clear A0 k1 or1 rin
  go_wp2
  go_loopw [3, 10] (fun x i wr => ∃ k : Nat, ∃ vs : List Value, k ≤ rs.length ∧ i = .int .i64 k ∧ Ge w.heap.size vs ∧ AppL wr w.heap.size x vs (chcK es rs k) ∧ Beside wr x (.slice ar rs.length cr) rs ∧ Keep w wr) (fun _ i _ => rs.length - (intOf i).toNat)
  case atStart => exact ⟨0, [], Nat.zero_le _, rfl, fun i u h => by simp at h, A1, R1, K1⟩
  case round =>
    obtain ⟨k, vs, hk, rfl, hG, hA, hB, hK⟩ := hrel
    clear A1 R1 K1
    by_cases hlt : k < rs.length
    · have hr := RIN.out k hlt
      obtain ⟨r, hr'⟩ := Int.eq_ofNat_of_zero_le hr.1
      have hre : r < es.length := by omega
      have hRd := hB.rd
      obtain ⟨a', c', he', hRd⟩ := hRd
      simp only [Value.slice.injEq, true_and] at he'
      obtain ⟨rfl, rfl⟩ := he'
      rcases hRd with h0 | ⟨br, or', rfl, hbr, hcr⟩
      · exfalso; rw [h0] at hlt; simp at hlt
      have d1 := hcr k hlt
      rw [hr'] at d1
      have HC : Hid (chcK es rs (k + 1) = chcK es rs k ++ [idxB (toE (plE es (r : Int))) es]) := Lib.hid (by rw [chcK, hr'])
      have HP : Hid (plE es (r : Int) = (es.getD r zE).2.2.2.1) := Lib.hid (by unfold plE; rw [Int.toNat_natCast])
      clear hr hr' hcr
      have hE := h.keep hK
      obtain ⟨ae, ce, rfl, h2⟩ := id hE
      rcases h2 with h0 | ⟨be, oe, rfl, hbe, hce⟩
      · exfalso; rw [h0] at hre; simp at hre
      have AT := hce r _ (evs_get hre)
      clear hce
      generalize es.getD r zE = e at AT HP
      obtain ⟨x0, x1, x2, x3, x4, x5⟩ := e
      obtain ⟨-, -, -, q3, -, -⟩ := atE AT
      clear AT
      simp only at HP
      rw [HP.out] at HC
      clear HP
      have i1 : (0 : Int) ≤ (k : Int) := Int.natCast_nonneg _
      have i2 : (k : Int) < (rs.length : Int) := by omega
      have j1 : (0 : Int) ≤ (r : Int) := Int.natCast_nonneg _
      have j2 : (r : Int) < (es.length : Int) := by omega
      have hcl := chcK_len es rs k
      go_wp2_with fail
      refine (implWritesTo_any _ _ _ hE (by omega) _).mono ?_
      rintro e w2 ⟨v2, rfl, o2, k2⟩
      obtain ⟨D, hD⟩ : ∃ D, D = chcK es rs k := ⟨_, rfl⟩
      rw [← hD] at hA HC hcl
      clear hD
      generalize idxB (toE x3) es = zs at o2 HC
      have hA2 := (hA.keep k2).keep ((Keep.refl w2).alloc (.cells #[v2] 27))
      have hB2 := (hB.keep k2).keep ((Keep.refl w2).alloc (.cells #[v2] 27))
      have hU : Beside (w2.alloc (.cells #[v2] 27)) _ v2 zs := (o2.beside (x := u3) (fun k hk => (hA.lt k hk).2)).keep ((Keep.refl w2).alloc _)
      have hK2 := hK.trans k2
      have hsz := hK2.size
      have hG2 := hG.push (fun k hk => Nat.le_trans hK.size (o2.ge k hk))
      obtain ⟨a2, c2, hv2, -⟩ := o2.rd
      clear hA hB o2
      generalize zs.length = nz at hv2
      subst hv2
      go_wp2_with (at_builtin; refine wpList_append_own_at _ rfl _ _ 68 rfl w.heap.size 27 i0 (.slice none 0 0) 1 24 Try.underlying68 hi hz0 hz1 hz2 rfl (by decide) _ _ _ rfl hA2.row ⟨_, 0, none⟩ 1 1 [.slice a2 nz c2] rfl rfl ?c1 ?c2 ?c3 ?c4 ?c5 ?_)
      case c1 => exact cell_list (Boxed.new _ _ _).cell
      case c2 => intro u hu; simp at hu; subst hu; rfl
      case c3 => unfold maxLen; omega
      case c4 => omega
      case c5 => first | omega | (simp; omega)
      intro v' w3 hown' hgrow _ hblk
      have hblk' : v'.ownBlock = u3.ownBlock ∨ v'.ownBlock = some (w2.alloc (.cells #[.slice a2 nz c2] 27)).heap.size := by rw [heap_size]; exact hblk
      have hA3 := hA2.push hU (by rw [hcl]; exact hown') hgrow hblk'
      have hB3 := hB2.grow hgrow hblk'
      have hK3 : Keep w w3 := (hK2.alloc _).grown hgrow (fun k hk => (hA2.lt k hk).1)
      clear hown' hgrow hblk hblk' hA2 hB2 hU
      go_wp2
      go_roundw
      case rel => exact ⟨k + 1, _, by omega, by go_num, hG2, by rw [HC.out]; exact hA3, hB3, hK3⟩
      case measure => simp [intOf]; omega
    · obtain rfl : k = rs.length := by omega
      have HR := Lib.hid (hA.rdp hG)
      go_wp2
      go_ret
      exact ⟨_, rfl, by rw [HL.out]; exact HR.out, hK⟩
end Go.Proofs.Ytgolhjmbloiakaa

/- Is a number in a list: plain. -/
namespace Go.Proofs.Ytgolhjmbloiakaa

theorem isB_take {l : List Int} {n : Int} (h : ∀ i, i < l.length → l.getD i 0 ≠ n) : isB l n = false := by
  unfold isB
  rw [List.any_eq_false]
  intro x hx
  obtain ⟨i, hi, e⟩ := List.getElem_of_mem hx
  have := h i hi
  rw [List.getD_eq_getElem?_getD, List.getElem?_eq_getElem hi] at this
  simp only [Option.getD_some] at this
  rw [← e]
  simpa using this
theorem isB_at {l : List Int} {n : Int} {i : Nat} (hi : i < l.length) (h : l.getD i 0 = n) : isB l n = true := by
  unfold isB
  rw [List.any_eq_true]
  refine ⟨n, ?_, by simp⟩
  rw [← h, List.getD_eq_getElem?_getD, List.getElem?_eq_getElem hi]
  exact List.getElem_mem hi
end Go.Proofs.Ytgolhjmbloiakaa

/- Contracts of slices.Index and slices.Contains of a list of numbers. -/
namespace Go.Proofs.Ytgolhjmbloiakaa
open Go.ChangeShapes Go.WideShapes Go.ChangeAt Go.RowKit

set_option maxHeartbeats 1000000 in
theorem index_any (w : World) (v : Value) (zs : List Int) (h : Rd w v zs) (hn : zs.length ≤ 1048576) (n : Int) :
    Calls Try.prog 130 #[v, .int .i64 n] w fun e w' => ∃ r : Int, e = .returned (.int .i64 r) ∧ Hid (decide (0 ≤ r) = isB zs n) ∧ w' = w := by
  obtain ⟨a, c, rfl, h⟩ := h
  go_enter Try.func130, Try.ntmps130
  go_wp2
  go_loop [8] (fun i => ∃ k : Nat, k ≤ zs.length ∧ i = .int .i64 k ∧ Hid (∀ i, i < k → zs.getD i 0 ≠ n)) (fun i => zs.length - (intOf i).toNat)
  case atStart => exact ⟨0, Nat.zero_le _, rfl, Lib.hid (fun i hi => absurd hi (Nat.not_lt_zero _))⟩
  case round =>
    obtain ⟨k, hk, rfl, hno⟩ := hrel
    by_cases hlt : k < zs.length
    · rcases h with h | ⟨b, o, rfl, hb, hc⟩
      · exfalso; rw [h] at hlt; simp at hlt
      have d1 := hc k hlt
      obtain ⟨p, hp⟩ : ∃ p, p = zs.getD k 0 := ⟨_, rfl⟩
      have HP := Lib.hid hp
      rw [← hp] at d1
      clear hc hp
      have i1 : (0 : Int) ≤ (k : Int) := Int.natCast_nonneg _
      have i2 : (k : Int) < (zs.length : Int) := by omega
      by_cases he : p = n
      · have hb : (n == p) = true := by simp [he]
        have HE : Hid (isB zs n = true) := Lib.hid (isB_at hlt (by rw [← HP.out]; exact he))
        clear he
        go_wp2
        go_ret
        exact ⟨k, rfl, Lib.hid (by rw [HE.out]; simp), rfl⟩
      · have hb : (n == p) = false := by simp; exact fun h => he h.symm
        have HE : Hid (∀ i, i < k + 1 → zs.getD i 0 ≠ n) := Lib.hid (fun i hi => by
          by_cases e : i = k
          · subst e; rw [← HP.out]; exact he
          · exact hno.out i (by omega))
        clear he
        go_wp2
        go_round
        case rel => exact ⟨k + 1, by omega, by go_num, HE⟩
        case measure => simp [intOf]; omega
    · obtain rfl : k = zs.length := by omega
      have HE : Hid (isB zs n = false) := Lib.hid (isB_take hno.out)
      go_wp2
      go_ret
      exact ⟨-1, rfl, Lib.hid (by rw [HE.out]; rfl), rfl⟩
theorem contains_any (w : World) (v : Value) (zs : List Int) (h : Rd w v zs) (hn : zs.length ≤ 1048576) (n : Int) :
    Calls Try.prog 123 #[v, .int .i64 n] w fun e w' => e = .returned (.bool (isB zs n)) ∧ w' = w := by
  go_enter Try.func123, Try.ntmps123
  go_wp2_with fail
  refine (index_any _ _ _ h hn _).mono ?_
  rintro e w1 ⟨r, rfl, hr, rfl⟩
  go_wp2
  go_ret
  exact ⟨by rw [← hr.out]; rfl, rfl⟩
end Go.Proofs.Ytgolhjmbloiakaa

/- Contract of the specification's l1In: is a number from the least to the greatest. -/
namespace Go.Proofs.Ytgolhjmbloiakaa
open Go.ChangeShapes Go.WideShapes Go.ChangeAt Go.RowKit

theorem l1In_any (x lo hi : Int) (w : World) :
    Calls Try.prog 88 #[.int .i64 x, .int .i64 lo, .int .i64 hi] w fun e w' => e = .returned (.bool (inB x lo hi)) ∧ w' = w := by
  go_enter Try.func88, Try.ntmps88
  go_wp2
  all_goals
    go_ret
    exact ⟨ret_bool (by rw [Bool.eq_iff_iff]; unfold inB; simp; omega), rfl⟩
end Go.Proofs.Ytgolhjmbloiakaa

/- Contract of the specification's DeedOk: it answers whether four numbers are a deed, and turns nothing. -/
namespace Go.Proofs.Ytgolhjmbloiakaa
open Go.ChangeShapes Go.WideShapes Go.ChangeAt Go.RowKit

abbrev deedV (k p v g : Int) : Value := .agg #[.int .i64 k, .int .i64 p, .int .i64 v, .int .i64 g]

theorem specDeedOk_any (k p v g : Int) (w : World) :
    Calls Try.prog 89 #[deedV k p v g] w fun e w' => e = .returned (.bool (deedB k p v g)) ∧ Keep w w' := by
  unfold deedV
  go_enter Try.func89, Try.ntmps89
  go_wp2_with (go_at_call 88; refine (l1In_any _ _ _ _).mono ?_; rintro e w' ⟨rfl, rfl⟩)
  all_goals
    go_ret
    refine ⟨ret_bool ?_, (Keep.refl w).alloc _⟩
    simp [inB] at *
    rw [Bool.eq_iff_iff]
    simp [deedB]
    omega
end Go.Proofs.Ytgolhjmbloiakaa

/- Works in memory: lists of deeds, and lists of such lists, that can be read. -/
namespace Go.Proofs.Ytgolhjmbloiakaa
open Go.ChangeShapes Go.WideShapes Go.ChangeAt Go.RowKit

abbrev dV (d : Dd) : Value := deedV d.1 d.2.1 d.2.2.1 d.2.2.2
/-- A deed that lies at a place. -/
def AtD (w : World) (b o : Nat) (d : Dd) : Prop :=
  w.cell? ⟨b, o, none⟩ = some (.int .i64 d.1) ∧ w.cell? ⟨b, o + 1, none⟩ = some (.int .i64 d.2.1) ∧ w.cell? ⟨b, o + 2, none⟩ = some (.int .i64 d.2.2.1) ∧ w.cell? ⟨b, o + 3, none⟩ = some (.int .i64 d.2.2.2)
def RdD (w : World) (v : Value) (ds : List Dd) : Prop :=
  ∃ (a : Option Addr) (cap : Nat), v = .slice a ds.length (ds.length + cap) ∧
    (ds = [] ∨ ∃ b off, a = some ⟨b, off, none⟩ ∧ b < w.heap.size ∧ ∀ i, i < ds.length → AtD w b (off + i * 4) (ds.getD i zD))
def RdW (w : World) (v : Value) (dss : List (List Dd)) : Prop :=
  ∃ (a : Option Addr) (cap : Nat), v = .slice a dss.length cap ∧
    (dss = [] ∨ ∃ b off, a = some ⟨b, off, none⟩ ∧ b < w.heap.size ∧ ∀ i, i < dss.length → ∃ vi, w.cell? ⟨b, off + i, none⟩ = some vi ∧ RdD w vi (dss.getD i []))
theorem AtD.keep {w w' : World} {b o : Nat} {d : Dd} (h : AtD w b o d) (hb : b < w.heap.size) (k : Keep w w') : AtD w' b o d :=
  ⟨(k.cell hb).trans h.1, (k.cell hb).trans h.2.1, (k.cell hb).trans h.2.2.1, (k.cell hb).trans h.2.2.2⟩
theorem RdD.keep {w w' : World} {v : Value} {ds : List Dd} (h : RdD w v ds) (k : Keep w w') : RdD w' v ds := by
  obtain ⟨a, cap, hv, h⟩ := h
  refine ⟨a, cap, hv, ?_⟩
  rcases h with h | ⟨b, off, ha, hb, hc⟩
  · exact .inl h
  · exact .inr ⟨b, off, ha, Nat.lt_of_lt_of_le hb k.size, fun i hi => (hc i hi).keep hb k⟩
theorem RdW.keep {w w' : World} {v : Value} {dss : List (List Dd)} (h : RdW w v dss) (k : Keep w w') : RdW w' v dss := by
  obtain ⟨a, cap, hv, h⟩ := h
  refine ⟨a, cap, hv, ?_⟩
  rcases h with h | ⟨b, off, ha, hb, hc⟩
  · exact .inl h
  · refine .inr ⟨b, off, ha, Nat.lt_of_lt_of_le hb k.size, fun i hi => ?_⟩
    obtain ⟨vi, h1, h2⟩ := hc i hi
    exact ⟨vi, (k.cell hb).trans h1, h2.keep k⟩
theorem Keep.set {w wr : World} (h : Keep w wr) {g : Nat} (hg : w.heap.size ≤ g) (i : Nat) (x : Value) : Keep w (wr.setCell ⟨g, i, none⟩ x) :=
  h.grown (row := some g) ⟨rfl, rfl, rfl, by simp, fun k _ hk => heap_setCell_other wr ⟨g, i, none⟩ k x (fun e => hk (by simp [e]))⟩ (fun k hk => by simp at hk; omega)
theorem range_getD {α : Type} (f : Nat → α) (n i : Nat) (z : α) (h : i < n) : ((List.range n).map f).getD i z = f i := by
  rw [List.getD_eq_getElem?_getD, List.getElem?_map, List.getElem?_range h]
  rfl
theorem plain_add {b o i : Nat} : (⟨b, o, none⟩ : Addr).add i = ⟨b, o + i, none⟩ := by unfold Addr.add; split <;> simp_all
theorem block_lt {w : World} {b o : Nat} {v : Value} (h : w.cell? ⟨b, o, none⟩ = some v) : b < w.heap.size := by
  apply Classical.byContradiction
  intro hn
  have h3 : w.heap[b]? = none := by simp; omega
  simp [World.cell?, h3] at h
end Go.Proofs.Ytgolhjmbloiakaa

/- Plain mathematics of the program's clerks: the Groups that they have, as sets; that the program's test on them is the specification's. -/
namespace Go.Proofs.Ytgolhjmbloiakaa
open Go.RowKit

def grD (d : Dd) : Int := d.2.2.2
/-- The Groups of the first k deeds, as a set. -/
def gK (ds : List Dd) : Nat → Int
  | 0 => 0
  | k + 1 => if grD (ds.getD k zD) = 0 then gK ds k else gAdd (gK ds k) (grD (ds.getD k zD))
def gC (ds : List Dd) : Int := gK ds ds.length
/-- Does the deed k begin a Group that was there before? -/
def partK (ds : List Dd) (k : Nat) : Bool := decide (0 < k) && (grD (ds.getD k zD) != grD (ds.getD (k - 1) zD)) && inSetB (gK ds k) (grD (ds.getD k zD))
def togK (ds : List Dd) : Nat → Bool
  | 0 => true
  | k + 1 => togK ds k && !partK ds k
/-- The Groups of the clerks ahead. -/
def takW (dss : List (List Dd)) : Nat → Int
  | 0 => 0
  | i + 1 => bits .or .i64 (takW dss i) (gC (dss.getD i []))
def rightB (ds : List Dd) (t : Int) : Bool := decide (ds.length ≤ 5) && ds.all okD && togK ds ds.length && (bits .and .i64 (gC ds) t == 0)
def rightsW (dss : List (List Dd)) : Nat → Bool
  | 0 => true
  | i + 1 => rightsW dss i && rightB (dss.getD i []) (takW dss i)
theorem take_getD {α : Type} (l : List α) (i k : Nat) (z : α) (h : k < i) : (l.take i).getD k z = l.getD k z := by
  rw [List.getD_eq_getElem?_getD, List.getElem?_take, if_pos h, List.getD_eq_getElem?_getD]
theorem gK_take (ds : List Dd) (i : Nat) : ∀ k : Nat, k ≤ i → gK (ds.take i) k = gK ds k
  | 0, _ => rfl
  | k + 1, h => by rw [gK, gK, gK_take ds i k (by omega), take_getD ds i k zD (by omega)]
theorem gC_take (ds : List Dd) (i : Nat) (h : i ≤ ds.length) : gC (ds.take i) = gK ds i := by
  rw [gC, List.length_take, Nat.min_eq_left h, gK_take ds i i (Nat.le_refl _)]
theorem togK_false {ds : List Dd} {k : Nat} (h : togK ds k = false) : ∀ n : Nat, k ≤ n → togK ds n = false
  | 0, hn => by
    obtain rfl : k = 0 := by omega
    exact h
  | n + 1, hn => by
    by_cases e : k = n + 1
    · rw [← e]; exact h
    · rw [togK, togK_false h n (by omega)]; rfl
theorem rightsW_false {dss : List (List Dd)} {k : Nat} (h : rightsW dss k = false) : ∀ n : Nat, k ≤ n → rightsW dss n = false
  | 0, hn => by
    obtain rfl : k = 0 := by omega
    exact h
  | n + 1, hn => by
    by_cases e : k = n + 1
    · rw [← e]; exact h
    · rw [rightsW, rightsW_false h n (by omega)]; rfl
/-- No number is in both. -/
def Dis (a b : Nat) : Prop := ∀ k, a.testBit k = true → b.testBit k = false
theorem dis_iff (a b : Nat) : Dis a b ↔ a &&& b = 0 := by
  constructor
  · intro h
    apply Nat.eq_of_testBit_eq
    intro k
    rw [Nat.testBit_and, Nat.zero_testBit]
    cases ha : a.testBit k
    · rfl
    · rw [h k ha]; rfl
  · intro h k ha
    have h1 : (a &&& b).testBit k = false := by rw [h, Nat.zero_testBit]
    rw [Nat.testBit_and, ha] at h1
    simpa using h1
theorem or_bit (a g k : Nat) : (a ||| 2 ^ g).testBit k = (a.testBit k || decide (g = k)) := by
  rw [Nat.testBit_or, Nat.testBit_two_pow]
theorem set_getD (o : List Int) (g : Nat) (x : Int) (j : Nat) (hg : g < o.length) : (o.set g x).getD j 0 = if g = j then x else o.getD j 0 := by
  rw [List.getD_eq_getElem?_getD, List.getElem?_set]
  by_cases e : g = j
  · subst e; rw [if_pos rfl, if_pos hg, if_pos rfl]; rfl
  · rw [if_neg e, if_neg e, List.getD_eq_getElem?_getD]
theorem okD_grp {d : Dd} (h : okD d = true) : 0 ≤ grD d ∧ grD d ≤ 9 := by
  simp [okD, deedB] at h
  unfold grD
  omega
theorem clerk_same {i : Nat} {own : List Int} {T : Nat} {ds : List Dd} (hl : own.length = 10) (hT : ∀ g, g < 10 → (own.getD g 0 ≠ 0 ↔ T.testBit g = true)) (hi : ∀ g, g < 10 → own.getD g 0 ≠ (i : Int) + 1) (hT0 : T.testBit 0 = false) :
    ∀ k : Nat, (∀ j, j < k → okD (ds.getD j zD) = true) → ∃ G : Nat, G < 4096 ∧ gK ds k = (G : Int) ∧ G.testBit 0 = false ∧ (k = 0 → G = 0) ∧
      (grpK i own ds k = none → togK ds k = false ∨ ¬ Dis G T) ∧
      ∀ o, grpK i own ds k = some o → togK ds k = true ∧ Dis G T ∧ o.length = 10 ∧ ∀ g, g < 10 → o.getD g 0 = if G.testBit g = true then (i : Int) + 1 else own.getD g 0
  | 0, _ => ⟨0, by omega, rfl, by simp, fun _ => rfl, by simp [grpK], by
      intro o ho
      simp only [grpK, Option.some.injEq] at ho
      subst ho
      exact ⟨rfl, fun k hk => by simp at hk, hl, by simp⟩⟩
  | k + 1, hok => by
    obtain ⟨G, hG, hgK, hG0, hz, hN, hS⟩ := clerk_same hl hT hi hT0 k (fun j hj => hok j (by omega))
    obtain ⟨h0, h9⟩ := okD_grp (hok k (by omega))
    obtain ⟨g, hg⟩ := Int.eq_ofNat_of_zero_le h0
    have hgg : (ds.getD k zD).2.2.2 = (g : Int) := hg
    by_cases hg0 : g = 0
    · subst hg0
      have hz0 : (ds.getD k zD).2.2.2 = 0 := hgg
      have e1 : gK ds (k + 1) = (G : Int) := by rw [gK, hg, if_pos (by simp), hgK]
      have e2 : partK ds k = false := by
        have : inSetB (gK ds k) (grD (ds.getD k zD)) = false := by rw [hgK, hg, inSetB_nat G 0 hG (by omega), hG0]
        rw [partK, this, Bool.and_false]
      have e3 : togK ds (k + 1) = togK ds k := by rw [togK, e2]; simp
      have e4 : grpK i own ds (k + 1) = grpK i own ds k := by
        rw [grpK]
        cases hq : grpK i own ds k with
        | none => rfl
        | some o => simp only; rw [if_pos hz0]
      refine ⟨G, hG, e1, hG0, by omega, ?_, ?_⟩
      · rw [e3, e4]; exact hN
      · rw [e3, e4]; exact hS
    · have hgne : (ds.getD k zD).2.2.2 ≠ 0 := by rw [hgg]; omega
      have g9 : g ≤ 9 := by rw [hg] at h9; omega
      have e1 : gK ds (k + 1) = ((G ||| 2 ^ g : Nat) : Int) := by
        rw [gK, hg, if_neg (by omega), hgK, gAdd_nat G g hG (by omega)]
      have e0 : (G ||| 2 ^ g).testBit 0 = false := by rw [or_bit, hG0]; simp [hg0]
      have inS : inSetB (gK ds k) (grD (ds.getD k zD)) = G.testBit g := by rw [hgK, hg, inSetB_nat G g hG (by omega)]
      refine ⟨G ||| 2 ^ g, or_lt G g hG (by omega), e1, e0, by omega, ?_, ?_⟩
      · intro hn
        rw [grpK] at hn
        cases hq : grpK i own ds k with
        | none =>
          rcases hN hq with h | h
          · left; rw [togK, h]; rfl
          · right
            intro hd
            refine h (fun b hb => hd b ?_)
            rw [or_bit, hb]; rfl
        | some o =>
          rw [hq] at hn
          simp only at hn
          rw [if_neg hgne, hgg, Int.toNat_natCast] at hn
          obtain ⟨ht, hd, hlen, ho⟩ := hS o hq
          split at hn
          · rename_i hc
            cases hTg : T.testBit g with
            | true =>
              right
              intro hd2
              have := hd2 g (by rw [or_bit]; simp)
              rw [hTg] at this
              cases this
            | false =>
              left
              have hown : own.getD g 0 = 0 := by
                apply Classical.byContradiction
                intro hne
                rw [(hT g (by omega)).1 hne] at hTg
                cases hTg
              cases hGg : G.testBit g with
              | false =>
                exfalso
                have := ho g (by omega)
                rw [hGg, hown] at this
                exact hc.1 (by simpa using this)
              | true =>
                have hk0 : k ≠ 0 := by
                  intro hk
                  rw [hz hk] at hGg
                  simp at hGg
                have hog := ho g (by omega)
                rw [hGg, if_pos rfl] at hog
                have hp : (ds.getD (k - 1) zD).2.2.2 ≠ (g : Int) := by
                  rcases hc.2 with h | h | h
                  · exact absurd hog h
                  · exact absurd h hk0
                  · exact h
                have : partK ds k = true := by
                  rw [partK, inS, hGg, hg]
                  have hp' : ((g : Int) != grD (ds.getD (k - 1) zD)) = true := by
                    rw [bne_iff_ne]; exact fun e => hp e.symm
                  rw [hp']
                  simp; omega
                rw [togK, this]; simp
          · cases hn
      · intro o' hn
        rw [grpK] at hn
        cases hq : grpK i own ds k with
        | none => rw [hq] at hn; cases hn
        | some o =>
          rw [hq] at hn
          simp only at hn
          rw [if_neg hgne, hgg, Int.toNat_natCast] at hn
          obtain ⟨ht, hd, hlen, ho⟩ := hS o hq
          split at hn
          · cases hn
          · rename_i hc
            simp only [Option.some.injEq] at hn
            subst hn
            have hog := ho g (by omega)
            have hTg : T.testBit g = false := by
              cases hTg : T.testBit g with
              | false => rfl
              | true =>
                exfalso
                have hGg : G.testBit g = false := by
                  cases hGg : G.testBit g with
                  | false => rfl
                  | true => rw [hd g hGg] at hTg; cases hTg
                rw [hGg] at hog
                simp only [Bool.false_eq_true, if_false] at hog
                exact hc ⟨by rw [hog]; exact (hT g (by omega)).2 hTg, .inl (by rw [hog]; exact hi g (by omega))⟩
            refine ⟨?_, ?_, by rw [List.length_set]; exact hlen, ?_⟩
            · have : partK ds k = false := by
                cases hp : partK ds k with
                | false => rfl
                | true =>
                  exfalso
                  rw [partK, inS, hg, Bool.and_eq_true, Bool.and_eq_true, decide_eq_true_eq, bne_iff_ne] at hp
                  obtain ⟨⟨hk, hne⟩, hGg⟩ := hp
                  rw [hGg, if_pos rfl] at hog
                  exact hc ⟨by rw [hog]; omega, .inr (.inr (fun e => hne e.symm))⟩
              rw [togK, ht, this]; rfl
            · intro b hb
              rw [or_bit, Bool.or_eq_true, decide_eq_true_eq] at hb
              rcases hb with hb | rfl
              · exact hd b hb
              · exact hTg
            · intro j hj
              rw [set_getD o g _ j (by omega), or_bit]
              by_cases e : g = j
              · subst e; simp
              · rw [if_neg e, ho j hj]; simp [e]
theorem work_same {dss : List (List Dd)} : ∀ n : Nat, (∀ i, i < n → okL (dss.getD i []) = true) → ∃ T : Nat, T < 4096 ∧ takW dss n = (T : Int) ∧ T.testBit 0 = false ∧
      (grpW dss n = none → rightsW dss n = false) ∧
      ∀ o, grpW dss n = some o → rightsW dss n = true ∧ o.length = 10 ∧ (∀ g, g < 10 → (o.getD g 0 ≠ 0 ↔ T.testBit g = true)) ∧ ∀ g, g < 10 → 0 ≤ o.getD g 0 ∧ o.getD g 0 ≤ (n : Int)
  | 0, _ => ⟨0, by omega, rfl, by simp, by simp [grpW], by
      intro o ho
      simp only [grpW, Option.some.injEq] at ho
      subst ho
      refine ⟨rfl, by simp, fun g hg => ?_, fun g hg => ?_⟩
      · rw [List.getD_eq_getElem?_getD, List.getElem?_replicate, if_pos hg]; simp
      · rw [List.getD_eq_getElem?_getD, List.getElem?_replicate, if_pos hg]; simp⟩
  | n + 1, hok => by
    obtain ⟨T, hT, htk, hT0, hN, hS⟩ := work_same n (fun i hi => hok i (by omega))
    have okn := hok n (by omega)
    simp only [okL, Bool.and_eq_true, decide_eq_true_eq] at okn
    have hall := okn.1
    have hok2 : ∀ j, j < (dss.getD n []).length → okD ((dss.getD n []).getD j zD) = true := fun j hj => all_get zD hall j hj
    obtain ⟨G0, hG0, hgK0, hG00, -⟩ := clerk_same (i := 0) (own := List.replicate 10 0) (T := 0) (ds := dss.getD n []) (by simp) (fun g hg => by rw [List.getD_eq_getElem?_getD, List.getElem?_replicate, if_pos hg]; simp) (fun g hg => by rw [List.getD_eq_getElem?_getD, List.getElem?_replicate, if_pos hg]; simp) (by simp) (dss.getD n []).length hok2
    have hor : takW dss (n + 1) = ((T ||| G0 : Nat) : Int) := by
      rw [takW, htk, gC, hgK0, i64_or_nat T G0 (by omega) (by omega)]
    have hand : bits .and .i64 (gC (dss.getD n [])) (takW dss n) = ((G0 &&& T : Nat) : Int) := by
      rw [gC, hgK0, htk, i64_and_nat G0 T (by omega) (by omega)]
    have hR : rightB (dss.getD n []) (takW dss n) = (togK (dss.getD n []) (dss.getD n []).length && decide (G0 &&& T = 0)) := by
      rw [rightB, hall, decide_eq_true okn.2, hand]
      simp only [Bool.true_and]
      congr 1
      rw [Bool.eq_iff_iff, beq_iff_eq, decide_eq_true_eq]
      omega
    refine ⟨T ||| G0, Nat.or_lt_two_pow (n := 12) hT hG0, hor, by rw [Nat.testBit_or, hT0, hG00]; rfl, ?_, ?_⟩
    · intro hn
      rw [grpW] at hn
      cases hq : grpW dss n with
      | none => rw [rightsW, hN hq]; rfl
      | some o =>
        rw [hq] at hn
        simp only at hn
        obtain ⟨hr, hl, hb, hle⟩ := hS o hq
        obtain ⟨G, hG, hgK, -, -, hN2, -⟩ := clerk_same (i := n) (own := o) (T := T) (ds := dss.getD n []) hl hb (fun g hg => by have := hle g hg; omega) hT0 (dss.getD n []).length hok2
        obtain rfl : G = G0 := by rw [hgK0] at hgK; omega
        rw [rightsW, hr, hR]
        rcases hN2 hn with h | h
        · rw [h]; rfl
        · rw [decide_eq_false (fun e => h ((dis_iff _ _).2 e))]; simp
    · intro o' hn
      rw [grpW] at hn
      cases hq : grpW dss n with
      | none => rw [hq] at hn; cases hn
      | some o =>
        rw [hq] at hn
        simp only at hn
        obtain ⟨hr, hl, hb, hle⟩ := hS o hq
        obtain ⟨G, hG, hgK, -, -, -, hS2⟩ := clerk_same (i := n) (own := o) (T := T) (ds := dss.getD n []) hl hb (fun g hg => by have := hle g hg; omega) hT0 (dss.getD n []).length hok2
        obtain rfl : G = G0 := by rw [hgK0] at hgK; omega
        obtain ⟨h1, h2, h3, h4⟩ := hS2 o' hn
        refine ⟨by rw [rightsW, hr, hR, h1, decide_eq_true ((dis_iff _ _).1 h2)]; rfl, h3, fun g hg => ?_, fun g hg => ?_⟩
        · rw [h4 g hg, Nat.testBit_or, Bool.or_eq_true]
          cases hGg : G.testBit g
          · simp only [Bool.false_eq_true, if_false, or_false]; exact hb g hg
          · simp only [if_true, or_true, iff_true]; omega
        · rw [h4 g hg]
          have := hle g hg
          split <;> omega
/-- The program's test is the specification's. -/
theorem rights_same {dss : List (List Dd)} (h : dss.all okL = true) : rightsW dss dss.length = grpB dss := by
  obtain ⟨T, -, -, -, hN, hS⟩ := work_same (dss := dss) dss.length (fun i hi => all_get [] h i hi)
  rw [grpB]
  cases hq : grpW dss dss.length with
  | none => rw [hN hq]; rfl
  | some o => rw [(hS o hq).1]; rfl
theorem rights_okL {dss : List (List Dd)} (h : rightsW dss dss.length = true) : dss.all okL = true := by
  refine all_of [] (fun i hi => ?_)
  cases hb : rightsW dss (i + 1) with
  | false => rw [rightsW_false hb _ hi] at h; cases h
  | true =>
    rw [rightsW, Bool.and_eq_true] at hb
    have := hb.2
    simp only [rightB, Bool.and_eq_true] at this
    rw [okL, this.1.1.2, Bool.true_and]
    exact this.1.1.1
theorem work_rights (dss : List (List Dd)) : workB dss = (decide (1 ≤ dss.length ∧ dss.length ≤ 3) && rightsW dss dss.length && decide (lenW dss ≤ 12) && decide (evW dss dss.length ≤ 6)) := by
  rw [workB]
  cases h : dss.all okL with
  | true =>
    rw [rights_same h]
    cases grpB dss <;> simp
  | false =>
    cases hr : rightsW dss dss.length with
    | false => simp
    | true => rw [rights_okL hr] at h; cases h
end Go.Proofs.Ytgolhjmbloiakaa

/- Contracts of the program's DeedOk and of what it calls: it answers whether four numbers are a deed, and turns nothing. -/
namespace Go.Proofs.Ytgolhjmbloiakaa
open Go.ChangeShapes Go.WideShapes Go.ChangeAt Go.RowKit

theorem isFrom_any (lo x hi : Int) (w : World) :
    Calls Try.prog 41 #[.int .i64 lo, .int .i64 x, .int .i64 hi] w fun e w' => e = .returned (.bool (inB x lo hi)) ∧ w' = w := by
  go_enter Try.func41, Try.ntmps41
  go_wp2
  all_goals
    go_ret
    exact ⟨ret_bool (by rw [Bool.eq_iff_iff]; unfold inB; simp; omega), rfl⟩
/-- The greatest of each number, by the kind; the least value. -/
def mostP (k : Int) : Int := if k = 1 ∨ k = 2 ∨ k = 3 then 2 else 0
def mostV (k : Int) : Int := if k = 2 ∨ k = 3 then 9 else 0
def leastV (k : Int) : Int := if k = 2 ∨ k = 3 then 1 else 0
def mostG (k : Int) : Int := if k = 1 ∨ k = 2 then 9 else 0
theorem limits_any (k : Int) (w : World) :
    Calls Try.prog 131 #[.int .i64 k] w fun e w' => e = .returned (.tuple #[deedV 1 0 (leastV k) 0, deedV 4 (mostP k) (mostV k) (mostG k)]) ∧ Keep w w' := by
  have hk : k = 1 ∨ k = 2 ∨ k = 3 ∨ (¬ k = 1 ∧ ¬ k = 2 ∧ ¬ k = 3) := by omega
  rcases hk with rfl | rfl | rfl | ⟨h1, h2, h3⟩
  all_goals
    go_enter Try.func131, Try.ntmps131
    go_wp2
    go_region
    go_wp2
    refine bodyPost_ret (results_row2 (by rfl) _ _ _ _ _ _ _ _ _ _ _ rfl (by simp only [heap_at, heap_drew, heap_size]; repeat (first | exact if_pos rfl | exact if_pos trivial | rw [if_neg (by omega)])) rfl (by simp only [heap_at, heap_drew, heap_size]; repeat (first | exact if_pos rfl | exact if_pos trivial | rw [if_neg (by omega)])) Try.underlying92 rfl (by kernel_rfl) (by kernel_rfl)) rfl ?_
    refine ⟨?_, (((((Keep.refl w).alloc _).alloc _).alloc _).alloc _).drew⟩
    first | rfl | simp [deedV, leastV, mostP, mostV, mostG, h1, h2, h3]
theorem deedB_from (k p v g : Int) : deedB k p v g = (inB k 1 4 && inB p 0 (mostP k) && inB v (leastV k) (mostV k) && inB g 0 (mostG k)) := by
  have hk : k = 1 ∨ k = 2 ∨ k = 3 ∨ k = 4 ∨ ¬ (1 ≤ k ∧ k ≤ 4) := by omega
  rw [Bool.eq_iff_iff]
  rcases hk with rfl | rfl | rfl | rfl | h
  all_goals
    simp [deedB, inB, mostP, mostV, leastV, mostG]
    omega
theorem implDeedOk_any (k p v g : Int) (w : World) :
    Calls Try.prog 127 #[deedV k p v g] w fun e w' => e = .returned (.bool (deedB k p v g)) ∧ Keep w w' := by
  rw [deedB_from]
  unfold deedV
  go_enter Try.func127, Try.ntmps127
  go_wp2_with fail
  refine (limits_any _ _).mono ?_
  rintro e w1 ⟨rfl, k1⟩
  have hs := box_size k1
  have c0 : w1.cell? ⟨w.heap.size, 0, none⟩ = some (.int .i64 k) := box_cell k1 0
  have c1 : w1.cell? ⟨w.heap.size, 1, none⟩ = some (.int .i64 p) := box_cell k1 1
  have c2 : w1.cell? ⟨w.heap.size, 2, none⟩ = some (.int .i64 v) := box_cell k1 2
  have c3 : w1.cell? ⟨w.heap.size, 3, none⟩ = some (.int .i64 g) := box_cell k1 3
  have K1 : Keep w w1 := ((Keep.refl w).alloc _).trans k1
  clear k1
  go_wp2_with (go_at_call 41; refine (isFrom_any _ _ _ _).mono ?_; rintro e w' ⟨rfl, rfl⟩)
  all_goals
    go_ret
    exact ⟨ret_bool (by simp [*]), (K1.alloc _).alloc _⟩
end Go.Proofs.Ytgolhjmbloiakaa

/- Contracts of the small methods on the program's sets: each answers as a plain function says and turns nothing. -/
namespace Go.Proofs.Ytgolhjmbloiakaa
open Go.ChangeShapes Go.WideShapes Go.ChangeAt Go.RowKit

theorem inSize_any (x : Int) (w : World) :
    Calls Try.prog 126 #[.int .i64 x] w fun e w' => e = .returned (.bool (inB x 0 11)) ∧ w' = w := by
  go_enter Try.func126, Try.ntmps126
  go_wp2
  all_goals
    go_ret
    exact ⟨ret_bool (by rw [Bool.eq_iff_iff]; unfold inB; simp; omega), rfl⟩
theorem isOf_any (n s : Int) (w : World) :
    Calls Try.prog 132 #[.int .i64 s, .int .i64 n] w fun e w' => e = .returned (.bool (okB n s)) ∧ w' = w := by
  go_enter Try.func132, Try.ntmps132
  go_wp2
  · go_ret
    exact ⟨ret_bool (by rw [wrap64_pow n (by assumption) (by assumption), Bool.eq_iff_iff]; unfold okB; simp; omega), rfl⟩
  all_goals
    go_ret
    exact ⟨ret_bool (by rw [Bool.eq_iff_iff]; unfold okB; simp; omega), rfl⟩
theorem has_any (s i : Int) (w : World) :
    Calls Try.prog 128 #[.int .i64 s, .int .i64 i] w fun e w' => e = .returned (.bool (inSetB s i)) ∧ w' = w := by
  have key : okB 12 s = inB s 0 4095 := by rw [Bool.eq_iff_iff]; unfold okB inB; simp; omega
  cases hs : inB s 0 4095
  · have hk : okB 12 s = false := key.trans hs
    clear key
    go_enter Try.func128, Try.ntmps128
    go_wp2_with (go_at_call 132; refine (isOf_any _ _ _).mono ?_; rintro e w' ⟨rfl, rfl⟩)
    go_ret
    exact ⟨ret_bool (by simp [inSetB, hs]), rfl⟩
  · have hk : okB 12 s = true := key.trans hs
    clear key
    cases hi : inB i 0 11
    · go_enter Try.func128, Try.ntmps128
      go_wp2_with (first | (go_at_call 132; refine (isOf_any _ _ _).mono ?_; rintro e w' ⟨rfl, rfl⟩) | (go_at_call 126; refine (inSize_any _ _).mono ?_; rintro e w' ⟨rfl, rfl⟩))
      go_ret
      exact ⟨ret_bool (by simp [inSetB, hi]), rfl⟩
    · have hi' := hi
      simp only [inB, decide_eq_true_eq] at hi'
      obtain ⟨i1, i2⟩ := hi'
      go_enter Try.func128, Try.ntmps128
      go_wp2_with (first | (go_at_call 132; refine (isOf_any _ _ _).mono ?_; rintro e w' ⟨rfl, rfl⟩) | (go_at_call 126; refine (inSize_any _ _).mono ?_; rintro e w' ⟨rfl, rfl⟩))
      go_ret
      exact ⟨ret_bool (by simp [inSetB, hs, hi, bitB]), rfl⟩
end Go.Proofs.Ytgolhjmbloiakaa

/- Contract of the program's set with one more member. -/
namespace Go.Proofs.Ytgolhjmbloiakaa
open Go.ChangeShapes Go.WideShapes Go.ChangeAt Go.RowKit

theorem with_any (s i : Int) (w : World) :
    Calls Try.prog 111 #[.int .i64 s, .int .i64 i] w fun e w' => e = .returned (.int .i64 (gAdd s i)) ∧ w' = w := by
  by_cases hs : s = -1
  · subst hs
    go_enter Try.func111, Try.ntmps111
    go_wp2
    go_ret
    exact ⟨ret_int (gAdd_none i).symm, rfl⟩
  · have hsb : (s == -1) = false := by simp [hs]
    have HS : Hid (¬ s = -1) := hs
    clear hs
    cases hi : inB i 0 11
    · go_enter Try.func111, Try.ntmps111
      go_wp2_with (go_at_call 126; refine (inSize_any _ _).mono ?_; rintro e w' ⟨rfl, rfl⟩)
      go_ret
      exact ⟨ret_int (gAdd_bad s i hi).symm, rfl⟩
    · have hi' := hi
      simp only [inB, decide_eq_true_eq] at hi'
      obtain ⟨i1, i2⟩ := hi'
      go_enter Try.func111, Try.ntmps111
      go_wp2_with (go_at_call 126; refine (inSize_any _ _).mono ?_; rintro e w' ⟨rfl, rfl⟩)
      go_ret
      exact ⟨ret_int (by simp [gAdd, HS.out, hi]), rfl⟩
end Go.Proofs.Ytgolhjmbloiakaa

/- Contracts of the program's deeds: how many they are, their events, their Groups, whether each is right. -/
namespace Go.Proofs.Ytgolhjmbloiakaa
open Go.ChangeShapes Go.WideShapes Go.ChangeAt Go.RowKit

theorem setAnd_bits (s t : Int) (w : World) :
    Calls Try.prog 121 #[.int .i64 s, .int .i64 t] w fun e w' => e = .returned (.int .i64 (bits .and .i64 s t)) ∧ w' = w := by
  go_enter Try.func121, Try.ntmps121
  go_wp2
  go_ret
  exact ⟨rfl, rfl⟩
theorem setOr_bits (s t : Int) (w : World) :
    Calls Try.prog 117 #[.int .i64 s, .int .i64 t] w fun e w' => e = .returned (.int .i64 (bits .or .i64 s t)) ∧ w' = w := by
  go_enter Try.func117, Try.ntmps117
  go_wp2
  go_ret
  exact ⟨rfl, rfl⟩
theorem count_any (a : Option Addr) (n c : Nat) (w : World) :
    Calls Try.prog 83 #[.slice a n c] w fun e w' => e = .returned (.int .i64 (n : Int)) ∧ w' = w := by
  go_enter Try.func83, Try.ntmps83
  go_wp2
  go_ret
  exact ⟨rfl, rfl⟩
theorem evD_cases (d : Dd) : (d.1 = 3 ∧ evD d = 2) ∨ (d.1 = 1 ∧ evD d = 1) ∨ (d.1 = 2 ∧ evD d = 1) ∨ (¬ d.1 = 3 ∧ ¬ d.1 = 1 ∧ ¬ d.1 = 2 ∧ evD d = 0) := by
  unfold evD
  repeat' split
  all_goals omega
set_option maxRecDepth 100000 in
set_option maxHeartbeats 2000000 in
theorem events_any (w : World) (v : Value) (ds : List Dd) (h : RdD w v ds) (hx : ds.length ≤ 1048576) :
    Calls Try.prog 84 #[v] w fun e w' => e = .returned (.int .i64 (evK ds ds.length)) ∧ Keep w w' := by
  obtain ⟨a, c, rfl, h⟩ := h
  go_enter Try.func84, Try.ntmps84
  go_wp2
  go_loopw [3, 8] (fun n i wr => ∃ k : Nat, ∃ m : Int, k ≤ ds.length ∧ n = .int .i64 m ∧ i = .int .i64 k ∧ Hid (m = evK ds k) ∧ 0 ≤ m ∧ m ≤ 2 * k ∧ Keep w wr) (fun _ i _ => ds.length - (intOf i).toNat)
  case atStart => exact ⟨0, 0, Nat.zero_le _, rfl, rfl, Lib.hid rfl, by omega, by omega, Keep.refl _⟩
  case round =>
    obtain ⟨k, m, hk, rfl, rfl, hm, m0, m1, hK⟩ := hrel
    by_cases hlt : k < ds.length
    · rcases h with h | ⟨b, o, rfl, hb, hc⟩
      · exfalso; rw [h] at hlt; simp at hlt
      obtain ⟨A0, A1, A2, A3⟩ := (hc k hlt).keep hb hK
      clear hc
      have HE : Hid (m + evD (ds.getD k zD) = evK ds (k + 1)) := Lib.hid (by rw [evK, hm.out])
      have CS := evD_cases (ds.getD k zD)
      clear hm
      obtain ⟨d, hd⟩ : ∃ d, d = ds.getD k zD := ⟨_, rfl⟩
      rw [← hd] at A0 A1 A2 A3 HE CS
      clear hd
      obtain ⟨x0, x1, x2, x3⟩ := d
      simp only at A0 A1 A2 A3 CS
      have hbw : b < wr.heap.size := Nat.lt_of_lt_of_le hb hK.size
      have i1 : (0 : Int) ≤ (k : Int) := Int.natCast_nonneg _
      have i2 : (k : Int) < (ds.length : Int) := by omega
      rcases CS with ⟨rfl, e⟩ | ⟨rfl, e⟩ | ⟨rfl, e⟩ | ⟨n3, n1, n2, e⟩
      · rw [e] at HE
        clear e
        go_wp2
        go_roundw
        case rel => exact ⟨k + 1, m + 2, by omega, by go_num, by go_num, HE, by omega, by omega, hK.alloc _⟩
        case measure => simp [intOf]; omega
      · rw [e] at HE
        clear e
        go_wp2
        go_roundw
        case rel => exact ⟨k + 1, m + 1, by omega, by go_num, by go_num, HE, by omega, by omega, hK.alloc _⟩
        case measure => simp [intOf]; omega
      · rw [e] at HE
        clear e
        go_wp2
        go_roundw
        case rel => exact ⟨k + 1, m + 1, by omega, by go_num, by go_num, HE, by omega, by omega, hK.alloc _⟩
        case measure => simp [intOf]; omega
      · rw [e, Int.add_zero] at HE
        clear e
        have e3 : (x0 == 3) = false := by simp [n3]
        have e1 : (x0 == 1) = false := by simp [n1]
        have e2 : (x0 == 2) = false := by simp [n2]
        clear n3 n1 n2
        go_wp2
        go_roundw
        case rel => exact ⟨k + 1, m, by omega, by go_num, by go_num, HE, by omega, by omega, hK.alloc _⟩
        case measure => simp [intOf]; omega
    · obtain rfl : k = ds.length := by omega
      go_wp2
      go_ret
      exact ⟨by rw [hm.out]; rfl, hK⟩
set_option maxRecDepth 100000 in
set_option maxHeartbeats 2000000 in
theorem groups_any (w : World) (v : Value) (ds : List Dd) (h : RdD w v ds) (hx : ds.length ≤ 1048576) :
    Calls Try.prog 118 #[v] w fun e w' => e = .returned (.int .i64 (gC ds)) ∧ Keep w w' := by
  obtain ⟨a, c, rfl, h⟩ := h
  go_enter Try.func118, Try.ntmps118
  go_wp2
  go_loopw [3, 8] (fun n i wr => ∃ k : Nat, ∃ m : Int, k ≤ ds.length ∧ n = .int .i64 m ∧ i = .int .i64 k ∧ Hid (m = gK ds k) ∧ Keep w wr) (fun _ i _ => ds.length - (intOf i).toNat)
  case atStart => exact ⟨0, 0, Nat.zero_le _, rfl, rfl, Lib.hid rfl, Keep.refl _⟩
  case round =>
    obtain ⟨k, m, hk, rfl, rfl, hm, hK⟩ := hrel
    by_cases hlt : k < ds.length
    · rcases h with h | ⟨b, o, rfl, hb, hc⟩
      · exfalso; rw [h] at hlt; simp at hlt
      obtain ⟨A0, A1, A2, A3⟩ := (hc k hlt).keep hb hK
      clear hc
      have HE : Hid (gK ds (k + 1) = if grD (ds.getD k zD) = 0 then m else gAdd m (grD (ds.getD k zD))) := Lib.hid (by rw [gK, hm.out])
      clear hm
      obtain ⟨d, hd⟩ : ∃ d, d = ds.getD k zD := ⟨_, rfl⟩
      rw [← hd] at A0 A1 A2 A3 HE
      clear hd
      obtain ⟨x0, x1, x2, x3⟩ := d
      unfold grD at HE
      simp only at A0 A1 A2 A3 HE
      have hbw : b < wr.heap.size := Nat.lt_of_lt_of_le hb hK.size
      have i1 : (0 : Int) ≤ (k : Int) := Int.natCast_nonneg _
      have i2 : (k : Int) < (ds.length : Int) := by omega
      by_cases h0 : x3 = 0
      · subst h0
        go_wp2
        go_roundw
        case rel => exact ⟨k + 1, m, by omega, by go_num, by go_num, Lib.hid (by rw [HE.out, if_pos rfl]), hK.alloc _⟩
        case measure => simp [intOf]; omega
      · have e0 : (x3 != 0) = true := by simp [h0]
        have HF : Hid (gK ds (k + 1) = gAdd m x3) := Lib.hid (by rw [HE.out, if_neg h0])
        clear h0 HE
        go_wp2_with fail
        refine (with_any _ _ _).mono ?_
        rintro e wz ⟨rfl, rfl⟩
        go_wp2
        go_roundw
        case rel => exact ⟨k + 1, _, by omega, rfl, by go_num, Lib.hid HF.out.symm, hK.alloc _⟩
        case measure => simp [intOf]; omega
    · obtain rfl : k = ds.length := by omega
      go_wp2
      go_ret
      exact ⟨by rw [hm.out]; rfl, hK⟩
theorem all_moreC {α : Type} {f : α → Bool} {l : List α} {k : Nat} (z : α) (h : k < l.length) (h1 : (l.take k).all f = true) (h2 : f (l.getD k z) = true) : (l.take (k + 1)).all f = true := by
  rw [List.take_add_one, List.getElem?_eq_getElem h, List.all_append, h1]
  rw [List.getD_eq_getElem?_getD, List.getElem?_eq_getElem h] at h2
  simpa using h2
set_option maxRecDepth 100000 in
set_option maxHeartbeats 2000000 in
theorem areRight_any (w : World) (v : Value) (ds : List Dd) (h : RdD w v ds) (hx : ds.length ≤ 1048576) :
    Calls Try.prog 119 #[v] w fun e w' => e = .returned (.bool (ds.all okD)) ∧ Keep w w' := by
  obtain ⟨a, c, rfl, h⟩ := h
  go_enter Try.func119, Try.ntmps119
  go_wp2
  go_loopw [7] (fun i wr => ∃ k : Nat, k ≤ ds.length ∧ i = .int .i64 k ∧ Hid ((ds.take k).all okD = true) ∧ Keep w wr) (fun i _ => ds.length - (intOf i).toNat)
  case atStart => exact ⟨0, Nat.zero_le _, rfl, Lib.hid (by simp), Keep.refl _⟩
  case round =>
    obtain ⟨k, hk, rfl, hm, hK⟩ := hrel
    by_cases hlt : k < ds.length
    · rcases h with h | ⟨b, o, rfl, hb, hc⟩
      · exfalso; rw [h] at hlt; simp at hlt
      obtain ⟨A0, A1, A2, A3⟩ := (hc k hlt).keep hb hK
      clear hc
      have HT : okD (ds.getD k zD) = true → Hid ((ds.take (k + 1)).all okD = true) := fun e => Lib.hid (all_moreC zD hlt hm.out e)
      have HF : okD (ds.getD k zD) = false → Hid (ds.all okD = false) := fun e => Lib.hid (all_not zD k hlt e)
      clear hm
      obtain ⟨d, hd⟩ : ∃ d, d = ds.getD k zD := ⟨_, rfl⟩
      rw [← hd] at A0 A1 A2 A3 HT HF
      clear hd
      obtain ⟨x0, x1, x2, x3⟩ := d
      simp only at A0 A1 A2 A3
      have hbw : b < wr.heap.size := Nat.lt_of_lt_of_le hb hK.size
      have i1 : (0 : Int) ≤ (k : Int) := Int.natCast_nonneg _
      have i2 : (k : Int) < (ds.length : Int) := by omega
      cases hd : deedB x0 x1 x2 x3
      · have HE := HF hd
        clear HT HF
        go_wp2_with fail
        refine (implDeedOk_any _ _ _ _ _).mono ?_
        rintro e wz ⟨rfl, kk⟩
        go_wp2
        go_ret
        exact ⟨by rw [HE.out]; rfl, (hK.alloc _).trans kk⟩
      · have HE := HT hd
        clear HT HF
        go_wp2_with fail
        refine (implDeedOk_any _ _ _ _ _).mono ?_
        rintro e wz ⟨rfl, kk⟩
        go_wp2
        go_roundw
        case rel => exact ⟨k + 1, by omega, by go_num, HE, (hK.alloc _).trans kk⟩
        case measure => simp [intOf]; omega
    · obtain rfl : k = ds.length := by omega
      rw [List.take_length] at hm
      go_wp2
      go_ret
      exact ⟨by rw [hm.out]; rfl, hK⟩
end Go.Proofs.Ytgolhjmbloiakaa

/- Contract of the program's areTogether: no Group begins a second time. -/
namespace Go.Proofs.Ytgolhjmbloiakaa
open Go.ChangeShapes Go.WideShapes Go.ChangeAt Go.RowKit

abbrev boxD (x0 x1 x2 x3 : Int) : Obj := .cells #[.int .i64 x0, .int .i64 x1, .int .i64 x2, .int .i64 x3] 92
theorem RdD.cut {w : World} {b o : Nat} {ds : List Dd} {c k : Nat} (hk : k ≤ ds.length) (hb : b < w.heap.size) (hc : ∀ i, i < ds.length → AtD w b (o + i * 4) (ds.getD i zD)) :
    RdD w (.slice (some ⟨b, o, none⟩) k (ds.length + c)) (ds.take k) := by
  refine ⟨some ⟨b, o, none⟩, ds.length + c - k, ?_, .inr ⟨b, o, rfl, hb, fun i hi => ?_⟩⟩
  · rw [List.length_take, Nat.min_eq_left hk]
    congr 1
    omega
  · rw [List.length_take] at hi
    rw [take_getD ds k i zD (by omega)]
    exact hc i (by omega)
theorem tog_on {ds : List Dd} {k : Nat} (h : togK ds k = true) (hp : partK ds k = false) : togK ds (k + 1) = true := by rw [togK, h, hp]; rfl
theorem tog_off {ds : List Dd} {k : Nat} (hk : k < ds.length) (hp : partK ds k = true) : togK ds ds.length = false := by
  refine togK_false (k := k + 1) ?_ _ hk
  rw [togK, hp]; simp
set_option maxRecDepth 100000 in
set_option maxHeartbeats 4000000 in
theorem areTogether_any (w : World) (v : Value) (ds : List Dd) (h : RdD w v ds) (hx : ds.length ≤ 1048576) :
    Calls Try.prog 120 #[v] w fun e w' => e = .returned (.bool (togK ds ds.length)) ∧ Keep w w' := by
  obtain ⟨a, c, rfl, h⟩ := h
  go_enter Try.func120, Try.ntmps120
  go_wp2
  go_loopw [3, 7] (fun j i wr => ∃ k : Nat, k ≤ ds.length ∧ i = .int .i64 k ∧ Hid (togK ds k = true) ∧ Keep w wr) (fun _ i _ => ds.length - (intOf i).toNat)
  case atStart => exact ⟨0, Nat.zero_le _, rfl, Lib.hid rfl, Keep.refl _⟩
  case round =>
    obtain ⟨k, hk, rfl, hm, hK⟩ := hrel
    by_cases hlt : k < ds.length
    · rcases h with h | ⟨b, o, rfl, hb, hc⟩
      · exfalso; rw [h] at hlt; simp at hlt
      obtain ⟨A0, A1, A2, A3⟩ := (hc k hlt).keep hb hK
      have hbw : b < wr.heap.size := Nat.lt_of_lt_of_le hb hK.size
      have i1 : (0 : Int) ≤ (k : Int) := Int.natCast_nonneg _
      have i2 : (k : Int) < (ds.length : Int) := by omega
      have HP : Hid (partK ds k = (decide (0 < k) && (grD (ds.getD k zD) != grD (ds.getD (k - 1) zD)) && inSetB (gK ds k) (grD (ds.getD k zD)))) := Lib.hid rfl
      by_cases h0 : k = 0
      · have HT := Lib.hid (tog_on hm.out (by rw [HP.out]; simp [h0]))
        have d0 : decide (0 < k) = false := by simp [h0]
        clear hm HP hc
        obtain ⟨d, hd⟩ : ∃ d, d = ds.getD k zD := ⟨_, rfl⟩
        rw [← hd] at A0 A1 A2 A3
        clear hd h0
        obtain ⟨x0, x1, x2, x3⟩ := d
        simp only at A0 A1 A2 A3
        go_wp2
        go_quiet (fail)
        go_wp2
        go_roundw
        case rel => exact ⟨k + 1, by omega, by go_num, HT, (hK.alloc _).drewN _⟩
        case measure => simp [intOf]; omega
      · obtain ⟨r, rfl⟩ : ∃ r : Nat, k = r + 1 := ⟨k - 1, by omega⟩
        rw [Nat.add_sub_cancel] at HP
        have B3 := ((hc r (by omega)).keep hb hK).2.2.2
        have RT : RdD w (.slice (some ⟨b, o, none⟩) (r + 1) (ds.length + c)) (ds.take (r + 1)) := RdD.cut (by omega) hb hc
        have HG := Lib.hid (gC_take ds (r + 1) (by omega))
        have HL := Lib.hid (show (ds.take (r + 1)).length = r + 1 by rw [List.length_take]; omega)
        clear hc
        have j1 : (0 : Int) ≤ (r : Int) := Int.natCast_nonneg _
        have j2 : (r : Int) < (ds.length : Int) := by omega
        have d2 : (r : Int) + 1 < (ds.length : Int) := by omega
        have d5 : (r : Int) + 1 ≤ (ds.length : Int) + (c : Int) := by omega
        have d6 : (0 : Int) ≤ (r : Int) + 1 := by omega
        have d7 : ((r + 1 : Nat) : Int) ≤ ((ds.length + c : Nat) : Int) := by omega
        have d3 : IntKind.i64.wrap (r : Int) = (r : Int) := by rw [IntKind.wrap_i64]; omega
        have d4 : wrap64 (r : Int) = (r : Int) := wrap64_small _ (by omega) (by omega)
        obtain ⟨d, hd⟩ : ∃ d, d = ds.getD (r + 1) zD := ⟨_, rfl⟩
        rw [← hd] at A0 A1 A2 A3 HP
        clear hd
        obtain ⟨p, hp⟩ : ∃ p, p = (ds.getD r zD).2.2.2 := ⟨_, rfl⟩
        rw [← hp] at B3
        have HQ : Hid (grD (ds.getD r zD) = p) := Lib.hid (by rw [hp]; rfl)
        clear hp
        rw [HQ.out] at HP
        clear HQ
        obtain ⟨x0, x1, x2, x3⟩ := d
        unfold grD at HP
        simp only at A0 A1 A2 A3 HP
        by_cases he : x3 = p
        · subst he
          have HT := Lib.hid (tog_on hm.out (by rw [HP.out]; simp))
          have ne : (x3 != x3) = false := by simp
          clear HP hm
          go_wp2
          go_quiet (fail)
          go_wp2
          go_roundw
          case rel => exact ⟨r + 1 + 1, by omega, by go_num, HT, (hK.alloc _).drewN _⟩
          case measure => simp [intOf]; omega
        · have ne : (x3 != p) = true := by simp [he]
          clear he
          cases hin : inSetB (gK ds (r + 1)) x3
          · have HT := Lib.hid (tog_on hm.out (by rw [HP.out, hin]; simp))
            clear HP hm
            go_wp2
            have KK : Keep w ((wr.alloc (boxD x0 x1 x2 x3)).drew) := (hK.alloc _).drew
            have z1 : wr.heap.size < ((wr.alloc (boxD x0 x1 x2 x3)).drew).heap.size := by rw [heap_drew, heap_size]; omega
            have z2 : b < ((wr.alloc (boxD x0 x1 x2 x3)).drew).heap.size := by rw [heap_drew, heap_size]; omega
            go_region_held3 (fun w' => w'.cell? ⟨wr.heap.size, 3, none⟩ = some (.int .i64 x3) ∧ w'.cell? ⟨b, o + r * 4 + 3, none⟩ = some (.int .i64 p))
              (first | go_keep | (go_split_ands; refine ⟨?_, ?_⟩ <;> (rw [kk.cell (by assumption)]; assumption)))
              ((first
                | (go_at_call 118; refine (groups_any _ _ _ (RT.keep KK) (by rw [HL.out]; omega)).mono ?_; rw [HG.out]; rintro e wz ⟨rfl, kk⟩; have KK := KK.trans kk; have z1 := Nat.lt_of_lt_of_le z1 kk.size; have z2 := Nat.lt_of_lt_of_le z2 kk.size)
                | (go_at_call 128; refine (has_any _ _ _).mono ?_; rintro e wy ⟨rfl, rfl⟩)))
            all_goals
              go_wp2
              go_roundw
              case rel => exact ⟨r + 1 + 1, by omega, by go_num, HT, KK⟩
              case measure => simp [intOf]; omega
          · have HT := Lib.hid (tog_off hlt (by rw [HP.out, hin, ne]; simp))
            clear HP hm
            go_wp2
            have KK : Keep w ((wr.alloc (boxD x0 x1 x2 x3)).drew) := (hK.alloc _).drew
            have z1 : wr.heap.size < ((wr.alloc (boxD x0 x1 x2 x3)).drew).heap.size := by rw [heap_drew, heap_size]; omega
            have z2 : b < ((wr.alloc (boxD x0 x1 x2 x3)).drew).heap.size := by rw [heap_drew, heap_size]; omega
            go_region_held3 (fun w' => w'.cell? ⟨wr.heap.size, 3, none⟩ = some (.int .i64 x3) ∧ w'.cell? ⟨b, o + r * 4 + 3, none⟩ = some (.int .i64 p))
              (first | go_keep | (go_split_ands; refine ⟨?_, ?_⟩ <;> (rw [kk.cell (by assumption)]; assumption)))
              ((first
                | (go_at_call 118; refine (groups_any _ _ _ (RT.keep KK) (by rw [HL.out]; omega)).mono ?_; rw [HG.out]; rintro e wz ⟨rfl, kk⟩; have KK := KK.trans kk; have z1 := Nat.lt_of_lt_of_le z1 kk.size; have z2 := Nat.lt_of_lt_of_le z2 kk.size)
                | (go_at_call 128; refine (has_any _ _ _).mono ?_; rintro e wy ⟨rfl, rfl⟩)))
            all_goals
              go_wp2
              go_ret
              exact ⟨by rw [HT.out]; rfl, KK⟩
    · obtain rfl : k = ds.length := by omega
      go_wp2
      go_ret
      exact ⟨by rw [hm.out]; rfl, hK⟩
end Go.Proofs.Ytgolhjmbloiakaa

/- A region that draws its order, walked by hand: one operation taken first, or passed by where its guard is false; the slot that it fills is named. -/
namespace Go.Proofs.Ytgolhjmbloiakaa
open Go

section
variable {P : Program} {md : Region.Mode} {ops : Array Oper} {Q : Exit → Act → World → Prop} {S : World → Prop}
theorem takeH (i d : Nat) {oi : Oper} {v : Value} {fuel : Nat} {listed : Array Bool} {a : Act} {w : World} (hi : ops[i]? = some oi) (hd : oi.dst = some d)
    (hs : Region.noSelect ops = true) (hf : Region.free md ops listed i = true) (hr : (Region.ready md ops listed).contains i = true)
    (hQ : ∀ c a w, Q (.panic c) (a.put (some d) v) w → Q (.panic c) a w) (hw : Region.wanted oi (yielded ops a.tmps) = true) (hy : ∀ w, S w → (execOp a.eval oi).run P w = .ok (.value v) w) (hS : S w)
    (h : wpAnyH P md ops Q S fuel (listed.setIfInBounds i true) (a.put (some d) v) w) : wpAnyH P md ops Q S (fuel + 1) listed a w := by
  rw [← hd] at hQ h
  exact wpAnyH_take hi hs hf hr hQ (Or.inl ⟨hw, hy⟩) hS h
theorem skipH (i d : Nat) {oi : Oper} {fuel : Nat} {listed : Array Bool} {a : Act} {w : World} (hi : ops[i]? = some oi) (hd : oi.dst = some d)
    (hs : Region.noSelect ops = true) (hf : Region.free md ops listed i = true) (hr : (Region.ready md ops listed).contains i = true)
    (hQ : ∀ c a w, Q (.panic c) (a.put (some d) undef) w → Q (.panic c) a w) (hw : Region.wanted oi (yielded ops a.tmps) = false) (hS : S w)
    (h : wpAnyH P md ops Q S fuel (listed.setIfInBounds i true) (a.put (some d) undef) w) : wpAnyH P md ops Q S (fuel + 1) listed a w := by
  rw [← hd] at hQ h
  exact wpAnyH_take hi hs hf hr hQ (Or.inr ⟨hw, rfl⟩) hS h
end
end Go.Proofs.Ytgolhjmbloiakaa

/- Contracts of the program's clerks: isRight, clerksOf. -/
namespace Go.Proofs.Ytgolhjmbloiakaa
open Go.ChangeShapes Go.WideShapes Go.ChangeAt Go.RowKit

abbrev boxC (v : Value) (t : Int) : Obj := .cells #[v, .int .i64 t] 105
theorem right_true {ds : List Dd} {t : Int} (h5 : ds.length ≤ 5) (ha : ds.all okD = true) (ht : togK ds ds.length = true) (h0 : (bits .and .i64 (gC ds) t == 0) = true) : rightB ds t = true := by
  rw [rightB, decide_eq_true h5, ha, ht, h0]; rfl
set_option maxRecDepth 100000 in
set_option maxHeartbeats 8000000 in
theorem isRight_any (w : World) (v : Value) (t : Int) (ds : List Dd) (h : RdD w v ds) (hx : ds.length ≤ 1048576) :
    Calls Try.prog 82 #[.agg #[v, .int .i64 t]] w fun e w' => e = .returned (.bool (rightB ds t)) ∧ Keep w w' := by
  have KK : Keep w ((w.alloc (boxC v t)).drew) := ((Keep.refl w).alloc _).drew
  have z1 : w.heap.size < ((w.alloc (boxC v t)).drew).heap.size := by rw [heap_drew, heap_size]; omega
  obtain ⟨a, c, hv, -⟩ := id h
  subst hv
  by_cases h5 : ds.length ≤ 5
  · have e5 : decide (ds.length ≤ 5) = true := decide_eq_true h5
    have e5' : decide ((ds.length : Int) ≤ 5) = true := decide_eq_true (by omega)
    have g5 : (ds.length : Int) ≤ 5 := by omega
    cases ha : ds.all okD
    · have HE : Hid (rightB ds t = false) := Lib.hid (by rw [rightB, ha]; simp)
      go_enter Try.func82, Try.ntmps82
      go_wp2
      refine wp_region_held_drew (S := (fun w' => w'.cell? ⟨w.heap.size, 0, none⟩ = some (.slice a ds.length (ds.length + c)) ∧ w'.cell? ⟨w.heap.size, 1, none⟩ = some (.int .i64 t))) (by kernel_rfl) ?_ (fun hHeld => ?_)
      · go_keep
      refine takeH 0 3 (v := ?_) rfl rfl (by kernel_rfl) (by kernel_rfl) (by kernel_rfl) (fun _ _ _ h => h) (by rfl) ?_ (by assumption) ?_
      rotate_left
      · intro wx hSw
        try dsimp only at hSw
        go_simp
        with_reducible rfl
      simp only [Act.put, List.setIfInBounds_toArray, List.set_cons_zero, List.set_cons_succ]
      refine takeH 1 4 (v := ?_) rfl rfl (by kernel_rfl) (by kernel_rfl) (by kernel_rfl) (fun _ _ _ h => h) (by rfl) ?_ (by assumption) ?_
      rotate_left
      · intro wx hSw
        try dsimp only at hSw
        go_simp
        with_reducible rfl
      simp only [Act.put, List.setIfInBounds_toArray, List.set_cons_zero, List.set_cons_succ]
      refine wpAnyH_ready (rs := [2]) (by kernel_rfl) (by simp) ?_
      refine AllReadyH.cons rfl (fun K hK => ?_) AllReadyH.nil
      go_simp
      refine (count_any _ _ _ _).mono ?_
      rintro e wz ⟨rfl, rfl⟩
      go_wp2_with fail
      refine hK.out _ _ ?_ (fun hHeld => ?_)
      · exact hHeld
      clear hK K
      refine takeH 3 6 (v := ?_) rfl rfl (by kernel_rfl) (by kernel_rfl) (by kernel_rfl) (fun _ _ _ h => h) (by rfl) ?_ (by assumption) ?_
      rotate_left
      · intro wx hSw
        try dsimp only at hSw
        go_simp
        with_reducible rfl
      simp only [Act.put, List.setIfInBounds_toArray, List.set_cons_zero, List.set_cons_succ]
      refine takeH 4 7 (v := ?_) rfl rfl (by kernel_rfl) (by kernel_rfl) (by kernel_rfl) (fun _ _ _ h => h) (by rfl) ?_ (by assumption) ?_
      rotate_left
      · intro wx hSw
        try dsimp only at hSw
        go_simp
        with_reducible rfl
      simp only [Act.put, List.setIfInBounds_toArray, List.set_cons_zero, List.set_cons_succ]
      refine takeH 5 8 (v := ?_) rfl rfl (by kernel_rfl) (by kernel_rfl) (by kernel_rfl) (fun _ _ _ h => h) (by rfl) ?_ (by assumption) ?_
      rotate_left
      · intro wx hSw
        try dsimp only at hSw
        go_simp
        with_reducible rfl
      simp only [Act.put, List.setIfInBounds_toArray, List.set_cons_zero, List.set_cons_succ]
      refine takeH 6 9 (v := ?_) rfl rfl (by kernel_rfl) (by kernel_rfl) (by kernel_rfl) (fun _ _ _ h => h) (by rfl) ?_ (by assumption) ?_
      rotate_left
      · intro wx hSw
        try dsimp only at hSw
        go_simp
        with_reducible rfl
      simp only [Act.put, List.setIfInBounds_toArray, List.set_cons_zero, List.set_cons_succ]
      refine wpAnyH_ready (rs := [7]) (by kernel_rfl) (by simp) ?_
      refine AllReadyH.cons rfl (fun K hK => ?_) AllReadyH.nil
      go_simp
      refine (areRight_any _ _ _ (h.keep KK) hx).mono ?_
      rw [ha]
      rintro e wz1 ⟨rfl, kk⟩
      have z0 := z1
      have KK := KK.trans kk
      have z1 := Nat.lt_of_lt_of_le z1 kk.size
      go_wp2_with fail
      refine hK.out _ _ ?_ (fun hHeld => ?_)
      · exact ⟨(kk.cell z0).trans hHeld.1, (kk.cell z0).trans hHeld.2⟩
      clear hK K
      refine takeH 8 11 (v := ?_) rfl rfl (by kernel_rfl) (by kernel_rfl) (by kernel_rfl) (fun _ _ _ h => h) (by rfl) ?_ (by assumption) ?_
      rotate_left
      · intro wx hSw
        try dsimp only at hSw
        go_simp
        with_reducible rfl
      simp only [Act.put, List.setIfInBounds_toArray, List.set_cons_zero, List.set_cons_succ]
      refine takeH 9 12 (v := ?_) rfl rfl (by kernel_rfl) (by kernel_rfl) (by kernel_rfl) (fun _ _ _ h => h) (by rfl) ?_ (by assumption) ?_
      rotate_left
      · intro wx hSw
        try dsimp only at hSw
        go_simp
        with_reducible rfl
      simp only [Act.put, List.setIfInBounds_toArray, List.set_cons_zero, List.set_cons_succ]
      refine skipH 10 13 rfl rfl (by kernel_rfl) (by kernel_rfl) (by kernel_rfl) (fun _ _ _ h => h) (by rfl) (by assumption) ?_
      simp only [Act.put, List.setIfInBounds_toArray, List.set_cons_zero, List.set_cons_succ]
      refine skipH 11 14 rfl rfl (by kernel_rfl) (by kernel_rfl) (by kernel_rfl) (fun _ _ _ h => h) (by rfl) (by assumption) ?_
      simp only [Act.put, List.setIfInBounds_toArray, List.set_cons_zero, List.set_cons_succ]
      refine skipH 12 15 rfl rfl (by kernel_rfl) (by kernel_rfl) (by kernel_rfl) (fun _ _ _ h => h) (by rfl) (by assumption) ?_
      simp only [Act.put, List.setIfInBounds_toArray, List.set_cons_zero, List.set_cons_succ]
      refine takeH 13 16 (v := ?_) rfl rfl (by kernel_rfl) (by kernel_rfl) (by kernel_rfl) (fun _ _ _ h => h) (by rfl) ?_ (by assumption) ?_
      rotate_left
      · intro wx hSw
        try dsimp only at hSw
        go_simp
        with_reducible rfl
      simp only [Act.put, List.setIfInBounds_toArray, List.set_cons_zero, List.set_cons_succ]
      refine takeH 14 17 (v := ?_) rfl rfl (by kernel_rfl) (by kernel_rfl) (by kernel_rfl) (fun _ _ _ h => h) (by rfl) ?_ (by assumption) ?_
      rotate_left
      · intro wx hSw
        try dsimp only at hSw
        go_simp
        with_reducible rfl
      simp only [Act.put, List.setIfInBounds_toArray, List.set_cons_zero, List.set_cons_succ]
      refine skipH 15 18 rfl rfl (by kernel_rfl) (by kernel_rfl) (by kernel_rfl) (fun _ _ _ h => h) (by rfl) (by assumption) ?_
      simp only [Act.put, List.setIfInBounds_toArray, List.set_cons_zero, List.set_cons_succ]
      refine skipH 16 19 rfl rfl (by kernel_rfl) (by kernel_rfl) (by kernel_rfl) (fun _ _ _ h => h) (by rfl) (by assumption) ?_
      simp only [Act.put, List.setIfInBounds_toArray, List.set_cons_zero, List.set_cons_succ]
      refine skipH 17 20 rfl rfl (by kernel_rfl) (by kernel_rfl) (by kernel_rfl) (fun _ _ _ h => h) (by rfl) (by assumption) ?_
      simp only [Act.put, List.setIfInBounds_toArray, List.set_cons_zero, List.set_cons_succ]
      refine skipH 18 21 rfl rfl (by kernel_rfl) (by kernel_rfl) (by kernel_rfl) (fun _ _ _ h => h) (by rfl) (by assumption) ?_
      simp only [Act.put, List.setIfInBounds_toArray, List.set_cons_zero, List.set_cons_succ]
      refine skipH 19 22 rfl rfl (by kernel_rfl) (by kernel_rfl) (by kernel_rfl) (fun _ _ _ h => h) (by rfl) (by assumption) ?_
      simp only [Act.put, List.setIfInBounds_toArray, List.set_cons_zero, List.set_cons_succ]
      refine skipH 20 23 rfl rfl (by kernel_rfl) (by kernel_rfl) (by kernel_rfl) (fun _ _ _ h => h) (by rfl) (by assumption) ?_
      simp only [Act.put, List.setIfInBounds_toArray, List.set_cons_zero, List.set_cons_succ]
      refine skipH 21 24 rfl rfl (by kernel_rfl) (by kernel_rfl) (by kernel_rfl) (fun _ _ _ h => h) (by rfl) (by assumption) ?_
      simp only [Act.put, List.setIfInBounds_toArray, List.set_cons_zero, List.set_cons_succ]
      refine takeH 22 25 (v := ?_) rfl rfl (by kernel_rfl) (by kernel_rfl) (by kernel_rfl) (fun _ _ _ h => h) (by rfl) ?_ (by assumption) ?_
      rotate_left
      · intro wx hSw
        try dsimp only at hSw
        go_simp
        with_reducible rfl
      simp only [Act.put, List.setIfInBounds_toArray, List.set_cons_zero, List.set_cons_succ]
      refine takeH 23 2 (v := ?_) rfl rfl (by kernel_rfl) (by kernel_rfl) (by kernel_rfl) (fun _ _ _ h => h) (by rfl) ?_ (by assumption) ?_
      rotate_left
      · intro wx hSw
        try dsimp only at hSw
        go_simp
        with_reducible rfl
      simp only [Act.put, List.setIfInBounds_toArray, List.set_cons_zero, List.set_cons_succ]
      refine wpAnyH_done (by kernel_rfl) ?_ _
      go_wp2
      go_ret
      exact ⟨by rw [HE.out]; rfl, KK⟩
    · cases ht : togK ds ds.length
      · have HE : Hid (rightB ds t = false) := Lib.hid (by rw [rightB, ht]; simp)
        go_enter Try.func82, Try.ntmps82
        go_wp2
        refine wp_region_held_drew (S := (fun w' => w'.cell? ⟨w.heap.size, 0, none⟩ = some (.slice a ds.length (ds.length + c)) ∧ w'.cell? ⟨w.heap.size, 1, none⟩ = some (.int .i64 t))) (by kernel_rfl) ?_ (fun hHeld => ?_)
        · go_keep
        refine takeH 0 3 (v := ?_) rfl rfl (by kernel_rfl) (by kernel_rfl) (by kernel_rfl) (fun _ _ _ h => h) (by rfl) ?_ (by assumption) ?_
        rotate_left
        · intro wx hSw
          try dsimp only at hSw
          go_simp
          with_reducible rfl
        simp only [Act.put, List.setIfInBounds_toArray, List.set_cons_zero, List.set_cons_succ]
        refine takeH 1 4 (v := ?_) rfl rfl (by kernel_rfl) (by kernel_rfl) (by kernel_rfl) (fun _ _ _ h => h) (by rfl) ?_ (by assumption) ?_
        rotate_left
        · intro wx hSw
          try dsimp only at hSw
          go_simp
          with_reducible rfl
        simp only [Act.put, List.setIfInBounds_toArray, List.set_cons_zero, List.set_cons_succ]
        refine wpAnyH_ready (rs := [2]) (by kernel_rfl) (by simp) ?_
        refine AllReadyH.cons rfl (fun K hK => ?_) AllReadyH.nil
        go_simp
        refine (count_any _ _ _ _).mono ?_
        rintro e wz ⟨rfl, rfl⟩
        go_wp2_with fail
        refine hK.out _ _ ?_ (fun hHeld => ?_)
        · exact hHeld
        clear hK K
        refine takeH 3 6 (v := ?_) rfl rfl (by kernel_rfl) (by kernel_rfl) (by kernel_rfl) (fun _ _ _ h => h) (by rfl) ?_ (by assumption) ?_
        rotate_left
        · intro wx hSw
          try dsimp only at hSw
          go_simp
          with_reducible rfl
        simp only [Act.put, List.setIfInBounds_toArray, List.set_cons_zero, List.set_cons_succ]
        refine takeH 4 7 (v := ?_) rfl rfl (by kernel_rfl) (by kernel_rfl) (by kernel_rfl) (fun _ _ _ h => h) (by rfl) ?_ (by assumption) ?_
        rotate_left
        · intro wx hSw
          try dsimp only at hSw
          go_simp
          with_reducible rfl
        simp only [Act.put, List.setIfInBounds_toArray, List.set_cons_zero, List.set_cons_succ]
        refine takeH 5 8 (v := ?_) rfl rfl (by kernel_rfl) (by kernel_rfl) (by kernel_rfl) (fun _ _ _ h => h) (by rfl) ?_ (by assumption) ?_
        rotate_left
        · intro wx hSw
          try dsimp only at hSw
          go_simp
          with_reducible rfl
        simp only [Act.put, List.setIfInBounds_toArray, List.set_cons_zero, List.set_cons_succ]
        refine takeH 6 9 (v := ?_) rfl rfl (by kernel_rfl) (by kernel_rfl) (by kernel_rfl) (fun _ _ _ h => h) (by rfl) ?_ (by assumption) ?_
        rotate_left
        · intro wx hSw
          try dsimp only at hSw
          go_simp
          with_reducible rfl
        simp only [Act.put, List.setIfInBounds_toArray, List.set_cons_zero, List.set_cons_succ]
        refine wpAnyH_ready (rs := [7]) (by kernel_rfl) (by simp) ?_
        refine AllReadyH.cons rfl (fun K hK => ?_) AllReadyH.nil
        go_simp
        refine (areRight_any _ _ _ (h.keep KK) hx).mono ?_
        rw [ha]
        rintro e wz1 ⟨rfl, kk⟩
        have z0 := z1
        have KK := KK.trans kk
        have z1 := Nat.lt_of_lt_of_le z1 kk.size
        go_wp2_with fail
        refine hK.out _ _ ?_ (fun hHeld => ?_)
        · exact ⟨(kk.cell z0).trans hHeld.1, (kk.cell z0).trans hHeld.2⟩
        clear hK K
        refine takeH 8 11 (v := ?_) rfl rfl (by kernel_rfl) (by kernel_rfl) (by kernel_rfl) (fun _ _ _ h => h) (by rfl) ?_ (by assumption) ?_
        rotate_left
        · intro wx hSw
          try dsimp only at hSw
          go_simp
          with_reducible rfl
        simp only [Act.put, List.setIfInBounds_toArray, List.set_cons_zero, List.set_cons_succ]
        refine takeH 9 12 (v := ?_) rfl rfl (by kernel_rfl) (by kernel_rfl) (by kernel_rfl) (fun _ _ _ h => h) (by rfl) ?_ (by assumption) ?_
        rotate_left
        · intro wx hSw
          try dsimp only at hSw
          go_simp
          with_reducible rfl
        simp only [Act.put, List.setIfInBounds_toArray, List.set_cons_zero, List.set_cons_succ]
        refine takeH 10 13 (v := ?_) rfl rfl (by kernel_rfl) (by kernel_rfl) (by kernel_rfl) (fun _ _ _ h => h) (by rfl) ?_ (by assumption) ?_
        rotate_left
        · intro wx hSw
          try dsimp only at hSw
          go_simp
          with_reducible rfl
        simp only [Act.put, List.setIfInBounds_toArray, List.set_cons_zero, List.set_cons_succ]
        refine takeH 11 14 (v := ?_) rfl rfl (by kernel_rfl) (by kernel_rfl) (by kernel_rfl) (fun _ _ _ h => h) (by rfl) ?_ (by assumption) ?_
        rotate_left
        · intro wx hSw
          try dsimp only at hSw
          go_simp
          with_reducible rfl
        simp only [Act.put, List.setIfInBounds_toArray, List.set_cons_zero, List.set_cons_succ]
        refine wpAnyH_ready (rs := [12]) (by kernel_rfl) (by simp) ?_
        refine AllReadyH.cons rfl (fun K hK => ?_) AllReadyH.nil
        go_simp
        refine (areTogether_any _ _ _ (h.keep KK) hx).mono ?_
        rw [ht]
        rintro e wz2 ⟨rfl, kk⟩
        have z0 := z1
        have KK := KK.trans kk
        have z1 := Nat.lt_of_lt_of_le z1 kk.size
        go_wp2_with fail
        refine hK.out _ _ ?_ (fun hHeld => ?_)
        · exact ⟨(kk.cell z0).trans hHeld.1, (kk.cell z0).trans hHeld.2⟩
        clear hK K
        refine takeH 13 16 (v := ?_) rfl rfl (by kernel_rfl) (by kernel_rfl) (by kernel_rfl) (fun _ _ _ h => h) (by rfl) ?_ (by assumption) ?_
        rotate_left
        · intro wx hSw
          try dsimp only at hSw
          go_simp
          with_reducible rfl
        simp only [Act.put, List.setIfInBounds_toArray, List.set_cons_zero, List.set_cons_succ]
        refine takeH 14 17 (v := ?_) rfl rfl (by kernel_rfl) (by kernel_rfl) (by kernel_rfl) (fun _ _ _ h => h) (by rfl) ?_ (by assumption) ?_
        rotate_left
        · intro wx hSw
          try dsimp only at hSw
          go_simp
          with_reducible rfl
        simp only [Act.put, List.setIfInBounds_toArray, List.set_cons_zero, List.set_cons_succ]
        refine skipH 15 18 rfl rfl (by kernel_rfl) (by kernel_rfl) (by kernel_rfl) (fun _ _ _ h => h) (by rfl) (by assumption) ?_
        simp only [Act.put, List.setIfInBounds_toArray, List.set_cons_zero, List.set_cons_succ]
        refine skipH 16 19 rfl rfl (by kernel_rfl) (by kernel_rfl) (by kernel_rfl) (fun _ _ _ h => h) (by rfl) (by assumption) ?_
        simp only [Act.put, List.setIfInBounds_toArray, List.set_cons_zero, List.set_cons_succ]
        refine skipH 17 20 rfl rfl (by kernel_rfl) (by kernel_rfl) (by kernel_rfl) (fun _ _ _ h => h) (by rfl) (by assumption) ?_
        simp only [Act.put, List.setIfInBounds_toArray, List.set_cons_zero, List.set_cons_succ]
        refine skipH 18 21 rfl rfl (by kernel_rfl) (by kernel_rfl) (by kernel_rfl) (fun _ _ _ h => h) (by rfl) (by assumption) ?_
        simp only [Act.put, List.setIfInBounds_toArray, List.set_cons_zero, List.set_cons_succ]
        refine skipH 19 22 rfl rfl (by kernel_rfl) (by kernel_rfl) (by kernel_rfl) (fun _ _ _ h => h) (by rfl) (by assumption) ?_
        simp only [Act.put, List.setIfInBounds_toArray, List.set_cons_zero, List.set_cons_succ]
        refine skipH 20 23 rfl rfl (by kernel_rfl) (by kernel_rfl) (by kernel_rfl) (fun _ _ _ h => h) (by rfl) (by assumption) ?_
        simp only [Act.put, List.setIfInBounds_toArray, List.set_cons_zero, List.set_cons_succ]
        refine skipH 21 24 rfl rfl (by kernel_rfl) (by kernel_rfl) (by kernel_rfl) (fun _ _ _ h => h) (by rfl) (by assumption) ?_
        simp only [Act.put, List.setIfInBounds_toArray, List.set_cons_zero, List.set_cons_succ]
        refine takeH 22 25 (v := ?_) rfl rfl (by kernel_rfl) (by kernel_rfl) (by kernel_rfl) (fun _ _ _ h => h) (by rfl) ?_ (by assumption) ?_
        rotate_left
        · intro wx hSw
          try dsimp only at hSw
          go_simp
          with_reducible rfl
        simp only [Act.put, List.setIfInBounds_toArray, List.set_cons_zero, List.set_cons_succ]
        refine takeH 23 2 (v := ?_) rfl rfl (by kernel_rfl) (by kernel_rfl) (by kernel_rfl) (fun _ _ _ h => h) (by rfl) ?_ (by assumption) ?_
        rotate_left
        · intro wx hSw
          try dsimp only at hSw
          go_simp
          with_reducible rfl
        simp only [Act.put, List.setIfInBounds_toArray, List.set_cons_zero, List.set_cons_succ]
        refine wpAnyH_done (by kernel_rfl) ?_ _
        go_wp2
        go_ret
        exact ⟨by rw [HE.out]; rfl, KK⟩
      · cases h0 : (bits .and .i64 (gC ds) t == 0)
        · have HE : Hid (rightB ds t = false) := Lib.hid (by rw [rightB, h0]; simp)
          go_enter Try.func82, Try.ntmps82
          go_wp2
          go_region_held3 (fun w' => w'.cell? ⟨w.heap.size, 0, none⟩ = some (.slice a ds.length (ds.length + c)) ∧ w'.cell? ⟨w.heap.size, 1, none⟩ = some (.int .i64 t))
            (first | go_keep | (go_split_ands; refine ⟨?_, ?_⟩ <;> (rw [kk.cell (by assumption)]; assumption)))
            ((first
              | (go_at_call 83; refine (count_any _ _ _ _).mono ?_; rintro e wz ⟨rfl, rfl⟩)
              | (go_at_call 119; refine (areRight_any _ _ _ (h.keep KK) hx).mono ?_; rintro e wz ⟨rfl, kk⟩; have KK := KK.trans kk; have z1 := Nat.lt_of_lt_of_le z1 kk.size)
              | (go_at_call 120; refine (areTogether_any _ _ _ (h.keep KK) hx).mono ?_; rintro e wz ⟨rfl, kk⟩; have KK := KK.trans kk; have z1 := Nat.lt_of_lt_of_le z1 kk.size)
              | (go_at_call 118; refine (groups_any _ _ _ (h.keep KK) hx).mono ?_; rintro e wz ⟨rfl, kk⟩; have KK := KK.trans kk; have z1 := Nat.lt_of_lt_of_le z1 kk.size)
              | (go_at_call 121; refine (setAnd_bits _ _ _).mono ?_; rintro e wz ⟨rfl, rfl⟩)))
          all_goals
            go_wp2
            go_ret
            exact ⟨by rw [HE.out]; rfl, KK⟩
        · have HE : Hid (rightB ds t = true) := Lib.hid (right_true h5 ha ht h0)
          go_enter Try.func82, Try.ntmps82
          go_wp2
          go_region_held3 (fun w' => w'.cell? ⟨w.heap.size, 0, none⟩ = some (.slice a ds.length (ds.length + c)) ∧ w'.cell? ⟨w.heap.size, 1, none⟩ = some (.int .i64 t))
            (first | go_keep | (go_split_ands; refine ⟨?_, ?_⟩ <;> (rw [kk.cell (by assumption)]; assumption)))
            ((first
              | (go_at_call 83; refine (count_any _ _ _ _).mono ?_; rintro e wz ⟨rfl, rfl⟩)
              | (go_at_call 119; refine (areRight_any _ _ _ (h.keep KK) hx).mono ?_; rintro e wz ⟨rfl, kk⟩; have KK := KK.trans kk; have z1 := Nat.lt_of_lt_of_le z1 kk.size)
              | (go_at_call 120; refine (areTogether_any _ _ _ (h.keep KK) hx).mono ?_; rintro e wz ⟨rfl, kk⟩; have KK := KK.trans kk; have z1 := Nat.lt_of_lt_of_le z1 kk.size)
              | (go_at_call 118; refine (groups_any _ _ _ (h.keep KK) hx).mono ?_; rintro e wz ⟨rfl, kk⟩; have KK := KK.trans kk; have z1 := Nat.lt_of_lt_of_le z1 kk.size)
              | (go_at_call 121; refine (setAnd_bits _ _ _).mono ?_; rintro e wz ⟨rfl, rfl⟩)))
          all_goals
            go_wp2
            go_ret
            exact ⟨by rw [HE.out]; rfl, KK⟩
  · have e5 : decide (ds.length ≤ 5) = false := decide_eq_false h5
    have e5' : decide ((ds.length : Int) ≤ 5) = false := decide_eq_false (by omega)
    have HE : Hid (rightB ds t = false) := Lib.hid (by rw [rightB, e5]; rfl)
    go_enter Try.func82, Try.ntmps82
    go_wp2
    go_quiet ((go_at_call 83; exact Calls.quiet_of_same (count_any _ _ _ _)))
    go_wp2
    go_ret
    exact ⟨by rw [HE.out]; rfl, ((Keep.refl w).alloc _).drewN _⟩
end Go.Proofs.Ytgolhjmbloiakaa

/- Contract of the program's clerksOf: a new list of clerks, each with its deeds and the Groups of those ahead. -/
namespace Go.Proofs.Ytgolhjmbloiakaa
open Go.ChangeShapes Go.WideShapes Go.ChangeAt Go.RowKit

theorem Try.infoC : (Try.prog.info? 105).map (fun i => (i.zero, i.size, i.bytes)) = some (some (.agg #[.slice none 0 0, .int .i64 0]), 2, 32) := by kernel_rfl
abbrev boxC2 (v : Value) (t : Int) : Obj := .cells #[v, .int .i64 t] 105
/-- Clerks that can be read. -/
def RdC (w : World) (v : Value) (dss : List (List Dd)) : Prop :=
  ∃ (a : Option Addr) (cap : Nat), v = .slice a dss.length cap ∧
    (dss = [] ∨ ∃ b, a = some ⟨b, 0, none⟩ ∧ b < w.heap.size ∧ ∀ i, i < dss.length → ∃ vi, w.cell? ⟨b, i * 2, none⟩ = some vi ∧ RdD w vi (dss.getD i []) ∧ w.cell? ⟨b, i * 2 + 1, none⟩ = some (.int .i64 (takW dss i)))
theorem RdC.keep {w w' : World} {v : Value} {dss : List (List Dd)} (h : RdC w v dss) (k : Keep w w') : RdC w' v dss := by
  obtain ⟨a, cap, hv, h⟩ := h
  refine ⟨a, cap, hv, ?_⟩
  rcases h with h | ⟨b, ha, hb, hc⟩
  · exact .inl h
  · refine .inr ⟨b, ha, Nat.lt_of_lt_of_le hb k.size, fun i hi => ?_⟩
    obtain ⟨vi, h1, h2, h3⟩ := hc i hi
    exact ⟨vi, (k.cell hb).trans h1, h2.keep k, (k.cell hb).trans h3⟩
def cellC (V : Nat → Value) (dss : List (List Dd)) (k : Nat) : List Value := (List.range k).flatMap fun i => [V i, .int .i64 (takW dss i)]
theorem cellC_more (V : Nat → Value) (dss : List (List Dd)) (k : Nat) : cellC V dss (k + 1) = cellC V dss k ++ [V k, .int .i64 (takW dss k)] := by
  unfold cellC; rw [List.range_succ, List.flatMap_append]; simp
theorem cellC_len (V : Nat → Value) (dss : List (List Dd)) : ∀ k, (cellC V dss k).length = k * 2
  | 0 => rfl
  | k + 1 => by rw [cellC_more, List.length_append, cellC_len V dss k]; simp; omega
theorem cellC_at (V : Nat → Value) (dss : List (List Dd)) : ∀ k i, i < k → (cellC V dss k)[i * 2]? = some (V i) ∧ (cellC V dss k)[i * 2 + 1]? = some (.int .i64 (takW dss i))
  | 0, i, h => by omega
  | k + 1, i, h => by
    rw [cellC_more]
    by_cases e : i < k
    · have ih := cellC_at V dss k i e
      have hl := cellC_len V dss k
      rw [List.getElem?_append_left (by omega), List.getElem?_append_left (by omega)]
      exact ih
    · obtain rfl : i = k := by omega
      have hl := cellC_len V dss i
      rw [List.getElem?_append_right (by omega), List.getElem?_append_right (by omega), hl]
      simp
theorem rdC_of {w0 w : World} {base : Nat} {v : Value} {V : Nat → Value} {dss : List (List Dd)} (h : w.ownsRow base 105 2 v dss.length (cellC V dss dss.length)) (k : Keep w0 w) (hV : ∀ i, i < dss.length → RdD w0 (V i) (dss.getD i [])) : RdC w v dss := by
  have h2 := h
  have hlt := World.ownsRow.lt h
  rcases h.2 with ⟨rfl, hn⟩ | ⟨g, cap, cur, rfl, hb, hg, _, _, hs, _⟩
  · have : dss = [] := List.eq_nil_of_length_eq_zero hn
    subst this
    exact ⟨none, 0, rfl, .inl rfl⟩
  · refine ⟨_, _, rfl, .inr ⟨g, rfl, (hlt g rfl).2, fun i hi => ?_⟩⟩
    have hc := cellC_at V dss dss.length i hi
    have c1 := World.ownsRow.cellAt h2 (i * 2) (by omega)
    have c2 := World.ownsRow.cellAt h2 (i * 2 + 1) (by omega)
    exact ⟨V i, by rw [c1, hc.1], (hV i hi).keep k, by rw [c2, hc.2]⟩
set_option maxRecDepth 100000 in
set_option maxHeartbeats 4000000 in
theorem clerksOf_own (w0 w : World) (kw : Keep w0 w) (v : Value) (dss : List (List Dd)) (h : RdW w0 v dss) (hx : dss.length ≤ 3) (hm : ∀ i, i < dss.length → (dss.getD i []).length ≤ 1048576) :
    Calls Try.prog 81 #[v] w fun e w' => ∃ v', e = .returned v' ∧ (∃ V : Nat → Value, w'.ownsRow w.heap.size 105 2 v' dss.length (cellC V dss dss.length) ∧ ∀ i, i < dss.length → RdD w0 (V i) (dss.getD i [])) ∧ Keep w w' := by
  obtain ⟨a, c, rfl, h⟩ := h
  have start : (w.alloc (.cells #[] 105)).ownsRow w.heap.size 105 2 (.slice (some ⟨w.heap.size, 0, none⟩) 0 0) 0 [] := World.ownsRow_lit w #[] 0 (Nat.le_refl _) (by decide) rfl
  obtain ⟨i0, hi, hz0, hz1, hz2⟩ := info_parts Try.infoC
  obtain ⟨V, hV⟩ : ∃ V : Nat → Value, ∀ i, i < dss.length → RdD w0 (V i) (dss.getD i []) ∧ ∀ b o, a = some ⟨b, o, none⟩ → b < w0.heap.size ∧ w0.cell? ⟨b, o + i, none⟩ = some (V i) := by
    rcases h with h | ⟨b, o, rfl, hb, hc⟩
    · exact ⟨fun _ => Value.bool false, fun i hi => by rw [h] at hi; simp at hi⟩
    · obtain ⟨V, hV⟩ := Deep.choose_lt hc
      refine ⟨V, fun i hi => ⟨(hV i hi).2, fun b' o' e => ?_⟩⟩
      simp only [Option.some.injEq, Addr.mk.injEq, and_true] at e
      obtain ⟨rfl, rfl⟩ := e
      exact ⟨hb, (hV i hi).1⟩
  have hA : dss.length = 0 ∨ ∃ b o, a = some ⟨b, o, none⟩ := by
    rcases h with h | ⟨b, o, rfl, hb, hc⟩
    · left; rw [h]; rfl
    · exact .inr ⟨b, o, rfl⟩
  clear h
  go_enter Try.func81, Try.ntmps81
  go_wp2
  go_loopw [3, 4, 11] (fun x t i wr => ∃ k : Nat, k ≤ dss.length ∧ i = .int .i64 k ∧ t = .int .i64 (takW dss k) ∧ wr.ownsRow w.heap.size 105 2 x k (cellC V dss k) ∧ Keep w wr) (fun _ _ i _ => dss.length - (intOf i).toNat)
  case atStart => exact ⟨0, Nat.zero_le _, rfl, rfl, start, (Keep.refl w).alloc _⟩
  case round =>
    obtain ⟨k, hk, rfl, rfl, ho, hK⟩ := hrel
    clear start
    by_cases hlt : k < dss.length
    · obtain ⟨b, o, rfl⟩ : ∃ b o, a = some ⟨b, o, none⟩ := hA.resolve_left (by omega)
      obtain ⟨hR, hC⟩ := hV k hlt
      obtain ⟨hb, hC⟩ := hC b o rfl
      have hmk := hm k hlt
      have HM := Lib.hid (cellC_more V dss k)
      have HT : Hid (takW dss (k + 1) = bits .or .i64 (takW dss k) (gC (dss.getD k []))) := Lib.hid rfl
      have HV := Lib.hid hV
      clear hV hm hA
      obtain ⟨ds, hds⟩ : ∃ ds, ds = dss.getD k [] := ⟨_, rfl⟩
      rw [← hds] at hR hmk HT
      clear hds
      generalize takW dss k = t at HM HT
      have hK0 := kw.trans hK
      have d1 := (hK0.cell hb).trans hC
      have R1 := hR.keep hK0
      obtain ⟨u, hu⟩ : ∃ u, u = V k := ⟨_, rfl⟩
      rw [← hu] at d1 R1 HM
      have R0 := hR
      rw [← hu] at R0
      clear hu hC hR
      obtain ⟨ai, ci, rfl, -⟩ := id R1
      have hbw : b < wr.heap.size := Nat.lt_of_lt_of_le hb hK0.size
      have hsz := hK.size
      have i1 : (0 : Int) ≤ (k : Int) := Int.natCast_nonneg _
      have i2 : (k : Int) < (dss.length : Int) := by omega
      have ho2 := World.ownsRow.kept ho (((Keep.refl wr).alloc (boxC2 (.slice ai ds.length (ds.length + ci)) t)).alloc (.cells #[.slice ai ds.length (ds.length + ci), .int .i64 t] 105)).grownBy (by cases u3.ownBlock <;> simp)
      go_wp2_with (at_builtin; refine wpList_append_own_at _ rfl _ _ 100 rfl w.heap.size 105 i0 (.agg #[.slice none 0 0, .int .i64 0]) 2 32 Try.underlying100 hi hz0 hz1 hz2 rfl (by decide) _ _ _ rfl ho2 ⟨_, 0, none⟩ 1 1 [.slice ai ds.length (ds.length + ci), .int .i64 t] rfl rfl ?c1 ?c2 ?c3 ?c4 ?c5 ?_)
      case c1 =>
        intro j u hj
        match j, hj with
        | 0, hj => simp at hj; subst hj; simp [Addr.add]
        | 1, hj => simp at hj; subst hj; simp [Addr.add]
        | n + 2, hj => simp at hj
      case c2 => intro u hu; simp at hu; rcases hu with rfl | rfl <;> rfl
      case c3 => unfold maxLen; first | omega | (simp; omega)
      case c4 => first | omega | (simp; omega)
      case c5 => first | omega | (simp; omega)
      intro v' w2 hown' hgrow _ _
      rw [← HM.out] at hown'
      have hK2 : Keep w w2 := ((hK.alloc _).alloc _).grown hgrow (fun g hg => (World.ownsRow.lt ho g hg).1)
      have hbox : w2.heap[wr.heap.size]? = some (boxC2 (.slice ai ds.length (ds.length + ci)) t) :=
        (hgrow.block wr.heap.size (by rw [heap_size, heap_size]; omega) (fun e => by have := (World.ownsRow.lt ho _ e.symm).2; omega)).trans (by rw [heap_at, if_neg (by rw [heap_size]; omega), heap_at, if_pos rfl])
      have b0 : w2.cell? ⟨wr.heap.size, 0, none⟩ = some (.slice ai ds.length (ds.length + ci)) := by rw [cell_of_row w2 _ 0 _ _ (0, 0) hbox]; rfl
      have R2 := R0.keep (kw.trans hK2)
      clear hgrow hbox
      go_wp2_with fail
      refine (groups_any _ _ _ R2 hmk).mono ?_
      rintro e w3 ⟨rfl, k3⟩
      have ho3 := World.ownsRow.kept hown' k3.grownBy (by cases v'.ownBlock <;> simp)
      go_wp2_with fail
      refine (setOr_bits _ _ _).mono ?_
      rintro e w4 ⟨rfl, rfl⟩
      go_wp2
      go_roundw
      case rel => exact ⟨k + 1, by omega, by go_num, by rw [HT.out], ho3, hK2.trans k3⟩
      case measure => simp [intOf]; omega
    · obtain rfl : k = dss.length := by omega
      go_wp2
      go_ret
      exact ⟨_, rfl, ⟨V, ho, fun i hi => (hV i hi).1⟩, hK⟩
theorem clerksOf_any (w : World) (v : Value) (dss : List (List Dd)) (h : RdW w v dss) (hx : dss.length ≤ 3) (hm : ∀ i, i < dss.length → (dss.getD i []).length ≤ 1048576) :
    Calls Try.prog 81 #[v] w fun e w' => ∃ v', e = .returned v' ∧ RdC w' v' dss ∧ Keep w w' :=
  (clerksOf_own w w (Keep.refl w) v dss h hx hm).mono fun _ _ ⟨v', he, ⟨_, ho, hV⟩, hK⟩ => ⟨v', he, rdC_of ho hK hV, hK⟩
/-- The clerks lie in a block of their own, their deeds where they lay ahead of it. -/
def ClksAt (w0 wc w : World) (v : Value) (dss : List (List Dd)) : Prop :=
  ∃ (b c : Nat) (V : Nat → Value), v = .slice (some ⟨b, 0, none⟩) dss.length c ∧ wc.heap.size ≤ b ∧ b < w.heap.size ∧
    ∀ i, i < dss.length → RdD w0 (V i) (dss.getD i []) ∧ w.cell? ⟨b, i * 2, none⟩ = some (V i) ∧ w.cell? ⟨b, i * 2 + 1, none⟩ = some (.int .i64 (takW dss i))
theorem clerksOf_at (w0 w : World) (kw : Keep w0 w) (v : Value) (dss : List (List Dd)) (h : RdW w0 v dss) (h1 : 1 ≤ dss.length) (hx : dss.length ≤ 3) (hm : ∀ i, i < dss.length → (dss.getD i []).length ≤ 1048576) :
    Calls Try.prog 81 #[v] w fun e w' => ∃ v', e = .returned v' ∧ ClksAt w0 w w' v' dss ∧ Keep w w' := by
  refine (clerksOf_own w0 w kw v dss h hx hm).mono fun _ w' ⟨v', he, ⟨V, ho, hV⟩, hK⟩ => ⟨v', he, ?_, hK⟩
  have hlt := World.ownsRow.lt ho
  have h2 := ho
  rcases ho.2 with ⟨_, hn⟩ | ⟨g, cap, cur, rfl, hb, hg, _, _, hs, _⟩
  · omega
  · refine ⟨g, cap, V, rfl, hb, (hlt g rfl).2, fun i hi => ?_⟩
    have hc := cellC_at V dss dss.length i hi
    have c1 := World.ownsRow.cellAt h2 (i * 2) (by omega)
    have c2 := World.ownsRow.cellAt h2 (i * 2 + 1) (by omega)
    exact ⟨hV i hi, by rw [c1, hc.1], by rw [c2, hc.2]⟩
end Go.Proofs.Ytgolhjmbloiakaa

/- Contract of the program's WorkOk. -/
namespace Go.Proofs.Ytgolhjmbloiakaa
open Go.ChangeShapes Go.WideShapes Go.ChangeAt Go.RowKit

theorem lenW_moreC (d : List Dd) : ∀ l : List (List Dd), lenW (l ++ [d]) = lenW l + d.length
  | [] => by simp [lenW]
  | x :: r => by rw [List.cons_append, lenW, lenW, lenW_moreC d r]; omega
theorem take_moreC {α : Type} (l : List α) (k : Nat) (z : α) (h : k < l.length) : l.take (k + 1) = l.take k ++ [l.getD k z] := by
  rw [List.take_add_one, List.getElem?_eq_getElem h, List.getD_eq_getElem?_getD, List.getElem?_eq_getElem h]
  rfl
theorem rightB_len {ds : List Dd} {t : Int} (h : rightB ds t = true) : ds.length ≤ 5 := by
  simp only [rightB, Bool.and_eq_true, decide_eq_true_eq] at h
  exact h.1.1.1
set_option maxRecDepth 100000 in
set_option maxHeartbeats 4000000 in
theorem implWorkOk_any (w : World) (v : Value) (dss : List (List Dd)) (h : RdW w v dss) (hx : dss.length ≤ 1048576) (hm : ∀ i, i < dss.length → (dss.getD i []).length ≤ 1048576) :
    Calls Try.prog 45 #[v] w fun e w' => e = .returned (.bool (workB dss)) ∧ Keep w w' := by
  have RW := h
  obtain ⟨a, c, rfl, h⟩ := h
  clear h
  have HW := Lib.hid (work_rights dss)
  cases hb : inB (dss.length : Int) 1 3
  · have HE : Hid (workB dss = false) := by
      refine Lib.hid ?_
      simp [inB] at hb
      rw [HW.out, decide_eq_false (by omega)]
      rfl
    go_enter Try.func45, Try.ntmps45
    go_wp2_with (go_at_call 41; refine (isFrom_any _ _ _ _).mono ?_; rintro e w' ⟨rfl, rfl⟩)
    go_ret
    exact ⟨by rw [HE.out]; rfl, Keep.refl _⟩
  · have h13 : 1 ≤ dss.length ∧ dss.length ≤ 3 := by simp [inB] at hb; omega
    have HW2 : Hid (workB dss = (rightsW dss dss.length && decide (lenW dss ≤ 12) && decide (evW dss dss.length ≤ 6))) := Lib.hid (by rw [HW.out, decide_eq_true h13]; rfl)
    have h3 := h13.2
    clear h13 HW
    go_enter Try.func45, Try.ntmps45
    go_wp2_with fail
    refine (isFrom_any _ _ _ _).mono ?_
    rintro e w' ⟨rfl, rfl⟩
    go_wp2_with fail
    refine (clerksOf_any _ _ _ RW h3 hm).mono ?_
    rintro e w1 ⟨v1, rfl, rc, k1⟩
    clear hb RW
    obtain ⟨a1, c1, rfl, rc⟩ := rc
    go_wp2
    go_loopw [3, 4, 14] (fun n m i wr => ∃ k x : Nat, ∃ y : Int, k ≤ dss.length ∧ n = .int .i64 x ∧ m = .int .i64 y ∧ i = .int .i64 k ∧ Hid (x = lenW (dss.take k) ∧ y = evW dss k ∧ rightsW dss k = true) ∧ x ≤ 5 * k ∧ 0 ≤ y ∧ y ≤ 10 * k ∧ Keep w1 wr) (fun _ _ i _ => dss.length - (intOf i).toNat)
    case atStart => exact ⟨0, 0, 0, Nat.zero_le _, rfl, rfl, rfl, Lib.hid ⟨by simp [lenW], rfl, rfl⟩, by omega, by omega, by omega, Keep.refl _⟩
    case round =>
      obtain ⟨k, x, y, hk, rfl, rfl, rfl, hM, x5, y0, y1, hK⟩ := hrel
      by_cases hlt : k < dss.length
      · rcases rc with h | ⟨b, rfl, hb, hc⟩
        · exfalso; rw [h] at hlt; simp at hlt
        obtain ⟨vi, e1, r1, e2⟩ := hc k hlt
        have hmk := hm k hlt
        clear hc hm
        have HR : Hid (rightsW dss (k + 1) = (rightsW dss k && rightB (dss.getD k []) (takW dss k))) := Lib.hid rfl
        have HV : Hid (evW dss (k + 1) = evW dss k + evK (dss.getD k []) (dss.getD k []).length) := Lib.hid rfl
        have HN : Hid (lenW (dss.take (k + 1)) = lenW (dss.take k) + (dss.getD k []).length) := Lib.hid (by rw [take_moreC dss k [] hlt, lenW_moreC])
        obtain ⟨ds, hds⟩ : ∃ ds, ds = dss.getD k [] := ⟨_, rfl⟩
        rw [← hds] at r1 hmk HR HV HN
        clear hds
        generalize takW dss k = t at e2 HR
        have d1 := (hK.cell hb).trans e1
        have d2 := (hK.cell hb).trans e2
        have r1 := r1.keep hK
        obtain ⟨ai, ci, rfl, -⟩ := id r1
        have hbw : b < wr.heap.size := Nat.lt_of_lt_of_le hb hK.size
        have i1 : (0 : Int) ≤ (k : Int) := Int.natCast_nonneg _
        have i2 : (k : Int) < (dss.length : Int) := by omega
        clear e1 e2
        cases hr : rightB ds t
        · have HE : Hid (workB dss = false) := Lib.hid (by
            rw [HW2.out, rightsW_false (k := k + 1) (by rw [HR.out, hr]; simp) _ hlt]
            rfl)
          have HRR := Lib.hid hr
          clear hr
          go_wp2_with fail
          refine (isRight_any _ _ _ _ (r1.keep ((Keep.refl _).alloc _)) hmk).mono ?_
          rw [HRR.out]
          rintro e wz ⟨rfl, kk⟩
          go_wp2
          go_ret
          exact ⟨by rw [HE.out]; rfl, k1.trans ((hK.alloc _).trans kk)⟩
        · have l5 := rightB_len hr
          have HRR := Lib.hid hr
          have EK := evK_in ds ds.length
          clear hr
          go_wp2_with fail
          refine (isRight_any _ _ _ _ (r1.keep ((Keep.refl _).alloc _)) hmk).mono ?_
          rw [HRR.out]
          rintro e wz ⟨rfl, kk⟩
          have b0 : wz.cell? ⟨wr.heap.size, 0, none⟩ = some (.slice ai ds.length (ds.length + ci)) := box_cell kk 0
          have bs : wr.heap.size < wz.heap.size := box_size kk
          have r2 := r1.keep (((Keep.refl _).alloc _).trans kk)
          have hKz := (hK.alloc (.cells #[.slice ai ds.length (ds.length + ci), .int .i64 t] 105)).trans kk
          clear d1 d2 kk
          go_wp2_with fail
          refine (count_any _ _ _ _).mono ?_
          rintro e w3 ⟨rfl, rfl⟩
          go_wp2_with fail
          refine (events_any _ _ _ r2 hmk).mono ?_
          rintro e w4 ⟨rfl, k4⟩
          have HH : Hid (x + ds.length = lenW (dss.take (k + 1)) ∧ y + evK ds ds.length = evW dss (k + 1) ∧ rightsW dss (k + 1) = true) := Lib.hid ⟨by rw [HN.out, hM.out.1], by rw [HV.out, hM.out.2.1], by rw [HR.out, hM.out.2.2, HRR.out]; rfl⟩
          generalize evK ds ds.length = ev at EK HH
          go_wp2
          go_roundw
          case rel => exact ⟨k + 1, x + ds.length, y + ev, by omega, by go_num, by go_num, by go_num, HH, by omega, by omega, by omega, hKz.trans k4⟩
          case measure => simp [intOf]; omega
      · obtain rfl : k = dss.length := by omega
        rw [List.take_length] at hM
        have HE : Hid (workB dss = (decide (x ≤ 12) && decide (y ≤ 6))) := Lib.hid (by rw [HW2.out, hM.out.2.2, hM.out.1, hM.out.2.1]; rfl)
        clear hM HW2 rc hm
        by_cases h12 : x ≤ 12
        · have e12 : (x : Int) ≤ 12 := by omega
          by_cases h6 : y ≤ 6
          · go_wp2
            go_ret
            exact ⟨by rw [HE.out, decide_eq_true h12, decide_eq_true h6]; rfl, k1.trans hK⟩
          · have e6 : (6 : Int) < y := by omega
            go_wp2
            go_ret
            exact ⟨by rw [HE.out, decide_eq_true h12, decide_eq_false (show ¬ y ≤ 6 by omega)]; rfl, k1.trans hK⟩
        · have e12 : (12 : Int) < (x : Int) := by omega
          go_wp2
          go_ret
          exact ⟨by rw [HE.out, decide_eq_false (show ¬ x ≤ 12 by omega)]; rfl, k1.trans hK⟩
end Go.Proofs.Ytgolhjmbloiakaa
