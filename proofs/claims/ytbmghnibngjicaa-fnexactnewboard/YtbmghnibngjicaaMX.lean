/- Gathered texts. -/
import Derived.Orders
import Derived.Test.YtbmghnibngjicaaMC
set_option maxRecDepth 100000
set_option maxHeartbeats 8000000
namespace Go.Proofs.Ytbmghnibngjicaa
open Go.RowKit
section
section
variable {P : Program} {ops : Array Oper} {Q : Exit → Act → World → Prop} {md : Region.Mode}
def leftN (listed : Array Bool) : Nat := listed.toList.countP (fun b => !b)
theorem count_set : ∀ (l : List Bool) (i : Nat), l[i]? = some false → (l.set i true).countP (fun b => !b) + 1 = l.countP (fun b => !b)
  | [], i, h => by simp at h
  | x :: r, 0, h => by
    simp at h
    subst h
    simp
  | x :: r, i + 1, h => by
    have ih := count_set r i (by simpa using h)
    rw [List.set_cons_succ, List.countP_cons, List.countP_cons]
    omega
theorem leftN_set {listed : Array Bool} {i : Nat} (h : listed[i]? = some false) : leftN (listed.setIfInBounds i true) + 1 = leftN listed := by
  unfold leftN
  rw [Array.toList_setIfInBounds]
  exact count_set _ _ (by rw [Array.getElem?_toList]; exact h)
theorem ready_use {listed : Array Bool} {i : Nat} (h : i ∈ Region.ready md ops listed) : i < ops.size ∧ listed[i]? = some false ∧ ∀ o, ops[i]? = some o → o.after.all (fun e => !Region.binds md e || listed.getD e.on false) = true := by
  unfold Region.ready at h
  rw [List.mem_filter, List.mem_range] at h
  obtain ⟨h1, h2⟩ := h
  simp only [Bool.and_eq_true, Bool.not_eq_true'] at h2
  refine ⟨h1, ?_, fun o ho => ?_⟩
  · have h3 := h2.1
    rw [Array.getD_eq_getD_getElem?] at h3
    cases e : listed[i]? with
    | none => rw [e] at h3; cases h3
    | some b => rw [e] at h3; simp at h3; rw [h3]
  · have h3 := h2.2
    rw [ho] at h3
    simpa using h3
theorem wpAny_inv (J : Array Bool → Act → World → Prop)
    (step : ∀ listed a w, J listed a w → ∀ i, i ∈ Region.ready md ops listed → wpOp P ops Q i (fun a' w' => J (listed.setIfInBounds i true) a' w') a w)
    (done : ∀ listed a w, J listed a w → Region.ready md ops listed = [] → Q .normal a w) :
    ∀ (fuel : Nat) (listed : Array Bool) (a : Act) (w : World), leftN listed ≤ fuel → J listed a w → wpAny P md ops Q fuel listed a w
  | 0, listed, a, w, hl, hJ => by
    have hr : Region.ready md ops listed = [] := by
      cases h : Region.ready md ops listed with
      | nil => rfl
      | cons i r =>
        exfalso
        have h2 := (ready_use (md := md) (ops := ops) (listed := listed) (i := i) (by rw [h]; simp)).2.1
        have := leftN_set h2
        omega
    exact ⟨hr, done listed a w hJ hr⟩
  | fuel + 1, listed, a, w, hl, hJ => by
    refine ⟨fun hr => done listed a w hJ hr, fun i hi => ?_⟩
    refine wpOp_mono (fun a' w' hJ' => wpAny_inv J step done fuel _ a' w' ?_ hJ') (step listed a w hJ i hi)
    have := leftN_set (ready_use hi).2.1
    omega
theorem leftN_none (n : Nat) : leftN (Array.replicate n false) = n := by
  unfold leftN
  rw [Array.toList_replicate]
  simp [List.countP_replicate]
theorem wp_region_inv {id : Nat} {a : Act} {w : World} (hm : P.follows .mixedOrders = true) (J : Array Bool → Act → World → Prop)
    (start : J (Array.replicate ops.size false) a w.drew)
    (step : ∀ listed a w, J listed a w → ∀ i, i ∈ Region.ready .any ops listed → wpOp P ops Q i (fun a' w' => J (listed.setIfInBounds i true) a' w') a w)
    (done : ∀ listed a w, J listed a w → Region.ready .any ops listed = [] → Q .normal a w) : (Code.region id ops true).wp P Q a w :=
  wp_region_any hm (wpAny_inv J step done ops.size _ a _ (by rw [leftN_none]; exact Nat.le_refl _) start)
end
end
def rwP (es : List Ev) (rows : List Int) (i k : Nat) : Bool := decide (i < k) && (plE es (rows.getD i 0) == plE es (rows.getD k 0))
def rwIn (es : List Ev) (rows : List Int) (i : Nat) (st : List Int) : Nat → List Int
  | 0 => st
  | k + 1 => if rwP es rows i k = true then (rwIn es rows i st k).set (rows.getD i 0).toNat (gAdd ((rwIn es rows i st k).getD (rows.getD i 0).toNat 0) (rows.getD k 0)) else rwIn es rows i st k
def rwAll (es : List Ev) (rows : List Int) : Nat → List Int
  | 0 => List.replicate es.length 0
  | i + 1 => rwIn es rows i (rwAll es rows i) rows.length
def rwL (es : List Ev) (rows : List Int) : List Int := rwAll es rows rows.length
theorem rwIn_hit {es : List Ev} {rows : List Int} {i k : Nat} (st : List Int) (h : rwP es rows i k = true) : rwIn es rows i st (k + 1) = (rwIn es rows i st k).set (rows.getD i 0).toNat (gAdd ((rwIn es rows i st k).getD (rows.getD i 0).toNat 0) (rows.getD k 0)) := if_pos h
theorem rwIn_miss {es : List Ev} {rows : List Int} {i k : Nat} (st : List Int) (h : rwP es rows i k = false) : rwIn es rows i st (k + 1) = rwIn es rows i st k := if_neg (by simp [h])
theorem web_rwIn {es : List Ev} {rows : List Int} {n i : Nat} {st : List Int} (hr : ∀ j, j < rows.length → 0 ≤ rows.getD j 0 ∧ rows.getD j 0 < (n : Int)) (hi : i < rows.length) (hst : Web n st) : ∀ m : Nat, m ≤ rows.length →
    Web n (rwIn es rows i st m) ∧ ∀ a b : Nat, a < n → (line (rwIn es rows i st m) a b = true ↔ line st a b = true ∨ ∃ q, q < m ∧ rwP es rows i q = true ∧ rows.getD i 0 = (a : Int) ∧ rows.getD q 0 = (b : Int))
  | 0, _ => ⟨hst, fun a b _ => by simp [rwIn]⟩
  | m + 1, hm => by
    obtain ⟨h1, h2⟩ := web_rwIn (es := es) hr hi hst m (by omega)
    cases hp : rwP es rows i m with
    | false =>
      rw [rwIn_miss st hp]
      refine ⟨h1, fun a b ha => ?_⟩
      rw [h2 a b ha]
      constructor
      · rintro (h | ⟨q, hq, r⟩)
        · exact .inl h
        · exact .inr ⟨q, by omega, r⟩
      · rintro (h | ⟨q, hq, r⟩)
        · exact .inl h
        · by_cases e : q = m
          · subst e; rw [hp] at r; cases r.1
          · exact .inr ⟨q, by omega, r⟩
    | true =>
      obtain ⟨a0, ha0⟩ := Int.eq_ofNat_of_zero_le (hr i hi).1
      obtain ⟨b0, hb0⟩ := Int.eq_ofNat_of_zero_le (hr m (by omega)).1
      have ha : a0 < n := by have := (hr i hi).2; omega
      have hb : b0 < n := by have := (hr m (by omega)).2; omega
      have e0 : rwIn es rows i st (m + 1) = (rwIn es rows i st m).set a0 (gAdd ((rwIn es rows i st m).getD a0 0) (b0 : Int)) := by rw [rwIn_hit st hp, ha0, hb0, Int.toNat_natCast]
      rw [e0]
      have hadd := ok_add (h1.2.2 a0 ha) hb
      refine ⟨h1.set hadd.1, fun a b haa => ?_⟩
      have e1 := h2 a b haa
      unfold line at e1 ⊢
      rw [getD_set _ _ _ _ (by rw [h1.2.1]; exact ha)]
      by_cases e : a0 = a
      · subst e
        simp only [if_true]
        rw [hadd.2 b, Bool.or_eq_true, e1, decide_eq_true_eq]
        constructor
        · rintro ((h | ⟨q, hq, r1, r2, r3⟩) | h)
          · exact .inl h
          · exact .inr ⟨q, by omega, r1, r2, r3⟩
          · exact .inr ⟨m, by omega, hp, ha0, by rw [hb0, h]⟩
        · rintro (h | ⟨q, hq, r1, r2, r3⟩)
          · exact .inl (.inl h)
          · by_cases eq : q = m
            · subst eq
              right
              rw [hb0] at r3
              omega
            · exact .inl (.inr ⟨q, by omega, r1, r2, r3⟩)
      · simp only [e, if_false]
        rw [e1]
        constructor
        · rintro (h | ⟨q, hq, r1, r2, r3⟩)
          · exact .inl h
          · exact .inr ⟨q, by omega, r1, r2, r3⟩
        · rintro (h | ⟨q, hq, r1, r2, r3⟩)
          · exact .inl h
          · exfalso; rw [ha0] at r2; omega
theorem web_rwAll {es : List Ev} {rows : List Int} (hx : es.length ≤ 12) (hr : ∀ j, j < rows.length → 0 ≤ rows.getD j 0 ∧ rows.getD j 0 < (es.length : Int)) : ∀ m : Nat, m ≤ rows.length →
    Web es.length (rwAll es rows m) ∧ ∀ a b : Nat, a < es.length → (line (rwAll es rows m) a b = true ↔ ∃ i q, i < m ∧ q < rows.length ∧ rwP es rows i q = true ∧ rows.getD i 0 = (a : Int) ∧ rows.getD q 0 = (b : Int))
  | 0, _ => ⟨Web.zero hx, fun a b _ => by unfold rwAll; rw [line_zero]; simp⟩
  | m + 1, hm => by
    obtain ⟨h1, h2⟩ := web_rwAll hx hr m (by omega)
    obtain ⟨g1, g2⟩ := web_rwIn (es := es) hr (show m < rows.length by omega) h1 rows.length (Nat.le_refl _)
    refine ⟨g1, fun a b ha => ?_⟩
    show line (rwIn es rows m (rwAll es rows m) rows.length) a b = true ↔ _
    rw [g2 a b ha, h2 a b ha]
    constructor
    · rintro (⟨i, q, hi, r⟩ | ⟨q, hq, r⟩)
      · exact ⟨i, q, by omega, r⟩
      · exact ⟨m, q, by omega, hq, r⟩
    · rintro ⟨i, q, hi, hq, r⟩
      by_cases e : i = m
      · subst e; exact .inr ⟨q, hq, r⟩
      · exact .inl ⟨i, q, by omega, hq, r⟩
theorem getD_zip (f : Int → Int → Int) {n : Nat} {a b : List Int} (ha : a.length = n) (hb : b.length = n) {i : Nat} (hi : i < n) : (List.zipWith f a b).getD i 0 = f (a.getD i 0) (b.getD i 0) := by
  rw [List.getD_eq_getElem?_getD, List.getElem?_zipWith, List.getD_eq_getElem?_getD, List.getD_eq_getElem?_getD, List.getElem?_eq_getElem (show i < a.length by omega), List.getElem?_eq_getElem (show i < b.length by omega)]
  rfl
theorem web_mix (f : Int → Int → Int) (hf : ∀ {n : Nat} {s t : Int}, okB n s = true → okB n t = true → okB n (f s t) = true) {n : Nat} {a b : List Int} (ha : Web n a) (hb : Web n b) : Web n (List.zipWith f a b) := by
  refine ⟨ha.1, by rw [List.length_zipWith, ha.2.1, hb.2.1]; omega, fun i hi => ?_⟩
  rw [getD_zip f ha.2.1 hb.2.1 hi]
  exact hf (ha.2.2 i hi) (hb.2.2 i hi)
theorem mixL_web (f : Int → Int → Int) {n : Nat} {a b : List Int} (ha : Web n a) (hb : Web n b) : mixL f a b = List.zipWith f a b := by
  unfold mixL
  rw [if_pos (twoB_iff.2 ⟨by rw [ha.2.1, hb.2.1], ha.b, hb.b⟩)]
theorem web_join {n : Nat} {a b : List Int} (ha : Web n a) (hb : Web n b) : Web n (mixL orI a b) ∧ ∀ i j, i < n → line (mixL orI a b) i j = (line a i j || line b i j) := by
  rw [mixL_web _ ha hb]
  refine ⟨web_mix orI (fun h k => (ok_or h k).1) ha hb, fun i j hi => ?_⟩
  unfold line
  rw [getD_zip orI ha.2.1 hb.2.1 hi]
  exact (ok_or (ha.2.2 i hi) (hb.2.2 i hi)).2 j
def inL (a b : List Int) : Bool := decide (a.length = b.length) && (List.range a.length).all fun i => notI (a.getD i 0) (b.getD i 0) == 0
inductive Way (zs : List Int) : Nat → Nat → Prop
  | one {i j : Nat} (h : line zs i j = true) : Way zs i j
  | more {i k j : Nat} (h : Way zs i k) (g : line zs k j = true) : Way zs i j
theorem Way.trans {zs : List Int} {i k j : Nat} (h : Way zs i k) (g : Way zs k j) : Way zs i j := by
  induction g with
  | one g => exact .more h g
  | more _ g ih => exact .more ih g
theorem Way.lt {n : Nat} {zs : List Int} (hz : Web n zs) {i j : Nat} (hi : i < n) (h : Way zs i j) : j < n := by
  induction h with
  | one g => exact hz.lt hi g
  | more _ g ih => exact hz.lt ih g
theorem wayAll_sound {n : Nat} {zs : List Int} (hz : Web n zs) (m : Nat) (hm : m ≤ n) {i : Nat} (hi : i < n) {j : Nat} (h : line (wayAll zs m) i j = true) : Way zs i j := by
  induction m generalizing i j with
  | zero => exact .one h
  | succ m ih =>
    rw [line_wayAll hz m (by omega) hi, Bool.or_eq_true, Bool.and_eq_true] at h
    rcases h with h | ⟨h1, h2⟩
    · exact ih (by omega) hi h
    · exact (ih (by omega) hi h1).trans (ih (by omega) (by omega) h2)
theorem wayAll_mono {n : Nat} {zs : List Int} (hz : Web n zs) (m : Nat) (hm : m < n) {i : Nat} (hi : i < n) {j : Nat} (h : line (wayAll zs m) i j = true) : line (wayAll zs (m + 1)) i j = true := by
  rw [line_wayAll hz m hm hi, h]; rfl
theorem wayAll_meet {n : Nat} {zs : List Int} (hz : Web n zs) (m : Nat) (hm : m ≤ n) {i k j : Nat} (hi : i < n) (hk : k < m) (h1 : line (wayAll zs m) i k = true) (h2 : line (wayAll zs m) k j = true) : line (wayAll zs m) i j = true := by
  induction m generalizing i k j with
  | zero => omega
  | succ m ih =>
    have hmn : m < n := by omega
    have ihm := @ih (by omega)
    rw [line_wayAll hz m hmn hi, Bool.or_eq_true, Bool.and_eq_true] at h1
    rw [line_wayAll hz m hmn (show k < n by omega), Bool.or_eq_true, Bool.and_eq_true] at h2
    rw [line_wayAll hz m hmn hi, Bool.or_eq_true, Bool.and_eq_true]
    by_cases e : k = m
    · subst e
      have h1' : line (wayAll zs k) i k = true := by
        rcases h1 with h | h
        · exact h
        · exact h.1
      have h2' : line (wayAll zs k) k j = true := by
        rcases h2 with h | h
        · exact h
        · exact h.2
      exact .inr ⟨h1', h2'⟩
    · have hkm : k < m := by omega
      rcases h1 with h1 | ⟨h1, h1'⟩ <;> rcases h2 with h2 | ⟨h2, h2'⟩
      · exact .inl (ihm hi hkm h1 h2)
      · exact .inr ⟨ihm hi hkm h1 h2, h2'⟩
      · exact .inr ⟨h1, ihm hmn hkm h1' h2⟩
      · exact .inr ⟨h1, h2'⟩
theorem ways_eq {n : Nat} {zs : List Int} (hz : Web n zs) : waysL zs = wayAll zs n := by
  unfold waysL
  rw [if_pos hz.b, hz.2.1]
theorem wayAll_old {n : Nat} {zs : List Int} (hz : Web n zs) (m : Nat) (hm : m ≤ n) {i : Nat} (hi : i < n) {j : Nat} (h : line zs i j = true) : line (wayAll zs m) i j = true := by
  induction m with
  | zero => exact h
  | succ m ih => exact wayAll_mono hz m (by omega) hi (ih (by omega))
theorem ways_line {n : Nat} {zs : List Int} (hz : Web n zs) {i : Nat} (hi : i < n) {j : Nat} : line (waysL zs) i j = true ↔ Way zs i j := by
  rw [ways_eq hz]
  constructor
  · exact wayAll_sound hz n (Nat.le_refl _) hi
  · intro h
    induction h with
    | one g => exact wayAll_old hz n (Nat.le_refl _) hi g
    | more h g ih =>
      have hk := h.lt hz hi
      exact wayAll_meet hz n (Nat.le_refl _) hi hk ih (wayAll_old hz n (Nat.le_refl _) hk g)
def roundB (zs : List Int) : Bool := webB zs && (List.range zs.length).any fun i => line (waysL zs) i i
theorem round_iff {n : Nat} {zs : List Int} (hz : Web n zs) : roundB zs = true ↔ ∃ i, i < n ∧ Way zs i i := by
  unfold roundB
  rw [hz.b, Bool.true_and, List.any_eq_true, hz.2.1]
  constructor
  · rintro ⟨i, hi, h⟩; exact ⟨i, List.mem_range.1 hi, (ways_line hz (List.mem_range.1 hi)).1 h⟩
  · rintro ⟨i, hi, h⟩; exact ⟨i, List.mem_range.2 hi, (ways_line hz hi).2 h⟩
theorem nodup_sub_len {a b : List Int} (h : a.Nodup) (hs : ∀ x ∈ a, x ∈ b) : a.length ≤ b.length := by
  induction a generalizing b with
  | nil => simp
  | cons x a ih =>
    rw [List.nodup_cons] at h
    have hx := hs x (by simp)
    have := ih (b := b.erase x) h.2 (fun y hy => (List.mem_erase_of_ne (fun e => h.1 (by rw [← e]; exact hy))).2 (hs y (by simp [hy])))
    rw [List.length_erase_of_mem hx] at this
    have := List.length_pos_of_mem hx
    simp; omega
theorem idxB_range {f : Ev → Bool} {es : List Ev} (hx : es.length ≤ 12) {i : Nat} (hi : i < (idxB f es).length) : 0 ≤ (idxB f es).getD i 0 ∧ (idxB f es).getD i 0 < (es.length : Int) := by
  have hm : (idxB f es).getD i 0 ∈ idxB f es := by
    rw [List.getD_eq_getElem?_getD, List.getElem?_eq_getElem hi]
    exact List.getElem_mem hi
  unfold idxB at hm ⊢
  rw [if_pos hx] at hm ⊢
  exact idxK_lt f es _ _ hm
theorem rises_nodup : ∀ l : List Int, l.Pairwise (· < ·) → l.Nodup := fun l h => h.imp (fun h e => by omega)
def taleB (dss : List (List Dd)) (f rows : List Int) : Bool := sourceB dss f && rowsB dss rows
def agK (n : Nat) (rs f row : List Int) : Nat → List Int
  | 0 => List.replicate n 0
  | k + 1 => (agK n rs f row k).set (rs.getD k 0).toNat (row.getD (f.getD k 0).toNat 0)
def agL (es : List Ev) (f rows : List Int) : List Int := agK es.length (idxB rdE es) f (rwL es rows) (idxB rdE es).length
theorem web_ag {n : Nat} {rs f row : List Int} (hn : n ≤ 12) (hd : rs.Nodup) (hrow : Web n row) : ∀ k : Nat, k ≤ rs.length → (∀ i, i < k → 0 ≤ rs.getD i 0 ∧ rs.getD i 0 < (n : Int)) → (∀ i, i < k → 0 ≤ f.getD i 0 ∧ f.getD i 0 < (n : Int)) →
    Web n (agK n rs f row k) ∧ ∀ a j : Nat, a < n → (line (agK n rs f row k) a j = true ↔ ∃ i, i < k ∧ rs.getD i 0 = (a : Int) ∧ line row (f.getD i 0).toNat j = true)
  | 0, _, _, _ => ⟨Web.zero hn, fun a j _ => by unfold agK; rw [line_zero]; simp⟩
  | k + 1, hk, hr, hf => by
    obtain ⟨h1, h2⟩ := web_ag hn hd hrow k (by omega) (fun i hi => hr i (by omega)) (fun i hi => hf i (by omega))
    obtain ⟨a0, ha0⟩ := Int.eq_ofNat_of_zero_le (hr k (by omega)).1
    obtain ⟨b0, hb0⟩ := Int.eq_ofNat_of_zero_le (hf k (by omega)).1
    have ha : a0 < n := by have := (hr k (by omega)).2; omega
    have hb : b0 < n := by have := (hf k (by omega)).2; omega
    have e0 : agK n rs f row (k + 1) = (agK n rs f row k).set a0 (row.getD b0 0) := by rw [agK, ha0, hb0, Int.toNat_natCast, Int.toNat_natCast]
    rw [e0]
    refine ⟨h1.set (hrow.2.2 b0 hb), fun a j haa => ?_⟩
    have e1 := h2 a j haa
    unfold line at e1 ⊢
    rw [getD_set _ _ _ _ (by rw [h1.2.1]; exact ha)]
    by_cases e : a0 = a
    · subst e
      simp only [if_true]
      constructor
      · intro h
        refine ⟨k, by omega, ha0, ?_⟩
        rw [hb0, Int.toNat_natCast]
        exact h
      · rintro ⟨i, hi, r1, r2⟩
        have : i = k := nodup_get hd (by omega) (by omega) (by rw [r1, ha0])
        subst this
        rw [hb0, Int.toNat_natCast] at r2
        exact r2
    · simp only [e, if_false]
      rw [e1]
      constructor
      · rintro ⟨i, hi, r⟩
        exact ⟨i, by omega, r⟩
      · rintro ⟨i, hi, r1, r2⟩
        by_cases ei : i = k
        · subst ei; rw [ha0] at r1; omega
        · exact ⟨i, by omega, r1, r2⟩
theorem idxK_has (f : Ev → Bool) (l : List Ev) {i : Nat} (hf : f (l.getD i zE) = true) : ∀ k : Nat, i < k → (i : Int) ∈ idxK f l k
  | 0, h => by omega
  | k + 1, h => by
    rw [idxK]
    by_cases e : i = k
    · subst e
      rw [if_pos hf]
      exact List.mem_append.2 (.inr (by simp))
    · have ih := idxK_has f l hf k (by omega)
      split
      · exact List.mem_append.2 (.inl ih)
      · exact ih
theorem tale_use {dss : List (List Dd)} {f rows : List Int} (h : taleB dss f rows = true) : workB dss = true ∧ srcB (chcL (eventsB dss)) f = true ∧ rowsL (eventsB dss) rows = true := by
  unfold taleB sourceB rowsB at h
  simp only [Bool.and_eq_true] at h
  exact ⟨h.1.1, h.1.2, h.2.2⟩
theorem behP_lt {es : List Ev} {i j : Nat} (h : behP es i j = true) : i < j := by
  apply Classical.byContradiction
  intro hn
  rw [behP_up (by omega)] at h
  cases h
theorem up_way {n : Nat} {zs : List Int} (hz : Web n zs) (μ : Nat → Nat) (h : ∀ i j, i < n → j < n → line zs i j = true → μ i < μ j) {i j : Nat} (hi : i < n) (hw : Way zs i j) : μ i < μ j := by
  induction hw with
  | one g => exact h _ _ hi (hz.lt hi g) g
  | more g l ih => exact Nat.lt_trans ih (h _ _ (g.lt hz hi) (hz.lt (g.lt hz hi) l) l)
theorem up_round {n : Nat} {zs : List Int} (hz : Web n zs) (μ : Nat → Nat) (h : ∀ i j, i < n → j < n → line zs i j = true → μ i < μ j) : roundB zs = false := by
  cases hr : roundB zs with
  | false => rfl
  | true =>
    obtain ⟨i, hi, hw⟩ := (round_iff hz).1 hr
    exact absurd (up_way hz μ h hi hw) (Nat.lt_irrefl _)
def pwL (es : List Ev) (f rows : List Int) : List Int := mixL orI (mixL orI (plcL es) (fwL es f)) (mixL orI (rwL es rows) (agL es f rows))
def owP (es : List Ev) (i k : Nat) : Bool := decide (3 ≤ i) && decide (3 ≤ k) && ((es.getD i zE).1 == (es.getD k zE).1)
def owL (es : List Ev) (f : List Int) : List Int := offAll (owP es) es.length (fwL es f) es.length
def swL (dss : List (List Dd)) (es : List Ev) (f rows : List Int) : List Int := mixL orI (mixL orI (kepL dss es) (owL es f)) (mixL orI (rwL es rows) (agL es f rows))
def xwL (es : List Ev) (f rows : List Int) : List Int := mixL orI (mixL orI (behL es) (fwL es f)) (mixL orI (rwL es rows) (agL es f rows))
theorem rd_in {es : List Ev} (hx : es.length ≤ 12) {i : Nat} (hi : i < (idxB rdE es).length) : 0 ≤ (idxB rdE es).getD i 0 ∧ (idxB rdE es).getD i 0 < (es.length : Int) := idxB_range hx hi
theorem rd_nodup {es : List Ev} (hx : es.length ≤ 12) : (idxB rdE es).Nodup := by
  unfold idxB
  rw [if_pos hx]
  exact rises_nodup _ (idxK_rises rdE es _)
structure Webs (es : List Ev) (f rows : List Int) : Prop where
  fw : Web es.length (fwL es f)
  rw' : Web es.length (rwL es rows)
  ag : Web es.length (agL es f rows)
  fwl : ∀ a j : Nat, a < es.length → (line (fwL es f) a j = true ↔ ∃ i, i < (idxB rdE es).length ∧ f.getD i 0 = (a : Int) ∧ (idxB rdE es).getD i 0 = (j : Int))
  rwl : ∀ a b : Nat, a < es.length → (line (rwL es rows) a b = true ↔ ∃ i q, i < rows.length ∧ q < rows.length ∧ rwP es rows i q = true ∧ rows.getD i 0 = (a : Int) ∧ rows.getD q 0 = (b : Int))
  agl : ∀ a j : Nat, a < es.length → (line (agL es f rows) a j = true ↔ ∃ i, i < (idxB rdE es).length ∧ (idxB rdE es).getD i 0 = (a : Int) ∧ line (rwL es rows) (f.getD i 0).toNat j = true)
theorem webs_of {es : List Ev} {f rows : List Int} (hx : es.length ≤ 12) (hs : srcB (chcL es) f = true) (hr : rowsL es rows = true) : Webs es f rows := by
  obtain ⟨sl, su⟩ := src_use hx hs
  obtain ⟨rn, _, ru⟩ := rows_use hx hr
  have w1 := web_rwAll hx ru rows.length (Nat.le_refl _)
  have w2 := fw_line (n := es.length) (rs := idxB rdE es) (f := f) hx (idxB rdE es).length (fun i hi => rd_in hx hi) (fun i hi => (su i hi).1)
  have w3 := web_ag (n := es.length) (rs := idxB rdE es) (f := f) (row := rwL es rows) hx (rd_nodup hx) w1.1 (idxB rdE es).length (Nat.le_refl _) (fun i hi => rd_in hx hi) (fun i hi => (su i hi).1)
  exact ⟨w2.1, w1.1, w3.1, w2.2, w1.2, w3.2⟩
theorem web_four {n : Nat} {a b c d : List Int} (ha : Web n a) (hb : Web n b) (hc : Web n c) (hd : Web n d) : Web n (mixL orI (mixL orI a b) (mixL orI c d)) ∧
    ∀ i j, i < n → line (mixL orI (mixL orI a b) (mixL orI c d)) i j = (line a i j || line b i j || (line c i j || line d i j)) := by
  obtain ⟨h1, l1⟩ := web_join ha hb
  obtain ⟨h2, l2⟩ := web_join hc hd
  obtain ⟨h3, l3⟩ := web_join h1 h2
  exact ⟨h3, fun i j hi => by rw [l3 i j hi, l1 i j hi, l2 i j hi]⟩
theorem ow_line {es : List Ev} {f rows : List Int} (W : Webs es f rows) : Web es.length (owL es f) ∧ ∀ a j : Nat, a < es.length → line (owL es f) a j = (line (fwL es f) a j && !owP es a j) := by
  obtain ⟨h1, h2⟩ := web_offAll (p := owP es) W.fw es.length (Nat.le_refl _)
  refine ⟨h1, fun a j ha => ?_⟩
  unfold owL
  rw [h2 a j ha]
  cases hl : line (fwL es f) a j with
  | false => rfl
  | true =>
    have hj := W.fw.lt ha hl
    simp [ha, hj]
theorem place_ev {dss : List (List Dd)} (hb : workB dss = true) {j : Nat} (hj : j < (eventsB dss).length) : 0 ≤ ((eventsB dss).getD j zE).2.2.2.1 ∧ ((eventsB dss).getD j zE).2.2.2.1 ≤ 2 := by
  have e1 : eventsB dss = evsW dss dss.length := by rw [eventsB, if_pos hb]
  rw [e1] at hj ⊢
  exact place_in hb j hj
theorem beg_ev {dss : List (List Dd)} (hb : workB dss = true) : 3 ≤ (eventsB dss).length ∧ (eventsB dss).getD 0 zE = (-1, -1, false, 0, 0, 0) ∧ (eventsB dss).getD 1 zE = (-1, -1, false, 1, 0, 1) ∧ (eventsB dss).getD 2 zE = (-1, -1, false, 2, 0, 2) := by
  have e1 : eventsB dss = evsW dss dss.length := by rw [eventsB, if_pos hb]
  obtain ⟨t, ht⟩ := evs_pre dss 0 dss.length (Nat.zero_le _)
  have ht' : evsW dss dss.length = evBeg ++ t := ht
  rw [e1]
  refine ⟨by rw [ht']; simp [evBeg], beg_get ht'⟩
theorem beg_place {dss : List (List Dd)} (hb : workB dss = true) {i : Nat} (hi : i < 3) : ((eventsB dss).getD i zE).2.2.2.1 = (i : Int) ∧ ((eventsB dss).getD i zE).2.2.1 = false ∧ csE ((eventsB dss).getD i zE) = (i : Int) ∧ ((eventsB dss).getD i zE).1 = -1 := by
  obtain ⟨_, h0, h1, h2⟩ := beg_ev hb
  rcases (by omega : i = 0 ∨ i = 1 ∨ i = 2) with rfl | rfl | rfl
  · rw [h0]; exact ⟨rfl, rfl, rfl, rfl⟩
  · rw [h1]; exact ⟨rfl, rfl, rfl, rfl⟩
  · rw [h2]; exact ⟨rfl, rfl, rfl, rfl⟩
structure Told (dss : List (List Dd)) (f rows : List Int) : Prop where
  work : workB dss = true
  twelve : (eventsB dss).length ≤ 12
  webs : Webs (eventsB dss) f rows
  src : srcB (chcL (eventsB dss)) f = true
  rws : rowsL (eventsB dss) rows = true
  pw : Web (eventsB dss).length (pwL (eventsB dss) f rows)
  pwl : ∀ i j, i < (eventsB dss).length → line (pwL (eventsB dss) f rows) i j = (line (plcL (eventsB dss)) i j || line (fwL (eventsB dss) f) i j || (line (rwL (eventsB dss) rows) i j || line (agL (eventsB dss) f rows) i j))
  sw : Web (eventsB dss).length (swL dss (eventsB dss) f rows)
  swl : ∀ i j, i < (eventsB dss).length → line (swL dss (eventsB dss) f rows) i j = (line (kepL dss (eventsB dss)) i j || line (owL (eventsB dss) f) i j || (line (rwL (eventsB dss) rows) i j || line (agL (eventsB dss) f rows) i j))
  xw : Web (eventsB dss).length (xwL (eventsB dss) f rows)
  xwl : ∀ i j, i < (eventsB dss).length → line (xwL (eventsB dss) f rows) i j = (line (behL (eventsB dss)) i j || line (fwL (eventsB dss) f) i j || (line (rwL (eventsB dss) rows) i j || line (agL (eventsB dss) f rows) i j))
  cls : (clsB (eventsB dss)).length = (eventsB dss).length
theorem told_of {dss : List (List Dd)} {f rows : List Int} (h : taleB dss f rows = true) : Told dss f rows := by
  obtain ⟨hb, hs, hr⟩ := tale_use h
  have hx := eventsB_12 dss
  have W := webs_of hx hs hr
  have p := web_four (plc_line hx).1 W.fw W.rw' W.ag
  have s := web_four (kep_line (dss := dss) hx).1 (ow_line W).1 W.rw' W.ag
  have x := web_four (beh_line hx).1 W.fw W.rw' W.ag
  exact ⟨hb, hx, W, hs, hr, p.1, p.2, s.1, s.2, x.1, x.2, by unfold clsB; rw [if_pos hx, List.length_map]⟩
structure Sys where
  n : Nat
  ck : Nat → Int
  pl : Nat → Nat
  rd : Nat → Bool
  cs : Nat → Int
  ex : Nat → Nat → Bool
structure AbsSt where
  X : Nat → Prop
  N : Int → List Nat
  R : Nat → List Nat
  F : Nat → Nat
  τ : Nat → Nat
def AbsSt.L (S : Sys) (s : AbsSt) (c : Int) (p : Nat) : List Nat := s.R p ++ (s.N c).filter (fun x => S.pl x == p)
def AbsSt.D (S : Sys) (s : AbsSt) (j : Nat) : Prop := s.X j ∧ j ∉ s.N (S.ck j)
def AbsSt.v (S : Sys) (s : AbsSt) (i : Nat) : Nat := if S.rd i = true then s.F i else i
abbrev Bef (L : List Nat) (x y : Nat) : Prop := [x, y].Sublist L
structure AInv (S : Sys) (s : AbsSt) (T : Nat) (z : Int) : Prop where
  beg : ∀ j, j < 3 → s.X j ∧ S.rd j = false ∧ S.pl j = j ∧ S.ck j = -1 ∧ s.τ j = 0 ∧ S.cs j = j
  lt : ∀ j, s.X j → j < S.n
  down : ∀ i j, s.X j → 3 ≤ i → i < j → S.ck i = S.ck j → s.X i
  note : ∀ c x, x ∈ s.N c → s.X x ∧ 3 ≤ x ∧ S.ck x = c ∧ S.rd x = false
  nord : ∀ c, (s.N c).Pairwise (· < ·)
  pend : ∀ c x j, x ∈ s.N c → s.X j → x < j → S.ck j = c → (S.rd j = true ∧ S.ex x j = true) ∨ j ∈ s.N c
  rows : ∀ p x, x ∈ s.R p ↔ s.D S x ∧ S.rd x = false ∧ S.pl x = p
  rnod : ∀ p, (s.R p).Nodup
  rord : ∀ p, (s.R p).Pairwise (fun x y => s.τ x ≤ s.τ y)
  tle : ∀ j, s.D S j → s.τ j ≤ T
  tpos : ∀ j, s.D S j → 3 ≤ j → 1 ≤ s.τ j
  same : ∀ i j, s.D S i → s.D S j → 3 ≤ i → 3 ≤ j → s.τ i = s.τ j → S.cs i = S.cs j
  mate : ∀ i j, s.D S i → s.D S j → 3 ≤ i → 3 ≤ j → S.cs i = S.cs j → s.τ i = s.τ j
  now : ∀ i, s.D S i → 3 ≤ i → (s.τ i = T ↔ S.cs i = z)
  kept : ∀ i j, s.D S i → s.D S j → 3 ≤ i → i < j → S.ck i = S.ck j → S.cs i ≠ S.cs j → S.ex i j = false → s.τ i < s.τ j
  src : ∀ r, s.X r → S.rd r = true → s.X (s.F r) ∧ S.rd (s.F r) = false ∧ S.pl (s.F r) = S.pl r ∧ ((3 ≤ s.F r ∧ S.ck (s.F r) = S.ck r) ∨ (s.D S (s.F r) ∧ s.τ (s.F r) ≤ s.τ r))
  agst : ∀ r w p, s.X r → S.rd r = true → Bef (s.R p) (s.F r) w → s.τ r ≤ s.τ w
  inL : ∀ i, s.X i → 3 ≤ i → s.v S i ∈ s.L S (S.ck i) (S.pl i)
  coh : ∀ i j, s.X i → s.X j → 3 ≤ i → i < j → S.ck i = S.ck j → S.pl i = S.pl j → s.v S i = s.v S j ∨ Bef (s.L S (S.ck i) (S.pl i)) (s.v S i) (s.v S j)
  cohw : ∀ i j, s.X i → s.X j → 3 ≤ i → i < j → S.ck i = S.ck j → S.pl i = S.pl j → S.rd i = true → S.rd j = false → s.F i ≠ j
structure Nxt (S : Sys) (s : AbsSt) (j : Nat) : Prop where
  three : 3 ≤ j
  lt : j < S.n
  new : ¬ s.X j
  all : ∀ i, 3 ≤ i → i < j → S.ck i = S.ck j → s.X i
  last : ∀ i, s.X i → 3 ≤ i → S.ck i = S.ck j → i < j
theorem bef_mem {L : List Nat} {x y : Nat} (h : Bef L x y) : x ∈ L ∧ y ∈ L := ⟨h.subset (by simp), h.subset (by simp)⟩
theorem bef_snoc {L : List Nat} {x w : Nat} (h : x ∈ L) : Bef (L ++ [w]) x w := by
  have h1 : [x].Sublist L := List.singleton_sublist.2 h
  exact h1.append (List.Sublist.refl [w])
theorem bef_last {L : List Nat} {x y : Nat} (hn : (L ++ [x]).Nodup) (h : Bef (L ++ [x]) x y) : False := by
  have h2 : ¬ x ∈ L := by
    rw [List.nodup_append] at hn
    intro hx
    exact hn.2.2 x hx x (by simp) rfl
  obtain ⟨l1, l2, e, s1, s2⟩ := List.sublist_append_iff.1 h
  cases l1 with
  | nil =>
    simp only [List.nil_append] at e
    rw [← e] at s2
    have := s2.length_le
    simp at this
  | cons a l1 =>
    simp only [List.cons_append, List.cons.injEq] at e
    rw [← e.1] at s1
    exact h2 (s1.subset (by simp))
theorem bef_snoc_old {L : List Nat} {x y w : Nat} (h : Bef (L ++ [w]) x y) (hy : y ≠ w) : Bef L x y := by
  obtain ⟨l1, l2, e, s1, s2⟩ := List.sublist_append_iff.1 h
  have hl2 : l2 = [] := by
    cases l2 with
    | nil => rfl
    | cons a l2 =>
      have hl := s2.length_le
      simp at hl
      subst hl
      have ha : a = w := by simpa using s2
      have : y = a := by
        have := congrArg List.getLast? e
        simpa using this
      exact absurd (this.trans ha) hy
  subst hl2
  rw [List.append_nil] at e
  rw [← e] at s1
  exact s1
theorem bef_of_last {L : List Nat} {x : Nat} (hx : x ∈ L) {l : Nat} (hl : L.getLast? = some l) : x = l ∨ Bef L x l := by
  obtain ⟨L', rfl⟩ := List.getLast?_eq_some_iff.1 hl
  rw [List.mem_append] at hx
  rcases hx with hx | hx
  · exact .inr (bef_snoc hx)
  · exact .inl (by simpa using hx)
theorem AInv.read_done {S : Sys} {s : AbsSt} {T : Nat} {z : Int} (h : AInv S s T z) {r : Nat} (hx : s.X r) (hr : S.rd r = true) : s.D S r :=
  ⟨hx, fun hn => by have := (h.note _ _ hn).2.2.2; rw [hr] at this; cases this⟩
theorem AInv.tick {S : Sys} {s : AbsSt} {T : Nat} {z : Int} (h : AInv S s T z) (z' : Int) (hz : ∀ i, s.D S i → 3 ≤ i → S.cs i ≠ z') : AInv S s (T + 1) z' :=
  { h with
    tle := fun j hj => Nat.le_succ_of_le (h.tle j hj)
    now := fun i hi h3 => ⟨fun e => by have := h.tle i hi; omega, fun e => absurd e (hz i hi h3)⟩ }
def AbsSt.doNote (S : Sys) (s : AbsSt) (j : Nat) : AbsSt := { s with X := fun i => s.X i ∨ i = j, N := fun c => if c = S.ck j then s.N c ++ [j] else s.N c }
def AbsSt.doRead (s : AbsSt) (T j f : Nat) : AbsSt := { s with X := fun i => s.X i ∨ i = j, F := fun i => if i = j then f else s.F i, τ := fun i => if i = j then T else s.τ i }
def AbsSt.doInk (S : Sys) (s : AbsSt) (T j : Nat) : AbsSt := { s with X := fun i => s.X i ∨ i = j, R := fun p => if p = S.pl j then s.R p ++ [j] else s.R p, τ := fun i => if i = j then T else s.τ i }
def AbsSt.doFlush (S : Sys) (s : AbsSt) (T : Nat) (c : Int) (x : Nat) (rest : List Nat) : AbsSt := { s with N := fun c' => if c' = c then rest else s.N c', R := fun p => if p = S.pl x then s.R p ++ [x] else s.R p, τ := fun i => if i = x then T else s.τ i }
theorem AInv.doNote {S : Sys} {s : AbsSt} {T : Nat} {z : Int} (h : AInv S s T z) {j : Nat} (hn : Nxt S s j) (hr : S.rd j = false) : AInv S (s.doNote S j) T z := by
  have hne : ∀ i, s.X i → i ≠ j := fun i hi e => hn.new (by rw [← e]; exact hi)
  have nmem : ∀ c x, x ∈ (s.doNote S j).N c ↔ x ∈ s.N c ∨ (c = S.ck j ∧ x = j) := by
    intro c x
    show x ∈ (if c = S.ck j then s.N c ++ [j] else s.N c) ↔ _
    split
    · rename_i e; simp [e]
    · rename_i e; simp [e]
  have hD : ∀ i, (s.doNote S j).D S i ↔ s.D S i := by
    intro i
    unfold AbsSt.D
    rw [nmem]
    show ((s.X i ∨ i = j) ∧ _) ↔ _
    constructor
    · rintro ⟨h1 | rfl, h2⟩
      · exact ⟨h1, fun hm => h2 (.inl hm)⟩
      · exact absurd (.inr ⟨rfl, rfl⟩) h2
    · rintro ⟨h1, h2⟩
      refine ⟨.inl h1, ?_⟩
      rintro (hm | ⟨_, e⟩)
      · exact h2 hm
      · exact hne i h1 e
  have hsub : ∀ c p, (s.L S c p).Sublist ((s.doNote S j).L S c p) := by
    intro c p
    refine List.Sublist.append (List.Sublist.refl _) ?_
    show List.Sublist _ ((if c = S.ck j then s.N c ++ [j] else s.N c).filter _)
    split
    · rw [List.filter_append]; exact List.sublist_append_left _ _
    · exact List.Sublist.refl _
  have hlast : (s.doNote S j).L S (S.ck j) (S.pl j) = s.L S (S.ck j) (S.pl j) ++ [j] := by
    unfold AbsSt.L AbsSt.doNote
    simp [List.filter_append]
  have hv : ∀ i, (s.doNote S j).v S i = s.v S i := fun i => rfl
  have hvj : s.v S j = j := by unfold AbsSt.v; rw [hr]; rfl
  refine { h with beg := fun i hi => ⟨.inl (h.beg i hi).1, (h.beg i hi).2⟩, lt := ?_, down := ?_, note := ?_, nord := ?_, pend := ?_, rows := ?_, tle := ?_, tpos := ?_, same := ?_, mate := ?_, now := ?_, kept := ?_, src := ?_, agst := ?_, inL := ?_, coh := ?_, cohw := ?_ }
  · rintro i (hi | rfl)
    · exact h.lt i hi
    · exact hn.lt
  · rintro i k (hk | rfl) h3 hik hc
    · exact .inl (h.down i k hk h3 hik hc)
    · exact .inl (hn.all i h3 hik hc)
  · intro c x hx
    rcases (nmem c x).1 hx with hx | ⟨rfl, rfl⟩
    · exact ⟨.inl (h.note c x hx).1, (h.note c x hx).2⟩
    · exact ⟨.inr rfl, hn.three, rfl, hr⟩
  · intro c
    show (if c = S.ck j then s.N c ++ [j] else s.N c).Pairwise _
    split
    · rename_i e
      rw [List.pairwise_append]
      refine ⟨h.nord c, by simp, fun x hx y hy => ?_⟩
      have hy' : y = j := by simpa using hy
      subst hy'
      have hq := h.note c x hx
      exact hn.last x hq.1 hq.2.1 (by rw [hq.2.2.1, e])
    · exact h.nord c
  · intro c x k hx hk hxk hc
    rcases (nmem c x).1 hx with hx | ⟨rfl, rfl⟩
    · rcases hk with hk | rfl
      · rcases h.pend c x k hx hk hxk hc with hp | hp
        · exact .inl hp
        · exact .inr ((nmem c k).2 (.inl hp))
      · exact .inr ((nmem c k).2 (.inr ⟨hc.symm, rfl⟩))
    · rcases hk with hk | rfl
      · have := hn.last k hk (by have := hn.three; omega) hc; omega
      · omega
  · intro p x; rw [hD]; exact h.rows p x
  · intro i hi; exact h.tle i ((hD i).1 hi)
  · intro i hi; exact h.tpos i ((hD i).1 hi)
  · intro i k hi hk; exact h.same i k ((hD i).1 hi) ((hD k).1 hk)
  · intro i k hi hk; exact h.mate i k ((hD i).1 hi) ((hD k).1 hk)
  · intro i hi; exact h.now i ((hD i).1 hi)
  · intro i k hi hk; exact h.kept i k ((hD i).1 hi) ((hD k).1 hk)
  · rintro r (hx | rfl) hrd
    · obtain ⟨a, b, c, d⟩ := h.src r hx hrd
      exact ⟨.inl a, b, c, d.imp id (fun d => ⟨(hD _).2 d.1, d.2⟩)⟩
    · rw [hr] at hrd; cases hrd
  · rintro r w p (hx | rfl) hrd hb
    · exact h.agst r w p hx hrd hb
    · rw [hr] at hrd; cases hrd
  · rintro i (hi | rfl) h3
    · exact (hsub _ _).subset (h.inL i hi h3)
    · rw [hlast, hv, hvj]; simp
  · rintro i k (hi | rfl) (hk | rfl) h3 hik hc hp
    · exact (h.coh i k hi hk h3 hik hc hp).imp id (fun hb => hb.trans (hsub _ _))
    · refine .inr ?_
      rw [hc, hp, hlast, hv, hv, hvj, ← hc, ← hp]
      exact bef_snoc (h.inL i hi h3)
    · have := hn.last k hk (by omega) hc.symm; omega
    · omega
  · rintro i k (hi | rfl) (hk | rfl) h3 hik hc hp h1 h2
    · exact h.cohw i k hi hk h3 hik hc hp h1 h2
    · exact hne _ (h.src i hi h1).1
    · have := hn.last k hk (by omega) hc.symm; omega
    · omega
theorem AInv.doRead {S : Sys} {s : AbsSt} {T : Nat} {z : Int} (h : AInv S s T z) (hT : 1 ≤ T) {j f : Nat} (hn : Nxt S s j) (hr : S.rd j = true) (hz : S.cs j = z) (hex : ∀ x, x ∈ s.N (S.ck j) → S.ex x j = true)
    (hf : (s.L S (S.ck j) (S.pl j)).getLast? = some f) : AInv S (s.doRead T j f) T z := by
  have hne : ∀ i, s.X i → i ≠ j := fun i hi e => hn.new (by rw [← e]; exact hi)
  have hD : ∀ i, (s.doRead T j f).D S i ↔ s.D S i ∨ i = j := by
    intro i
    show ((s.X i ∨ i = j) ∧ i ∉ s.N (S.ck i)) ↔ _
    constructor
    · rintro ⟨h1 | rfl, h2⟩
      · exact .inl ⟨h1, h2⟩
      · exact .inr rfl
    · rintro (⟨h1, h2⟩ | rfl)
      · exact ⟨.inl h1, h2⟩
      · exact ⟨.inr rfl, fun hm => hn.new (h.note _ _ hm).1⟩
  have hτ : ∀ i, i ≠ j → (s.doRead T j f).τ i = s.τ i := fun i hi => by show (if i = j then T else s.τ i) = _; rw [if_neg hi]
  have hτj : (s.doRead T j f).τ j = T := by show (if j = j then T else s.τ j) = T; rw [if_pos rfl]
  have hF : ∀ i, i ≠ j → (s.doRead T j f).F i = s.F i := fun i hi => by show (if i = j then f else s.F i) = _; rw [if_neg hi]
  have hFj : (s.doRead T j f).F j = f := by show (if j = j then f else s.F j) = f; rw [if_pos rfl]
  have hv : ∀ i, i ≠ j → (s.doRead T j f).v S i = s.v S i := fun i hi => by unfold AbsSt.v; rw [hF i hi]
  have hvj : (s.doRead T j f).v S j = f := by unfold AbsSt.v; rw [hr, hFj]; rfl
  have hfm : f ∈ s.L S (S.ck j) (S.pl j) := List.mem_of_getLast? hf
  have hfX : s.X f ∧ S.rd f = false ∧ S.pl f = S.pl j ∧ ((3 ≤ f ∧ S.ck f = S.ck j ∧ f ∈ s.N (S.ck j)) ∨ s.D S f) := by
    unfold AbsSt.L at hfm
    rw [List.mem_append, List.mem_filter] at hfm
    rcases hfm with hm | ⟨hm, hp⟩
    · obtain ⟨a, b, c⟩ := (h.rows _ _).1 hm
      exact ⟨a.1, b, c, .inr a⟩
    · obtain ⟨a, b, c, d⟩ := h.note _ _ hm
      exact ⟨a, d, by simpa using hp, .inl ⟨b, c, hm⟩⟩
  refine { h with beg := fun i hi => ⟨.inl (h.beg i hi).1, (h.beg i hi).2.1, (h.beg i hi).2.2.1, (h.beg i hi).2.2.2.1, by rw [hτ i (hne i (h.beg i hi).1)]; exact (h.beg i hi).2.2.2.2.1, (h.beg i hi).2.2.2.2.2⟩, lt := ?_, down := ?_, note := ?_, pend := ?_, rows := ?_, rord := ?_, tle := ?_, tpos := ?_, same := ?_, mate := ?_, now := ?_, kept := ?_, src := ?_, agst := ?_, inL := ?_, coh := ?_, cohw := ?_ }
  · rintro i (hi | rfl)
    · exact h.lt i hi
    · exact hn.lt
  · rintro i k (hk | rfl) h3 hik hc
    · exact .inl (h.down i k hk h3 hik hc)
    · exact .inl (hn.all i h3 hik hc)
  · intro c x hx
    exact ⟨.inl (h.note c x hx).1, (h.note c x hx).2⟩
  · rintro c x k hx (hk | rfl) hxk hc
    · exact h.pend c x k hx hk hxk hc
    · exact .inl ⟨hr, hex x (by rw [hc]; exact hx)⟩
  · intro p x
    rw [hD]
    refine (h.rows p x).trans ⟨fun ⟨a, b⟩ => ⟨.inl a, b⟩, fun ⟨a, b⟩ => ⟨a.resolve_right (fun e => ?_), b⟩⟩
    rw [e, hr] at b
    cases b.1
  · intro p
    refine (h.rord p).imp_of_mem (fun {x y} hx hy hxy => ?_)
    rw [hτ x (hne x ((h.rows p x).1 hx).1.1), hτ y (hne y ((h.rows p y).1 hy).1.1)]
    exact hxy
  · intro i hi
    rcases (hD i).1 hi with hi | rfl
    · rw [hτ i (hne i hi.1)]; exact h.tle i hi
    · rw [hτj]; exact Nat.le_refl _
  · intro i hi h3
    rcases (hD i).1 hi with hi | rfl
    · rw [hτ i (hne i hi.1)]; exact h.tpos i hi h3
    · rw [hτj]; exact hT
  · intro i k hi hk h3 h3' e
    rcases (hD i).1 hi with ai | rfl <;> rcases (hD k).1 hk with ak | rfl
    · rw [hτ i (hne i ai.1), hτ k (hne k ak.1)] at e; exact h.same i k ai ak h3 h3' e
    · rw [hτ i (hne i ai.1), hτj] at e; rw [hz]; exact (h.now i ai h3).1 e
    · rw [hτ k (hne k ak.1), hτj] at e; rw [hz]; exact ((h.now k ak h3').1 e.symm).symm
    · rfl
  · intro i k hi hk h3 h3' e
    rcases (hD i).1 hi with ai | rfl <;> rcases (hD k).1 hk with ak | rfl
    · rw [hτ i (hne i ai.1), hτ k (hne k ak.1)]; exact h.mate i k ai ak h3 h3' e
    · rw [hτ i (hne i ai.1), hτj]; exact (h.now i ai h3).2 (by rw [e, hz])
    · rw [hτ k (hne k ak.1), hτj]; exact ((h.now k ak h3').2 (by rw [← e, hz])).symm
    · rfl
  · intro i hi h3
    rcases (hD i).1 hi with hi | rfl
    · rw [hτ i (hne i hi.1)]; exact h.now i hi h3
    · rw [hτj, hz]; simp
  · intro i k hi hk h3 hik hc hcs hx
    rcases (hD i).1 hi with ai | rfl <;> rcases (hD k).1 hk with ak | rfl
    · rw [hτ i (hne i ai.1), hτ k (hne k ak.1)]; exact h.kept i k ai ak h3 hik hc hcs hx
    · rw [hτ i (hne i ai.1), hτj]
      have h1 := h.tle i ai
      have h2 : s.τ i ≠ T := fun e => hcs (by rw [hz]; exact (h.now i ai h3).1 e)
      omega
    · have := hn.last k ak.1 (by omega) hc.symm; omega
    · omega
  · rintro r (hx | rfl) hrd
    · rw [hF r (hne r hx), hτ r (hne r hx)]
      obtain ⟨a, b, c, d⟩ := h.src r hx hrd
      exact ⟨.inl a, b, c, d.imp id (fun d => ⟨(hD _).2 (.inl d.1), by rw [hτ _ (hne _ d.1.1)]; exact d.2⟩)⟩
    · rw [hFj, hτj]
      obtain ⟨a, b, c, d⟩ := hfX
      exact ⟨.inl a, b, c, d.imp (fun d => ⟨d.1, d.2.1⟩) (fun d => ⟨(hD _).2 (.inl d), by rw [hτ _ (hne _ a)]; exact h.tle _ d⟩)⟩
  · rintro r w p (hx | rfl) hrd hb
    · rw [hF r (hne r hx)] at hb
      have hw := (h.rows p w).1 (bef_mem hb).2
      rw [hτ r (hne r hx), hτ w (hne w hw.1.1)]
      exact h.agst r w p hx hrd hb
    · rw [hFj] at hb
      exfalso
      have hm : f ∈ s.R p := (bef_mem hb).1
      obtain ⟨q1, q2, q3⟩ := (h.rows p f).1 hm
      have hp : p = S.pl r := by rw [← q3]; exact hfX.2.2.1
      subst hp
      have he : (s.N (S.ck r)).filter (fun x => S.pl x == S.pl r) = [] := by
        apply Classical.byContradiction
        intro hne'
        unfold AbsSt.L at hf
        have hf2 : ((s.N (S.ck r)).filter (fun x => S.pl x == S.pl r)).getLast? = some f := by
          rw [List.getLast?_append] at hf
          cases hq : ((s.N (S.ck r)).filter (fun x => S.pl x == S.pl r)).getLast? with
          | none => exact absurd (List.getLast?_eq_none_iff.1 hq) hne'
          | some y => rw [hq] at hf; exact hf
        have := List.mem_of_getLast? hf2
        rw [List.mem_filter] at this
        have hq := h.note _ _ this.1
        exact q1.2 (by rw [hq.2.2.1]; exact this.1)
      unfold AbsSt.L at hf
      rw [he, List.append_nil] at hf
      obtain ⟨L', e⟩ := List.getLast?_eq_some_iff.1 hf
      have hnd := h.rnod (S.pl r)
      change Bef (s.R (S.pl r)) f w at hb
      rw [e] at hb hnd
      exact bef_last hnd hb
  · rintro i (hi | rfl) h3
    · rw [hv i (hne i hi)]; exact h.inL i hi h3
    · rw [hvj]; exact hfm
  · rintro i k (hi | rfl) (hk | rfl) h3 hik hc hp
    · rw [hv i (hne i hi), hv k (hne k hk)]; exact h.coh i k hi hk h3 hik hc hp
    · rw [hv i (hne i hi), hvj]
      have hm := h.inL i hi h3
      rw [hc, hp] at hm ⊢
      exact bef_of_last hm hf
    · have := hn.last k hk (by omega) hc.symm; omega
    · omega
  · rintro i k (hi | rfl) (hk | rfl) h3 hik hc hp h1 h2
    · rw [hF i (hne i hi)]; exact h.cohw i k hi hk h3 hik hc hp h1 h2
    · rw [hr] at h2; cases h2
    · have := hn.last k hk (by omega) hc.symm; omega
    · omega
theorem AInv.doInk {S : Sys} {s : AbsSt} {T : Nat} {z : Int} (h : AInv S s T z) (hT : 1 ≤ T) {j : Nat} (hn : Nxt S s j) (hr : S.rd j = false) (hz : S.cs j = z) (hN : s.N (S.ck j) = []) : AInv S (s.doInk S T j) T z := by
  have hne : ∀ i, s.X i → i ≠ j := fun i hi e => hn.new (by rw [← e]; exact hi)
  have hD : ∀ i, (s.doInk S T j).D S i ↔ s.D S i ∨ i = j := by
    intro i
    show ((s.X i ∨ i = j) ∧ i ∉ s.N (S.ck i)) ↔ _
    constructor
    · rintro ⟨h1 | rfl, h2⟩
      · exact .inl ⟨h1, h2⟩
      · exact .inr rfl
    · rintro (⟨h1, h2⟩ | rfl)
      · exact ⟨.inl h1, h2⟩
      · exact ⟨.inr rfl, fun hm => hn.new (h.note _ _ hm).1⟩
  have hτ : ∀ i, i ≠ j → (s.doInk S T j).τ i = s.τ i := fun i hi => by show (if i = j then T else s.τ i) = _; rw [if_neg hi]
  have hτj : (s.doInk S T j).τ j = T := by show (if j = j then T else s.τ j) = T; rw [if_pos rfl]
  have hR : ∀ p, (s.doInk S T j).R p = if p = S.pl j then s.R p ++ [j] else s.R p := fun p => rfl
  have hv : ∀ i, (s.doInk S T j).v S i = s.v S i := fun i => rfl
  have hvj : s.v S j = j := by unfold AbsSt.v; rw [hr]; rfl
  have hjR : ∀ p, j ∉ s.R p := fun p hm => hn.new ((h.rows p j).1 hm).1.1
  have hRs : ∀ p, (s.R p).Sublist ((s.doInk S T j).R p) := fun p => by
    rw [hR]
    split
    · exact List.sublist_append_left _ _
    · exact List.Sublist.refl _
  have hsub : ∀ c p, (s.L S c p).Sublist ((s.doInk S T j).L S c p) := fun c p => List.Sublist.append (hRs p) (List.Sublist.refl _)
  have hlast : (s.doInk S T j).L S (S.ck j) (S.pl j) = s.L S (S.ck j) (S.pl j) ++ [j] := by
    unfold AbsSt.L
    rw [hR, if_pos rfl]
    show s.R (S.pl j) ++ [j] ++ (s.N (S.ck j)).filter _ = s.R (S.pl j) ++ (s.N (S.ck j)).filter _ ++ [j]
    rw [hN]
    simp
  refine { h with beg := fun i hi => ⟨.inl (h.beg i hi).1, (h.beg i hi).2.1, (h.beg i hi).2.2.1, (h.beg i hi).2.2.2.1, by rw [hτ i (hne i (h.beg i hi).1)]; exact (h.beg i hi).2.2.2.2.1, (h.beg i hi).2.2.2.2.2⟩, lt := ?_, down := ?_, note := ?_, pend := ?_, rows := ?_, rnod := ?_, rord := ?_, tle := ?_, tpos := ?_, same := ?_, mate := ?_, now := ?_, kept := ?_, src := ?_, agst := ?_, inL := ?_, coh := ?_, cohw := ?_ }
  · rintro i (hi | rfl)
    · exact h.lt i hi
    · exact hn.lt
  · rintro i k (hk | rfl) h3 hik hc
    · exact .inl (h.down i k hk h3 hik hc)
    · exact .inl (hn.all i h3 hik hc)
  · intro c x hx
    exact ⟨.inl (h.note c x hx).1, (h.note c x hx).2⟩
  · rintro c x k hx (hk | rfl) hxk hc
    · exact h.pend c x k hx hk hxk hc
    · change x ∈ s.N c at hx
      rw [← hc, hN] at hx
      cases hx
  · intro p x
    rw [hD, hR]
    by_cases hp : p = S.pl j
    · rw [if_pos hp, List.mem_append, h.rows p x]
      constructor
      · rintro (⟨a, b⟩ | hx)
        · exact ⟨.inl a, b⟩
        · have e : x = j := by simpa using hx
          exact ⟨.inr e, by rw [e]; exact hr, by rw [e, hp]⟩
      · rintro ⟨a | rfl, b⟩
        · exact .inl ⟨a, b⟩
        · exact .inr (by simp)
    · rw [if_neg hp, h.rows p x]
      constructor
      · rintro ⟨a, b⟩; exact ⟨.inl a, b⟩
      · rintro ⟨a | rfl, b⟩
        · exact ⟨a, b⟩
        · exact absurd b.2.symm hp
  · intro p
    rw [hR]
    split
    · rw [List.nodup_append]
      refine ⟨h.rnod p, by simp, fun x hx y hy e => ?_⟩
      have : y = j := by simpa using hy
      exact hjR p (by rw [← this, ← e]; exact hx)
    · exact h.rnod p
  · intro p
    have old : (s.R p).Pairwise (fun x y => (s.doInk S T j).τ x ≤ (s.doInk S T j).τ y) := (h.rord p).imp_of_mem (fun {x y} hx hy hxy => by
      rw [hτ x (hne x ((h.rows p x).1 hx).1.1), hτ y (hne y ((h.rows p y).1 hy).1.1)]
      exact hxy)
    rw [hR]
    split
    · rw [List.pairwise_append]
      refine ⟨old, by simp, fun x hx y hy => ?_⟩
      have : y = j := by simpa using hy
      have hx' := ((h.rows p x).1 hx).1
      rw [this, hτj, hτ x (hne x hx'.1)]
      exact h.tle x hx'
    · exact old
  · intro i hi
    rcases (hD i).1 hi with ai | rfl
    · rw [hτ i (hne i ai.1)]; exact h.tle i ai
    · rw [hτj]; exact Nat.le_refl _
  · intro i hi h3
    rcases (hD i).1 hi with ai | rfl
    · rw [hτ i (hne i ai.1)]; exact h.tpos i ai h3
    · rw [hτj]; exact hT
  · intro i k hi hk h3 h3' e
    rcases (hD i).1 hi with ai | rfl <;> rcases (hD k).1 hk with ak | rfl
    · rw [hτ i (hne i ai.1), hτ k (hne k ak.1)] at e; exact h.same i k ai ak h3 h3' e
    · rw [hτ i (hne i ai.1), hτj] at e; rw [hz]; exact (h.now i ai h3).1 e
    · rw [hτ k (hne k ak.1), hτj] at e; rw [hz]; exact ((h.now k ak h3').1 e.symm).symm
    · rfl
  · intro i k hi hk h3 h3' e
    rcases (hD i).1 hi with ai | rfl <;> rcases (hD k).1 hk with ak | rfl
    · rw [hτ i (hne i ai.1), hτ k (hne k ak.1)]; exact h.mate i k ai ak h3 h3' e
    · rw [hτ i (hne i ai.1), hτj]; exact (h.now i ai h3).2 (by rw [e, hz])
    · rw [hτ k (hne k ak.1), hτj]; exact ((h.now k ak h3').2 (by rw [← e, hz])).symm
    · rfl
  · intro i hi h3
    rcases (hD i).1 hi with ai | rfl
    · rw [hτ i (hne i ai.1)]; exact h.now i ai h3
    · rw [hτj, hz]; simp
  · intro i k hi hk h3 hik hc hcs hx
    rcases (hD i).1 hi with ai | rfl <;> rcases (hD k).1 hk with ak | rfl
    · rw [hτ i (hne i ai.1), hτ k (hne k ak.1)]; exact h.kept i k ai ak h3 hik hc hcs hx
    · rw [hτ i (hne i ai.1), hτj]
      have h1 := h.tle i ai
      have h2 : s.τ i ≠ T := fun e => hcs (by rw [hz]; exact (h.now i ai h3).1 e)
      omega
    · have := hn.last k ak.1 (by omega) hc.symm; omega
    · omega
  · rintro r (hx | rfl) hrd
    · rw [hτ r (hne r hx)]
      obtain ⟨a, b, c, d⟩ := h.src r hx hrd
      exact ⟨.inl a, b, c, d.imp id (fun d => ⟨(hD _).2 (.inl d.1), by show (s.doInk S T j).τ (s.F r) ≤ _; rw [hτ _ (hne _ d.1.1)]; exact d.2⟩)⟩
    · rw [hr] at hrd; cases hrd
  · rintro r w p (hx | rfl) hrd hb
    · rw [hτ r (hne r hx)]
      by_cases hw : w = j
      · rw [hw, hτj]; exact h.tle r (h.read_done hx hrd)
      · rw [hτ w hw]
        rw [hR] at hb
        by_cases hp : p = S.pl j
        · rw [if_pos hp] at hb
          exact h.agst r w p hx hrd (bef_snoc_old hb hw)
        · rw [if_neg hp] at hb
          exact h.agst r w p hx hrd hb
    · rw [hr] at hrd; cases hrd
  · rintro i (hi | rfl) h3
    · exact (hsub _ _).subset (h.inL i hi h3)
    · rw [hlast, hv, hvj]; simp
  · rintro i k (hi | rfl) (hk | rfl) h3 hik hc hp
    · exact (h.coh i k hi hk h3 hik hc hp).imp id (fun hb => hb.trans (hsub _ _))
    · refine .inr ?_
      rw [hc, hp, hlast, hv, hv, hvj, ← hc, ← hp]
      exact bef_snoc (h.inL i hi h3)
    · have := hn.last k hk (by omega) hc.symm; omega
    · omega
  · rintro i k (hi | rfl) (hk | rfl) h3 hik hc hp h1 h2
    · exact h.cohw i k hi hk h3 hik hc hp h1 h2
    · exact hne _ (h.src i hi h1).1
    · have := hn.last k hk (by omega) hc.symm; omega
    · omega
theorem AInv.doFlush {S : Sys} {s : AbsSt} {T : Nat} {z : Int} (h : AInv S s T z) (hT : 1 ≤ T) {c : Int} {x : Nat} {rest : List Nat} (hN : s.N c = x :: rest) (hz : S.cs x = z) : AInv S (s.doFlush S T c x rest) T z := by
  have hx0 := h.note c x (by rw [hN]; simp)
  obtain ⟨hxX, hx3, hxc, hxr⟩ := hx0
  have hord := h.nord c
  rw [hN, List.pairwise_cons] at hord
  have hxrest : x ∉ rest := fun hm => by have := hord.1 x hm; omega
  have hxN : x ∈ s.N (S.ck x) := by rw [hxc, hN]; simp
  have hxD : ¬ s.D S x := fun hd => hd.2 hxN
  have hne : ∀ i, s.D S i → i ≠ x := fun i hi e => hxD (by rw [← e]; exact hi)
  have nmem : ∀ c' y, y ∈ (s.doFlush S T c x rest).N c' ↔ y ∈ s.N c' ∧ ¬ (c' = c ∧ y = x) := by
    intro c' y
    show y ∈ (if c' = c then rest else s.N c') ↔ _
    by_cases e : c' = c
    · subst e
      rw [if_pos rfl, hN]
      constructor
      · intro hm
        exact ⟨List.mem_cons_of_mem _ hm, fun hq => hxrest (by rw [← hq.2]; exact hm)⟩
      · rintro ⟨hm, hq⟩
        rcases List.mem_cons.1 hm with rfl | hm
        · exact absurd ⟨rfl, rfl⟩ hq
        · exact hm
    · rw [if_neg e]
      exact ⟨fun hm => ⟨hm, fun hq => e hq.1⟩, fun hm => hm.1⟩
  have hD : ∀ i, (s.doFlush S T c x rest).D S i ↔ s.D S i ∨ i = x := by
    intro i
    unfold AbsSt.D
    rw [nmem]
    show (s.X i ∧ _) ↔ _
    constructor
    · rintro ⟨h1, h2⟩
      by_cases e : i = x
      · exact .inr e
      · exact .inl ⟨h1, fun hm => h2 ⟨hm, fun hq => e hq.2⟩⟩
    · rintro (⟨h1, h2⟩ | rfl)
      · exact ⟨h1, fun hm => h2 hm.1⟩
      · exact ⟨hxX, fun hm => hm.2 ⟨hxc, rfl⟩⟩
  have hτ : ∀ i, i ≠ x → (s.doFlush S T c x rest).τ i = s.τ i := fun i hi => by show (if i = x then T else s.τ i) = _; rw [if_neg hi]
  have hτx : (s.doFlush S T c x rest).τ x = T := by show (if x = x then T else s.τ x) = T; rw [if_pos rfl]
  have hR : ∀ p, (s.doFlush S T c x rest).R p = if p = S.pl x then s.R p ++ [x] else s.R p := fun p => rfl
  have hxR : ∀ p, x ∉ s.R p := fun p hm => hxD ((h.rows p x).1 hm).1
  have hRs : ∀ p, (s.R p).Sublist ((s.doFlush S T c x rest).R p) := fun p => by
    rw [hR]
    split
    · exact List.sublist_append_left _ _
    · exact List.Sublist.refl _
  have hrne : ∀ r, S.rd r = true → r ≠ x := fun r hr e => by rw [e, hxr] at hr; cases hr
  have hsub : ∀ c' p, (s.L S c' p).Sublist ((s.doFlush S T c x rest).L S c' p) := by
    intro c' p
    by_cases e : c' = c
    · subst e
      have : (s.doFlush S T c' x rest).L S c' p = s.L S c' p := by
        unfold AbsSt.L
        rw [hR]
        show _ ++ (if c' = c' then rest else s.N c').filter _ = _
        rw [if_pos rfl, hN]
        by_cases hp : p = S.pl x
        · rw [if_pos hp, List.filter_cons_of_pos (by simp [hp]), List.append_assoc]
          rfl
        · rw [if_neg hp, List.filter_cons_of_neg (by simp; exact fun e => hp e.symm)]
      rw [this]
      exact List.Sublist.refl _
    · refine List.Sublist.append (hRs p) ?_
      show List.Sublist _ ((if c' = c then rest else s.N c').filter _)
      rw [if_neg e]
      exact List.Sublist.refl _
  refine { h with beg := fun i hi => ⟨(h.beg i hi).1, (h.beg i hi).2.1, (h.beg i hi).2.2.1, (h.beg i hi).2.2.2.1, by rw [hτ i (by omega)]; exact (h.beg i hi).2.2.2.2.1, (h.beg i hi).2.2.2.2.2⟩, note := ?_, nord := ?_, pend := ?_, rows := ?_, rnod := ?_, rord := ?_, tle := ?_, tpos := ?_, same := ?_, mate := ?_, now := ?_, kept := ?_, src := ?_, agst := ?_, inL := ?_, coh := ?_ }
  · intro c' y hy
    exact h.note c' y ((nmem c' y).1 hy).1
  · intro c'
    show (if c' = c then rest else s.N c').Pairwise _
    split
    · exact hord.2
    · exact h.nord c'
  · intro c' y k hy hk hyk hc
    obtain ⟨hy1, hy2⟩ := (nmem c' y).1 hy
    rcases h.pend c' y k hy1 hk hyk hc with hp | hp
    · exact .inl hp
    · refine .inr ((nmem c' k).2 ⟨hp, ?_⟩)
      rintro ⟨rfl, rfl⟩
      rw [hN] at hy1
      rcases List.mem_cons.1 hy1 with rfl | hm
      · exact hy2 ⟨rfl, rfl⟩
      · have := hord.1 y hm; omega
  · intro p y
    rw [hD, hR]
    by_cases hp : p = S.pl x
    · rw [if_pos hp, List.mem_append, h.rows p y]
      constructor
      · rintro (⟨a, b⟩ | hy)
        · exact ⟨.inl a, b⟩
        · have e : y = x := by simpa using hy
          exact ⟨.inr e, by rw [e]; exact hxr, by rw [e, hp]⟩
      · rintro ⟨a | rfl, b⟩
        · exact .inl ⟨a, b⟩
        · exact .inr (by simp)
    · rw [if_neg hp, h.rows p y]
      constructor
      · rintro ⟨a, b⟩; exact ⟨.inl a, b⟩
      · rintro ⟨a | rfl, b⟩
        · exact ⟨a, b⟩
        · exact absurd b.2.symm hp
  · intro p
    rw [hR]
    split
    · rw [List.nodup_append]
      refine ⟨h.rnod p, by simp, fun y hy w hw e => ?_⟩
      have : w = x := by simpa using hw
      exact hxR p (by rw [← this, ← e]; exact hy)
    · exact h.rnod p
  · intro p
    have old : (s.R p).Pairwise (fun y w => (s.doFlush S T c x rest).τ y ≤ (s.doFlush S T c x rest).τ w) := (h.rord p).imp_of_mem (fun {y w} hy hw hyw => by
      rw [hτ y (hne y ((h.rows p y).1 hy).1), hτ w (hne w ((h.rows p w).1 hw).1)]
      exact hyw)
    rw [hR]
    split
    · rw [List.pairwise_append]
      refine ⟨old, by simp, fun y hy w hw => ?_⟩
      have : w = x := by simpa using hw
      have hy' := ((h.rows p y).1 hy).1
      rw [this, hτx, hτ y (hne y hy')]
      exact h.tle y hy'
    · exact old
  · intro i hi
    rcases (hD i).1 hi with ai | rfl
    · rw [hτ i (hne i ai)]; exact h.tle i ai
    · rw [hτx]; exact Nat.le_refl _
  · intro i hi h3
    rcases (hD i).1 hi with ai | rfl
    · rw [hτ i (hne i ai)]; exact h.tpos i ai h3
    · rw [hτx]; exact hT
  · intro i k hi hk h3 h3' e
    rcases (hD i).1 hi with ai | rfl <;> rcases (hD k).1 hk with ak | rfl
    · rw [hτ i (hne i ai), hτ k (hne k ak)] at e; exact h.same i k ai ak h3 h3' e
    · rw [hτ i (hne i ai), hτx] at e; rw [hz]; exact (h.now i ai h3).1 e
    · rw [hτ k (hne k ak), hτx] at e; rw [hz]; exact ((h.now k ak h3').1 e.symm).symm
    · rfl
  · intro i k hi hk h3 h3' e
    rcases (hD i).1 hi with ai | rfl <;> rcases (hD k).1 hk with ak | rfl
    · rw [hτ i (hne i ai), hτ k (hne k ak)]; exact h.mate i k ai ak h3 h3' e
    · rw [hτ i (hne i ai), hτx]; exact (h.now i ai h3).2 (by rw [e, hz])
    · rw [hτ k (hne k ak), hτx]; exact ((h.now k ak h3').2 (by rw [← e, hz])).symm
    · rfl
  · intro i hi h3
    rcases (hD i).1 hi with ai | rfl
    · rw [hτ i (hne i ai)]; exact h.now i ai h3
    · rw [hτx, hz]; simp
  · intro i k hi hk h3 hik hc hcs hx
    rcases (hD i).1 hi with ai | rfl <;> rcases (hD k).1 hk with ak | rfl
    · rw [hτ i (hne i ai), hτ k (hne k ak)]; exact h.kept i k ai ak h3 hik hc hcs hx
    · rw [hτ i (hne i ai), hτx]
      have h1 := h.tle i ai
      have h2 : s.τ i ≠ T := fun e => hcs (by rw [hz]; exact (h.now i ai h3).1 e)
      omega
    · rcases h.pend _ _ _ hxN ak.1 hik hc.symm with hp | hp
      · rw [hx] at hp; cases hp.2
      · exact absurd (by rw [← hc]; exact hp) ak.2
    · omega
  · intro r hx hrd
    rw [hτ r (hrne r hrd)]
    obtain ⟨a, b, e, d⟩ := h.src r hx hrd
    exact ⟨a, b, e, d.imp id (fun d => ⟨(hD _).2 (.inl d.1), by show (s.doFlush S T c x rest).τ (s.F r) ≤ _; rw [hτ _ (hne _ d.1)]; exact d.2⟩)⟩
  · intro r w p hx hrd hb
    rw [hτ r (hrne r hrd)]
    by_cases hw : w = x
    · rw [hw, hτx]; exact h.tle r (h.read_done hx hrd)
    · rw [hτ w hw]
      rw [hR] at hb
      by_cases hp : p = S.pl x
      · rw [if_pos hp] at hb
        exact h.agst r w p hx hrd (bef_snoc_old hb hw)
      · rw [if_neg hp] at hb
        exact h.agst r w p hx hrd hb
  · intro i hi h3
    exact (hsub _ _).subset (h.inL i hi h3)
  · intro i k hi hk h3 hik hc hp
    exact (h.coh i k hi hk h3 hik hc hp).imp id (fun hb => hb.trans (hsub _ _))
structure Ab where
  nx : Nat → Nat
  N : Nat → List Nat
  R : Nat → List Nat
  F : Nat → Nat
def sysW (dss : List (List Dd)) : Sys :=
  { n := (eventsB dss).length, ck := fun j => ((eventsB dss).getD j zE).1, pl := fun j => ((eventsB dss).getD j zE).2.2.2.1.toNat, rd := fun j => ((eventsB dss).getD j zE).2.2.1, cs := fun j => csE ((eventsB dss).getD j zE), ex := kepP dss (eventsB dss) }
def exA (dss : List (List Dd)) (a : Ab) (j : Nat) : Bool := decide (j < 3) || decide (((eventsB dss).getD j zE).2.1.toNat < a.nx ((eventsB dss).getD j zE).1.toNat)
def stA (dss : List (List Dd)) (a : Ab) (τ : Nat → Nat) : AbsSt :=
  { X := fun j => j < (eventsB dss).length ∧ exA dss a j = true, N := fun c => if 0 ≤ c then a.N c.toNat else [], R := a.R, F := a.F, τ := τ }
abbrev vlN (dss : List (List Dd)) (x : Nat) : Int := ((eventsB dss).getD x zE).2.2.2.2.1
abbrev plN (dss : List (List Dd)) (x : Nat) : Int := ((eventsB dss).getD x zE).2.2.2.1
def ntE (dss : List (List Dd)) (x : Nat) : Nt := (plN dss x, vlN dss x, (x : Int))
def lastA (a : Ab) (p : Nat) : Nat := (a.R p).getLast?.getD p
structure Rep (dss : List (List Dd)) (b : Bd) (a : Ab) : Prop where
  nxt : b.nxt = (List.range dss.length).map (fun c => (a.nx c : Int))
  nts : b.nts = (List.range dss.length).map (fun c => (a.N c).map (ntE dss))
  rws : b.rws = (List.range 3).map (fun p => (a.R p).map Int.ofNat)
  lst : b.lst = (List.range 3).map (fun p => (lastA a p : Int))
  plc : b.plc = (List.range 3).map (fun p => vlN dss (lastA a p))
  fr : b.fr = (idxB rdE (eventsB dss)).map (fun r => if exA dss a r.toNat = true then (a.F r.toNat : Int) else -1)
  sn : b.sn = (idxB rdE (eventsB dss)).map (fun r => if exA dss a r.toNat = true then vlN dss (a.F r.toNat) else -1)
theorem map_set {α : Type} (f : Nat → α) (m c : Nat) (y : α) : ((List.range m).map f).set c y = (List.range m).map (fun i => if i = c then y else f i) := by
  apply List.ext_getElem?
  intro i
  rw [List.getElem?_set]
  simp only [List.length_map, List.length_range, List.getElem?_map]
  by_cases hi : i < m
  · rw [List.getElem?_range hi]
    by_cases e : c = i
    · subst e; simp [hi]
    · rw [if_neg e]; simp [show ¬ i = c from fun h => e h.symm]
  · have : (List.range m)[i]? = none := List.getElem?_eq_none (by simp; omega)
    rw [this]
    by_cases e : c = i
    · subst e; simp [hi]
    · rw [if_neg e]; rfl
theorem map_at {α : Type} (f : Nat → α) {m c : Nat} (z : α) (hc : c < m) : ((List.range m).map f).getD c z = f c := by
  rw [List.getD_eq_getElem?_getD, List.getElem?_map, List.getElem?_range hc]
  rfl
theorem set_self (rs : List Int) (ev v : Int) (g : Int → Int) : setR rs ev v (rs.map g) = rs.map (fun r => if r = ev then v else g r) := by
  unfold setR
  induction rs with
  | nil => rfl
  | cons r rs ih => rw [List.map_cons, List.zipWith_cons_cons, ih, List.map_cons]
theorem sys_at {dss : List (List Dd)} (hb : workB dss = true) {j c k i : Nat} (E : EvIs dss j c k i) : (sysW dss).ck j = (c : Int) ∧ (sysW dss).pl j = (dAt dss c k).2.1.toNat ∧ (sysW dss).rd j = rdI (dAt dss c k) i ∧ (sysW dss).cs j = clsD dss c k := by
  unfold sysW csE
  simp only
  rw [E.at hb]
  exact ⟨rfl, rfl, rfl, rfl⟩
theorem ex_at {dss : List (List Dd)} (hb : workB dss = true) {j c k i : Nat} (E : EvIs dss j c k i) (a : Ab) : exA dss a j = decide (k < a.nx c) := by
  unfold exA
  rw [E.at hb]
  have := (E.lt hb).1
  simp [show ¬ j < 3 by omega]
def bumpA (a : Ab) (c : Nat) : Ab := { a with nx := fun c' => if c' = c then a.nx c + 1 else a.nx c' }
theorem ex_bump {dss : List (List Dd)} (hb : workB dss = true) (a : Ab) {c : Nat} (hc : c < dss.length) (hk : a.nx c < (dss.getD c []).length) {j : Nat} (hj : j < (eventsB dss).length) :
    exA dss (bumpA a c) j = true ↔ exA dss a j = true ∨ ∃ i, EvIs dss j c (a.nx c) i := by
  by_cases h3 : j < 3
  · have e1 : exA dss a j = true := by unfold exA; simp [h3]
    have e2 : exA dss (bumpA a c) j = true := by unfold exA; simp [h3]
    simp [e1, e2]
  · obtain ⟨c', k', i', E⟩ := ev_dec hb (by omega) hj
    rw [ex_at hb E, ex_at hb E, decide_eq_true_eq, decide_eq_true_eq]
    show (k' < if c' = c then a.nx c + 1 else a.nx c') ↔ _
    by_cases e : c' = c
    · subst e
      rw [if_pos rfl]
      constructor
      · intro h
        by_cases h2 : k' < a.nx c'
        · exact .inl h2
        · obtain rfl : k' = a.nx c' := by omega
          exact .inr ⟨i', E⟩
      · rintro (h | ⟨i, E2⟩)
        · omega
        · have := (E.one E2).2.1; omega
    · rw [if_neg e]
      refine ⟨fun h => .inl h, ?_⟩
      rintro (h | ⟨i, E2⟩)
      · exact h
      · exact absurd (E.one E2).1 e
theorem ev_first {dss : List (List Dd)} {c k : Nat} (hc : c < dss.length) (hk : k < (dss.getD c []).length) (h4 : (dAt dss c k).1 ≠ 4) : EvIs dss (offN dss c k) c k 0 := ⟨hc, hk, num_pos h4, rfl⟩
theorem ev_second {dss : List (List Dd)} {c k : Nat} (hc : c < dss.length) (hk : k < (dss.getD c []).length) (h3 : (dAt dss c k).1 = 3) : EvIs dss (offN dss c k + 1) c k 1 := ⟨hc, hk, by unfold numD; rw [if_neg (by omega), if_pos h3]; omega, rfl⟩
theorem ev_only {dss : List (List Dd)} {c k j i : Nat} (E : EvIs dss j c k i) (h3 : (dAt dss c k).1 ≠ 3) : j = offN dss c k ∧ i = 0 := by
  have h1 := E.hi
  have h2 := E.hj
  unfold numD at h1
  rw [if_neg E.kind, if_neg h3] at h1
  omega
theorem nxt_first {dss : List (List Dd)} (hb : workB dss = true) (a : Ab) (τ : Nat → Nat) {c : Nat} (hc : c < dss.length) (hk : a.nx c < (dss.getD c []).length) (h4 : (dAt dss c (a.nx c)).1 ≠ 4) : Nxt (sysW dss) (stA dss a τ) (offN dss c (a.nx c)) := by
  have E := ev_first hc hk h4
  have hl := E.lt hb
  refine ⟨hl.1, hl.2, ?_, ?_, ?_⟩
  · rintro ⟨_, h⟩
    rw [ex_at hb E, decide_eq_true_eq] at h
    omega
  · intro i h3 hi hck
    have hin : i < (eventsB dss).length := by omega
    obtain ⟨c', k', i', E'⟩ := ev_dec hb h3 hin
    rw [(sys_at hb E').1, (sys_at hb E).1] at hck
    obtain rfl : c' = c := by omega
    refine ⟨hin, ?_⟩
    rw [ex_at hb E', decide_eq_true_eq]
    rcases (E'.ord E).1 hi with h | ⟨_, h | ⟨_, h⟩⟩ <;> omega
  · rintro i ⟨hin, hX⟩ h3 hck
    obtain ⟨c', k', i', E'⟩ := ev_dec hb h3 hin
    rw [(sys_at hb E').1, (sys_at hb E).1] at hck
    obtain rfl : c' = c := by omega
    rw [ex_at hb E', decide_eq_true_eq] at hX
    exact (E'.ord E).2 (.inr ⟨rfl, .inl hX⟩)
theorem evM_at {dss : List (List Dd)} (hb : workB dss = true) {c k : Nat} (hc : c < dss.length) (hk : k < (dss.getD c []).length) (h4 : (dAt dss c k).1 ≠ 4) : evM (eventsB dss) c k = (offN dss c k : Int) := by
  have E := ev_first hc hk h4
  have hl := E.lt hb
  have hx : (List.range (eventsB dss).length).find? (fun i => decide (3 ≤ i) && (((eventsB dss).getD i zE).1 == (c : Int)) && (((eventsB dss).getD i zE).2.1 == (k : Int))) = some (offN dss c k) := by
    rw [List.find?_range_eq_some]
    refine ⟨?_, by simpa using hl.2, ?_⟩
    · rw [E.at hb]
      simp [hl.1]
    · intro j hj
      by_cases h3 : 3 ≤ j
      · obtain ⟨c', k', i', E'⟩ := ev_dec hb h3 (by omega)
        rw [E'.at hb]
        simp only [h3, decide_true, Bool.true_and, Bool.not_eq_true', Bool.and_eq_false_iff, beq_eq_false_iff_ne, ne_eq]
        rcases (E'.ord E).1 hj with h | ⟨_, h | ⟨_, h⟩⟩
        · exact .inl (by omega)
        · exact .inr (by omega)
        · omega
      · simp [h3]
  unfold evM
  rw [hx]
structure MI (dss : List (List Dd)) (b : Bd) (a : Ab) (τ : Nat → Nat) (T : Nat) (z : Int) : Prop where
  rep : Rep dss b a
  inv : AInv (sysW dss) (stA dss a τ) T z
  nxl : ∀ c, c < dss.length → a.nx c ≤ (dss.getD c []).length
  nt : ∀ c x, x ∈ a.N c → c < dss.length ∧ ∃ k, EvIs dss x c k 0 ∧ k < a.nx c ∧ (dAt dss c k).1 = 2 ∧ gAt dss c k = 0 ∧ ∀ k', k < k' → k' < a.nx c → (dAt dss c k').1 ≠ 4 ∧ wholeD (dAt dss c k') = false
theorem st_N (dss : List (List Dd)) (a : Ab) (τ : Nat → Nat) (c : Nat) : (stA dss a τ).N (c : Int) = a.N c := by
  show (if 0 ≤ (c : Int) then a.N (c : Int).toNat else []) = _
  rw [if_pos (by omega), Int.toNat_natCast]
theorem nx_at {dss : List (List Dd)} {b : Bd} {a : Ab} (h : Rep dss b a) {c : Nat} (hc : c < dss.length) : b.nxt.getD c 0 = (a.nx c : Int) ∧ nxN b c = a.nx c := by
  have e : b.nxt.getD c 0 = (a.nx c : Int) := by rw [h.nxt, map_at _ _ hc]
  exact ⟨e, by unfold nxN; rw [e, Int.toNat_natCast]⟩
theorem nts_at {dss : List (List Dd)} {b : Bd} {a : Ab} (h : Rep dss b a) {c : Nat} (hc : c < dss.length) : b.nts.getD c [] = (a.N c).map (ntE dss) := by rw [h.nts, map_at _ _ hc]
theorem lst_at {dss : List (List Dd)} {b : Bd} {a : Ab} (h : Rep dss b a) {p : Nat} (hp : p < 3) : b.lst.getD p 0 = (lastA a p : Int) ∧ b.plc.getD p 0 = vlN dss (lastA a p) ∧ b.rws.getD p [] = (a.R p).map Int.ofNat := by
  refine ⟨by rw [h.lst, map_at _ _ hp], by rw [h.plc, map_at _ _ hp], by rw [h.rws, map_at _ _ hp]⟩
theorem last_some {dss : List (List Dd)} {a : Ab} {τ : Nat → Nat} {T : Nat} {z : Int} (h : AInv (sysW dss) (stA dss a τ) T z) {p : Nat} (hp : p < 3) : (a.R p).getLast? = some (lastA a p) := by
  obtain ⟨h1, h2, h3, h4, _⟩ := h.beg p hp
  have hm : p ∈ a.R p := (h.rows p p).2 ⟨⟨h1, fun hn => by have := (h.note _ _ hn).2.1; omega⟩, h2, h3⟩
  unfold lastA
  cases hl : (a.R p).getLast? with
  | none => rw [List.getLast?_eq_none_iff.1 hl] at hm; cases hm
  | some y => rfl
theorem place_d {dss : List (List Dd)} (hb : workB dss = true) {c k : Nat} (hc : c < dss.length) (hk : k < (dss.getD c []).length) : ∃ p : Nat, p < 3 ∧ (dAt dss c k).2.1 = (p : Int) := by
  have hd := okD_restE (okC_of hb hc k hk)
  obtain ⟨p, hp⟩ := Int.eq_ofNat_of_zero_le hd.1
  exact ⟨p, by have := hd.2.1; omega, hp⟩
theorem rdg_at {dss : List (List Dd)} (hb : workB dss = true) {b : Bd} {a : Ab} {τ : Nat → Nat} {T : Nat} {z : Int} (M : MI dss b a τ T z) {c p : Nat} (hc : c < dss.length) (hp : p < 3) :
    ∃ f : Nat, ((stA dss a τ).L (sysW dss) (c : Int) p).getLast? = some f ∧ rdgM b c p = (vlN dss f, (f : Int)) := by
  have hl := last_some M.inv hp
  obtain ⟨e1, e2, _⟩ := lst_at M.rep hp
  have hfil : ((a.N c).map (ntE dss)).reverse.find? (fun x => x.1 == (p : Int)) = (((a.N c).filter (fun x => (sysW dss).pl x == p)).getLast?).map (ntE dss) := by
    rw [← List.head?_filter, List.filter_reverse, List.head?_reverse, List.filter_map, List.getLast?_map]
    have : (a.N c).filter ((fun x : Nt => x.1 == (p : Int)) ∘ ntE dss) = (a.N c).filter (fun x => (sysW dss).pl x == p) := by
      refine List.filter_congr (fun x hx => ?_)
      obtain ⟨_, k, E, _⟩ := M.nt c x hx
      obtain ⟨q, _, hq⟩ := place_d hb E.hc E.hk
      show (plN dss x == (p : Int)) = ((sysW dss).pl x == p)
      rw [(sys_at hb E).2.1]
      unfold plN
      rw [E.at hb]
      show ((dAt dss c k).2.1 == (p : Int)) = _
      rw [hq, Int.toNat_natCast]
      by_cases e : q = p
      · subst e; simp
      · have : ¬ ((q : Int) = (p : Int)) := by omega
        rw [beq_eq_false_iff_ne.2 this, beq_eq_false_iff_ne.2 e]
    rw [this]
  unfold rdgM
  rw [nts_at M.rep hc, hfil]
  unfold AbsSt.L
  rw [st_N]
  show ∃ f, (a.R p ++ (a.N c).filter (fun x => (sysW dss).pl x == p)).getLast? = some f ∧ _
  rw [List.getLast?_append]
  cases hq : ((a.N c).filter (fun x => (sysW dss).pl x == p)).getLast? with
  | none =>
    refine ⟨lastA a p, by rw [hl]; rfl, ?_⟩
    simp only [Option.map_none]
    rw [e1, e2]
  | some y =>
    exact ⟨y, rfl, rfl⟩
theorem st_bump {dss : List (List Dd)} (hb : workB dss = true) (a : Ab) (τ : Nat → Nat) {c : Nat} (hc : c < dss.length) (hk : a.nx c < (dss.getD c []).length) (h4 : (dAt dss c (a.nx c)).1 = 4) : stA dss (bumpA a c) τ = stA dss a τ := by
  unfold stA
  congr 1
  funext j
  apply propext
  constructor
  · rintro ⟨h1, h2⟩
    refine ⟨h1, ?_⟩
    rcases (ex_bump hb a hc hk h1).1 h2 with h | ⟨i, E⟩
    · exact h
    · exact absurd h4 E.kind
  · rintro ⟨h1, h2⟩
    exact ⟨h1, (ex_bump hb a hc hk h1).2 (.inl h2)⟩
theorem X_one {dss : List (List Dd)} (hb : workB dss = true) (a : Ab) {c : Nat} (hc : c < dss.length) (hk : a.nx c < (dss.getD c []).length) (h4 : (dAt dss c (a.nx c)).1 ≠ 4) (h3 : (dAt dss c (a.nx c)).1 ≠ 3) (j : Nat) :
    (j < (eventsB dss).length ∧ exA dss (bumpA a c) j = true) ↔ (j < (eventsB dss).length ∧ exA dss a j = true) ∨ j = offN dss c (a.nx c) := by
  constructor
  · rintro ⟨h1, h2⟩
    rcases (ex_bump hb a hc hk h1).1 h2 with h | ⟨i, E⟩
    · exact .inl ⟨h1, h⟩
    · exact .inr (ev_only E h3).1
  · rintro (⟨h1, h2⟩ | rfl)
    · exact ⟨h1, (ex_bump hb a hc hk h1).2 (.inl h2)⟩
    · have E := ev_first hc hk h4
      exact ⟨(E.lt hb).2, (ex_bump hb a hc hk (E.lt hb).2).2 (.inr ⟨0, E⟩)⟩
theorem X_two {dss : List (List Dd)} (hb : workB dss = true) (a : Ab) {c : Nat} (hc : c < dss.length) (hk : a.nx c < (dss.getD c []).length) (h3 : (dAt dss c (a.nx c)).1 = 3) (j : Nat) :
    (j < (eventsB dss).length ∧ exA dss (bumpA a c) j = true) ↔ ((j < (eventsB dss).length ∧ exA dss a j = true) ∨ j = offN dss c (a.nx c)) ∨ j = offN dss c (a.nx c) + 1 := by
  have E1 := ev_first hc hk (by omega : (dAt dss c (a.nx c)).1 ≠ 4)
  have E2 := ev_second hc hk h3
  constructor
  · rintro ⟨h1, h2⟩
    rcases (ex_bump hb a hc hk h1).1 h2 with h | ⟨i, E⟩
    · exact .inl (.inl ⟨h1, h⟩)
    · have hi := E.hi
      have hj := E.hj
      unfold numD at hi
      rw [if_neg (by omega), if_pos h3] at hi
      rcases (by omega : i = 0 ∨ i = 1) with rfl | rfl
      · exact .inl (.inr hj)
      · exact .inr hj
  · rintro ((⟨h1, h2⟩ | rfl) | rfl)
    · exact ⟨h1, (ex_bump hb a hc hk h1).2 (.inl h2)⟩
    · exact ⟨(E1.lt hb).2, (ex_bump hb a hc hk (E1.lt hb).2).2 (.inr ⟨0, E1⟩)⟩
    · exact ⟨(E2.lt hb).2, (ex_bump hb a hc hk (E2.lt hb).2).2 (.inr ⟨1, E2⟩)⟩
theorem rs_in {es : List Ev} (hx : es.length ≤ 12) {r : Int} (h : r ∈ idxB rdE es) : ∃ j : Nat, r = (j : Int) ∧ j < es.length ∧ (es.getD j zE).2.2.1 = true := by
  unfold idxB at h
  rw [if_pos hx] at h
  have h1 := idxK_lt _ _ _ _ h
  have h2 := idxK_mem _ _ _ _ h
  obtain ⟨j, hj⟩ := Int.eq_ofNat_of_zero_le h1.1
  rw [hj, Int.toNat_natCast] at h2
  exact ⟨j, hj, by omega, h2⟩
end Go.Proofs.Ytbmghnibngjicaa
