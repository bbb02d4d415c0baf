/- Plain facts on order: which webs go round, what a web is sorted to (always the least that may stand there), which lists follow it; sorted follows, just where it does not go round. Nothing of the program. -/
import Derived.Test.YtgclnfhkjnomaabWebMath
namespace Go.Proofs.Ytgclnfhkjnomaab
open Go.RowKit

/-- Does it go round? -/
def roundB (zs : List Int) : Bool := webB zs && (List.range zs.length).any fun i => line (waysL zs) i i
/-- May i stand next, those in 'done' standing already? -/
def mayB (zs : List Int) (done : Int) (i : Nat) : Bool := !inSetB done i && (notI ((backL zs).getD i 0) done == 0)
/-- The least of the first m that may stand next; -1 where none may. -/
def pick (zs : List Int) (done : Int) : Nat → Int
  | 0 => -1
  | m + 1 => if 0 ≤ pick zs done m then pick zs done m else if mayB zs done m = true then (m : Int) else -1
/-- What stands after k steps, and the set of it; none where nothing may stand next. -/
def sortK (zs : List Int) : Nat → Option (List Int × Int)
  | 0 => some ([], 0)
  | k + 1 => match sortK zs k with
    | none => none
    | some (l, d) => if pick zs d zs.length < 0 then none else some (l ++ [pick zs d zs.length], gAdd d (pick zs d zs.length))
def sortedO (zs : List Int) : Option (List Int × Int) := if webB zs = true then sortK zs zs.length else none
def sortedL (zs : List Int) : List Int := match sortedO zs with
  | none => []
  | some (l, _) => l
def sortedB (zs : List Int) : Bool := (sortedO zs).isSome

theorem round_iff {n : Nat} {zs : List Int} (hz : Web n zs) : roundB zs = true ↔ ∃ i, i < n ∧ Way zs i i := by
  unfold roundB
  rw [hz.b, Bool.true_and, List.any_eq_true, hz.2.1]
  constructor
  · rintro ⟨i, hi, h⟩; exact ⟨i, List.mem_range.1 hi, (ways_line hz (List.mem_range.1 hi)).1 h⟩
  · rintro ⟨i, hi, h⟩; exact ⟨i, List.mem_range.2 hi, (ways_line hz hi).2 h⟩
theorem pick_spec (zs : List Int) (d : Int) (m : Nat) : (pick zs d m = -1 ∧ ∀ i, i < m → mayB zs d i = false) ∨ ∃ i, i < m ∧ pick zs d m = (i : Int) ∧ mayB zs d i = true ∧ ∀ j, j < i → mayB zs d j = false := by
  induction m with
  | zero => exact .inl ⟨rfl, fun i hi => by omega⟩
  | succ m ih =>
    unfold pick
    rcases ih with ⟨h, hall⟩ | ⟨i, hi, h, hm, hl⟩
    · rw [h, if_neg (by omega)]
      cases hb : mayB zs d m with
      | false =>
        refine .inl ⟨by simp, fun i hi => ?_⟩
        by_cases e : i = m
        · rw [e]; exact hb
        · exact hall i (by omega)
      | true => exact .inr ⟨m, by omega, by simp, hb, hall⟩
    · rw [h, if_pos (by omega)]
      exact .inr ⟨i, by omega, rfl, hm, hl⟩
/-- i may stand next just where it does not yet, and all from which a line goes to it do. -/
theorem may_iff {n : Nat} {zs : List Int} (hz : Web n zs) {d : Int} (hd : okB n d = true) {i : Nat} (hi : i < n) : mayB zs d i = true ↔ inSetB d i = false ∧ ∀ j, j < n → line zs j i = true → inSetB d j = true := by
  have hb := web_back hz
  have ho := ok_not (hb.1.2.2 i hi) hd
  unfold mayB
  rw [Bool.and_eq_true, Bool.not_eq_true', beq_iff_eq]
  refine and_congr_right fun _ => ?_
  constructor
  · intro h j hj hl
    have h1 := ho.2 j
    rw [h, zero_bit] at h1
    have h2 : inSetB ((backL zs).getD i 0) j = true := by have := hb.2 i j hi hj; unfold line at this hl; rw [this]; exact hl
    rw [h2] at h1
    cases h3 : inSetB d j with
    | true => rfl
    | false => rw [h3] at h1; cases h1
  · intro h
    refine ok_ext ho.1 (ok_zero hz.1) fun j hj => ?_
    rw [ho.2 j, zero_bit]
    cases h2 : inSetB ((backL zs).getD i 0) j with
    | false => rfl
    | true =>
      have : line zs j i = true := by have e := hb.2 i j hi hj; unfold line at e ⊢; rw [← e]; exact h2
      rw [h j hj this]; rfl
/-- What stands is in the set and only that, each once, below n, each behind all that lead to it; and where the next is less than the one ahead of it a line goes between them. -/
structure Stands (zs : List Int) (n k : Nat) (l : List Int) (d : Int) : Prop where
  ok : okB n d = true
  len : l.length = k
  mem : ∀ j : Nat, j < n → (inSetB d j = true ↔ (j : Int) ∈ l)
  low : ∀ x ∈ l, ∃ j : Nat, x = j ∧ j < n
  once : l.Nodup
  ahead : ∀ p, p < l.length → ∀ i j : Nat, l.getD p 0 = (i : Int) → j < n → line zs j i = true → (j : Int) ∈ l.take p
theorem sort_stands {n : Nat} {zs : List Int} (hz : Web n zs) (k : Nat) {l : List Int} {d : Int} (h : sortK zs k = some (l, d)) : Stands zs n k l d := by
  induction k generalizing l d with
  | zero =>
    simp only [sortK, Option.some.injEq, Prod.mk.injEq] at h
    obtain ⟨rfl, rfl⟩ := h
    exact ⟨ok_zero hz.1, rfl, fun j _ => by rw [zero_bit]; simp, by simp, List.nodup_nil, fun p hp => by simp at hp⟩
  | succ k ih =>
    unfold sortK at h
    cases hs : sortK zs k with
    | none => rw [hs] at h; cases h
    | some q =>
      obtain ⟨l0, d0⟩ := q
      rw [hs] at h
      have S := ih hs
      simp only at h
      split at h
      · cases h
      · rename_i hneg
        simp only [Option.some.injEq, Prod.mk.injEq] at h
        obtain ⟨rfl, rfl⟩ := h
        rcases pick_spec zs d0 zs.length with ⟨e, _⟩ | ⟨i, hi, e, hm, _⟩
        · rw [e] at hneg; omega
        · rw [hz.2.1] at hi
          rw [e]
          have hmi := (may_iff hz S.ok hi).1 hm
          have ha := ok_add S.ok hi
          have hnot : ¬ (i : Int) ∈ l0 := fun hin => by
            have := (S.mem i hi).2 hin
            rw [hmi.1] at this; cases this
          refine ⟨ha.1, by simp [S.len], fun j hj => ?_, fun x hx => ?_, ?_, fun p hp a b hab hb hl => ?_⟩
          · rw [ha.2 j, Bool.or_eq_true, S.mem j hj, List.mem_append, List.mem_singleton, decide_eq_true_eq]
            constructor
            · rintro (h | h)
              · exact .inl h
              · exact .inr (by rw [h])
            · rintro (h | h)
              · exact .inl h
              · exact .inr (by omega)
          · rcases List.mem_append.1 hx with hx | hx
            · exact S.low x hx
            · rw [List.mem_singleton] at hx; exact ⟨i, hx, hi⟩
          · rw [List.nodup_append]
            refine ⟨S.once, by simp, fun a ha b hb => ?_⟩
            rw [List.mem_singleton] at hb
            subst hb
            intro e2; subst e2; exact hnot ha
          · by_cases hpl : p < l0.length
            · rw [List.getD_eq_getElem?_getD, List.getElem?_append_left hpl, ← List.getD_eq_getElem?_getD] at hab
              rw [List.take_append_of_le_length (by omega)]
              exact S.ahead p hpl a b hab hb hl
            · have hpe : p = l0.length := by simp at hp; omega
              subst hpe
              rw [List.getD_eq_getElem?_getD, List.getElem?_append_right (Nat.le_refl _), Nat.sub_self] at hab
              have hai : i = a := by simp at hab; omega
              subst hai
              rw [List.take_append_of_le_length (Nat.le_refl _), List.take_length]
              exact (S.mem b hb).1 (hmi.2 b hb hl)
/-- Where j stands in the list. -/
theorem at_of_mem {l : List Int} {x : Int} (h : x ∈ l) : ∃ p, p < l.length ∧ l.getD p 0 = x := by
  obtain ⟨p, hp, e⟩ := List.getElem_of_mem h
  exact ⟨p, hp, by rw [List.getD_eq_getElem?_getD, List.getElem?_eq_getElem hp]; exact e⟩
theorem at_one {l : List Int} (h : l.Nodup) {p q : Nat} (hp : p < l.length) (hq : q < l.length) (e : l.getD p 0 = l.getD q 0) : p = q := by
  rw [List.getD_eq_getElem?_getD, List.getD_eq_getElem?_getD, List.getElem?_eq_getElem hp, List.getElem?_eq_getElem hq] at e
  simp only [Option.getD_some] at e
  have hp2 := List.pairwise_iff_getElem.1 (List.nodup_iff_pairwise_ne.1 h)
  apply Classical.byContradiction
  intro hne
  by_cases hlt : p < q
  · exact hp2 p q hp hq hlt e
  · exact hp2 q p hq hp (by omega) e.symm
theorem at_take {l : List Int} {x : Int} {p : Nat} (h : x ∈ l.take p) : ∃ q, q < p ∧ q < l.length ∧ l.getD q 0 = x := by
  obtain ⟨q, hq, e⟩ := List.getElem_of_mem h
  rw [List.length_take] at hq
  refine ⟨q, by omega, by omega, ?_⟩
  rw [List.getElem_take] at e
  rw [List.getD_eq_getElem?_getD, List.getElem?_eq_getElem (show q < l.length by omega)]; exact e
theorem nodup_sub_len {a b : List Int} (h : a.Nodup) (hs : ∀ x ∈ a, x ∈ b) : a.length ≤ b.length := by
  induction a generalizing b with
  | nil => simp
  | cons x a ih =>
    rw [List.nodup_cons] at h
    have hx := hs x (by simp)
    have := ih (b := b.erase x) h.2 (fun y hy => (List.mem_erase_of_ne (fun e => h.1 (by rw [← e]; exact hy))).2 (hs y (by simp [hy])))
    rw [List.length_erase_of_mem hx] at this
    have := List.length_pos_of_mem hx
    simp; omega
/-- A list of n numbers below n, each once, has all. -/
theorem all_in {n : Nat} {l : List Int} (hl : l.length = n) (hlow : ∀ x ∈ l, ∃ j : Nat, x = j ∧ j < n) (h1 : l.Nodup) {j : Nat} (hj : j < n) : (j : Int) ∈ l := by
  apply Classical.byContradiction
  intro hno
  have hsub : ∀ x ∈ l, x ∈ ((List.range n).erase j).map (fun k : Nat => (k : Int)) := by
    intro x hx
    obtain ⟨k, rfl, hk⟩ := hlow x hx
    rw [List.mem_map]
    refine ⟨k, ?_, rfl⟩
    rw [List.Nodup.mem_erase_iff List.nodup_range]
    exact ⟨fun e => hno (by rw [← e]; exact hx), List.mem_range.2 hk⟩
  have hle := nodup_sub_len h1 hsub
  rw [List.length_map, List.length_erase_of_mem (List.mem_range.2 hj), List.length_range, hl] at hle
  omega
/-- What is sorted whole does not go round. -/
theorem sorted_no_round {n : Nat} {zs : List Int} (hz : Web n zs) {l : List Int} {d : Int} (h : sortK zs n = some (l, d)) : roundB zs = false := by
  have S := sort_stands hz n h
  have hw : ∀ i j, i < n → Way zs i j → ∀ p q, p < l.length → q < l.length → l.getD p 0 = (i : Int) → l.getD q 0 = (j : Int) → p < q := by
    intro i j hi w
    induction w with
    | one g =>
      intro p q hp hq ep eq
      obtain ⟨p', h1, h2, h3⟩ := at_take (S.ahead q hq _ _ eq hi g)
      have := at_one S.once hp h2 (by rw [ep, h3])
      omega
    | more w g ih =>
      intro p q hp hq ep eq
      have hk := w.lt hz hi
      obtain ⟨r, h1, h2, h3⟩ := at_take (S.ahead q hq _ _ eq hk g)
      have := ih p r hp h2 ep h3
      omega
  cases hr : roundB zs with
  | false => rfl
  | true =>
    obtain ⟨i, hi, w⟩ := (round_iff hz).1 hr
    obtain ⟨p, hp, e⟩ := at_of_mem (all_in S.len S.low S.once hi)
    have := hw i i hi w p p hp hp e e
    omega
/-- How many lead to i by ways. -/
def leads (zs : List Int) (n i : Nat) : Nat := (List.range n).countP fun j => line (waysL zs) j i
/-- Where it does not go round one of those that do not stand yet may stand next. -/
theorem may_some {n : Nat} {zs : List Int} (hz : Web n zs) (hr : roundB zs = false) {d : Int} (hd : okB n d = true) (m : Nat) : ∀ i, i < n → leads zs n i ≤ m → inSetB d i = false → ∃ j, j < n ∧ mayB zs d j = true := by
  have nr : ∀ i, i < n → ¬ Way zs i i := fun i hi w => by
    have := (round_iff hz).2 ⟨i, hi, w⟩
    rw [hr] at this; cases this
  induction m with
  | zero =>
    intro i hi hm hn
    refine ⟨i, hi, (may_iff hz hd hi).2 ⟨hn, fun j hj hl => ?_⟩⟩
    exfalso
    have h0 : (List.range n).countP (fun j => line (waysL zs) j i) = 0 := by unfold leads at hm; omega
    rw [List.countP_eq_zero] at h0
    exact h0 j (List.mem_range.2 hj) ((ways_line hz hj).2 (.one hl))
  | succ m ih =>
    intro i hi hm hn
    by_cases hall : ∀ j, j < n → line zs j i = true → inSetB d j = true
    · exact ⟨i, hi, (may_iff hz hd hi).2 ⟨hn, hall⟩⟩
    · obtain ⟨j, hj, hl, hdj⟩ : ∃ j, j < n ∧ line zs j i = true ∧ inSetB d j = false := by
        apply Classical.byContradiction
        intro hno
        apply hall
        intro j hj hl
        cases hdj : inSetB d j with
        | true => rfl
        | false => exact absurd ⟨j, hj, hl, hdj⟩ hno
      refine ih j hj ?_ hdj
      have hlt : leads zs n j < leads zs n i := by
        refine countP_lt (fun k hk hp => ?_) (List.mem_range.2 hj) ?_ ?_
        · have hk := List.mem_range.1 hk
          exact (ways_line hz hk).2 (((ways_line hz hk).1 hp).trans (.one hl))
        · cases h : line (waysL zs) j j with
          | false => rfl
          | true => exact absurd ((ways_line hz hj).1 h) (nr j hj)
        · exact (ways_line hz hj).2 (.one hl)
      omega
theorem sort_goes {n : Nat} {zs : List Int} (hz : Web n zs) (hr : roundB zs = false) (k : Nat) (hk : k ≤ n) : ∃ l d, sortK zs k = some (l, d) := by
  induction k with
  | zero => exact ⟨[], 0, rfl⟩
  | succ k ih =>
    obtain ⟨l, d, hs⟩ := ih (by omega)
    have S := sort_stands hz k hs
    obtain ⟨i, hi, hn⟩ : ∃ i, i < n ∧ inSetB d i = false := by
      apply Classical.byContradiction
      intro hno
      have hsub : ∀ x ∈ (List.range n).map (fun k : Nat => (k : Int)), x ∈ l := by
        intro x hx
        rw [List.mem_map] at hx
        obtain ⟨j, hj, rfl⟩ := hx
        have hj := List.mem_range.1 hj
        refine (S.mem j hj).1 ?_
        cases h : inSetB d j with
        | true => rfl
        | false => exact absurd ⟨j, hj, h⟩ hno
      have hnd : ((List.range n).map (fun k : Nat => (k : Int))).Nodup := by
        rw [List.nodup_iff_pairwise_ne, List.pairwise_map]
        exact List.Pairwise.imp (fun h e => h (by omega)) List.nodup_range
      have hle := nodup_sub_len hnd hsub
      rw [List.length_map, List.length_range, S.len] at hle
      omega
    obtain ⟨j, hj, hm⟩ := may_some hz hr S.ok _ i hi (Nat.le_refl _) hn
    unfold sortK
    rw [hs]
    simp only
    rcases pick_spec zs d zs.length with ⟨_, hall⟩ | ⟨a, _, e, _, _⟩
    · have := hall j (by rw [hz.2.1]; exact hj)
      rw [this] at hm; cases hm
    · rw [if_neg (by omega)]
      exact ⟨_, _, rfl⟩
theorem sorted_iff {n : Nat} {zs : List Int} (hz : Web n zs) : sortedB zs = !roundB zs := by
  have e : sortedO zs = sortK zs n := by unfold sortedO; rw [if_pos hz.b, hz.2.1]
  unfold sortedB
  rw [e]
  cases hr : roundB zs with
  | false => obtain ⟨l, d, h⟩ := sort_goes hz hr n (Nat.le_refl _); rw [h]; rfl
  | true =>
    cases h : sortK zs n with
    | none => rfl
    | some q => obtain ⟨l, d⟩ := q; have := sorted_no_round hz h; rw [hr] at this; cases this
/-- Where the next is less than the one ahead of it a line goes between them. -/
theorem sort_least {n : Nat} {zs : List Int} (hz : Web n zs) (k : Nat) {l : List Int} {d : Int} (h : sortK zs k = some (l, d)) : ∀ p, p + 1 < l.length → l.getD (p + 1) 0 < l.getD p 0 → inSetB (zs.getD (l.getD p 0).toNat 0) (l.getD (p + 1) 0) = true := by
  induction k generalizing l d with
  | zero =>
    simp only [sortK, Option.some.injEq, Prod.mk.injEq] at h
    obtain ⟨rfl, rfl⟩ := h
    intro p hp; simp at hp
  | succ k ih =>
    have S2 := sort_stands hz (k + 1) h
    unfold sortK at h
    cases hs : sortK zs k with
    | none => rw [hs] at h; cases h
    | some q =>
      obtain ⟨l0, d0⟩ := q
      rw [hs] at h
      have S := sort_stands hz k hs
      simp only at h
      split at h
      · cases h
      · rename_i hneg
        simp only [Option.some.injEq, Prod.mk.injEq] at h
        obtain ⟨rfl, rfl⟩ := h
        intro p hp hlt
        rw [List.length_append, List.length_singleton] at hp
        have g1 : (l0 ++ [pick zs d0 zs.length]).getD p 0 = l0.getD p 0 := by
          rw [List.getD_eq_getElem?_getD, List.getElem?_append_left (by omega), ← List.getD_eq_getElem?_getD]
        rw [g1] at hlt ⊢
        by_cases hpl : p + 1 < l0.length
        · have g2 : (l0 ++ [pick zs d0 zs.length]).getD (p + 1) 0 = l0.getD (p + 1) 0 := by
            rw [List.getD_eq_getElem?_getD, List.getElem?_append_left hpl, ← List.getD_eq_getElem?_getD]
          rw [g2] at hlt ⊢
          exact ih hs p hpl hlt
        · have hpe : l0.length = p + 1 := by omega
          have g2 : (l0 ++ [pick zs d0 zs.length]).getD (p + 1) 0 = pick zs d0 zs.length := by
            rw [List.getD_eq_getElem?_getD, List.getElem?_append_right (by omega), hpe, Nat.sub_self]; rfl
          rw [g2] at hlt ⊢
          -- the step ahead of this one
          obtain ⟨k', rfl⟩ : ∃ k', k = k' + 1 := ⟨k - 1, by have := S.len; omega⟩
          unfold sortK at hs
          cases hs1 : sortK zs k' with
          | none => rw [hs1] at hs; cases hs
          | some q =>
            obtain ⟨l1, d1⟩ := q
            rw [hs1] at hs
            have S1 := sort_stands hz k' hs1
            simp only at hs
            split at hs
            · cases hs
            · rename_i hneg1
              simp only [Option.some.injEq, Prod.mk.injEq] at hs
              obtain ⟨rfl, rfl⟩ := hs
              have hp1 : l1.length = p := by rw [List.length_append, List.length_singleton] at hpe; omega
              have g3 : (l1 ++ [pick zs d1 zs.length]).getD p 0 = pick zs d1 zs.length := by
                rw [List.getD_eq_getElem?_getD, List.getElem?_append_right (by omega), hp1, Nat.sub_self]; rfl
              rw [g3] at hlt ⊢
              rcases pick_spec zs d1 zs.length with ⟨e, _⟩ | ⟨a, ha, ea, hma, hla⟩
              · rw [e] at hneg1; omega
              · rcases pick_spec zs (gAdd d1 (pick zs d1 zs.length)) zs.length with ⟨e, _⟩ | ⟨b, hb, eb, hmb, _⟩
                · rw [e] at hneg; omega
                · rw [eb, ea] at hlt ⊢
                  rw [ea] at hmb
                  rw [hz.2.1] at ha hb
                  have hba : b < a := by omega
                  have had := ok_add S1.ok ha
                  have h2 := (may_iff hz had.1 hb).1 hmb
                  have h1 : ¬ mayB zs d1 b = true := by rw [hla b hba]; simp
                  rw [may_iff hz S1.ok hb] at h1
                  have hnb : inSetB d1 b = false := by
                    have := h2.1
                    rw [had.2 b] at this
                    cases h : inSetB d1 b with
                    | false => rfl
                    | true => rw [h] at this; cases this
                  rw [show ((a : Int)).toNat = a from by omega]
                  apply Classical.byContradiction
                  intro hno
                  apply h1
                  refine ⟨hnb, fun j hj hl => ?_⟩
                  have h3 := h2.2 j hj hl
                  rw [had.2 j, Bool.or_eq_true, decide_eq_true_eq] at h3
                  rcases h3 with h3 | h3
                  · exact h3
                  · subst h3; exact absurd hl hno

/-! Follows. -/
/-- May k stand behind those that are seen? -/
def folB (zs : List Int) (s k : Int) : Bool := inB k 0 ((zs.length : Int) - 1) && !inSetB s k && (andI (zs.getD k.toNat 0) (gAdd s k) == 0)
/-- What is seen of the first m; none where one stands wrong. -/
def folK (zs list : List Int) : Nat → Option Int
  | 0 => some 0
  | m + 1 => match folK zs list m with
    | none => none
    | some s => if folB zs s (list.getD m 0) = true then some (gAdd s (list.getD m 0)) else none
def followsB (zs list : List Int) : Bool := webB zs && decide (list.length = zs.length) && (folK zs list list.length).isSome
theorem mem_take_step {l : List Int} {m : Nat} (hm : m < l.length) (x : Int) : x ∈ l.take (m + 1) ↔ x ∈ l.take m ∨ x = l.getD m 0 := by
  rw [take_snoc l m hm, List.mem_append, List.mem_singleton]
theorem stands_follows {n : Nat} {zs : List Int} (hz : Web n zs) {l : List Int} {d : Int} (S : Stands zs n n l d) (m : Nat) (hm : m ≤ n) :
    ∃ s, folK zs l m = some s ∧ okB n s = true ∧ ∀ j : Nat, j < n → (inSetB s j = true ↔ (j : Int) ∈ l.take m) := by
  induction m with
  | zero => exact ⟨0, rfl, ok_zero hz.1, fun j _ => by rw [zero_bit]; simp⟩
  | succ m ih =>
    obtain ⟨s, hs, ok, hbit⟩ := ih (by omega)
    have hml : m < l.length := by rw [S.len]; omega
    obtain ⟨i, ei, hi⟩ := S.low _ (getD_mem hml)
    have hnot : ¬ (i : Int) ∈ l.take m := fun h => by
      obtain ⟨q, h1, h2, h3⟩ := at_take h
      have := at_one S.once h2 hml (by rw [h3, ei])
      omega
    have hns : inSetB s i = false := by
      cases h : inSetB s i with
      | false => rfl
      | true => exact absurd ((hbit i hi).1 h) hnot
    have ha := ok_add ok hi
    have hand := ok_and (hz.2.2 i hi) ha.1
    have hz0 : andI (zs.getD i 0) (gAdd s i) = 0 := by
      refine ok_ext hand.1 (ok_zero hz.1) fun j hj => ?_
      rw [hand.2 j, zero_bit, ha.2 j]
      cases hl : inSetB (zs.getD i 0) j with
      | false => rfl
      | true =>
        have hline : line zs i j = true := hl
        rw [Bool.true_and]
        cases hsj : inSetB s j with
        | true =>
          exfalso
          obtain ⟨q, h1, h2, h3⟩ := at_take ((hbit j hj).1 hsj)
          obtain ⟨q', h4, h5, h6⟩ := at_take (S.ahead q h2 j i h3 hi hline)
          have := at_one S.once h5 hml (by rw [h6, ei])
          omega
        | false =>
          rw [Bool.false_or, decide_eq_false_iff_not]
          intro e
          subst e
          exact hnot (S.ahead m hml i i ei hi hline)
    have hin : inB (i : Int) 0 ((zs.length : Int) - 1) = true := by unfold inB; rw [hz.2.1, decide_eq_true_eq]; omega
    have hf : folB zs s (l.getD m 0) = true := by
      unfold folB
      rw [ei, hin, hns, show ((i : Int)).toNat = i from by omega, hz0]
      rfl
    refine ⟨gAdd s i, ?_, ha.1, fun j hj => ?_⟩
    · unfold folK
      rw [hs]
      simp only
      rw [if_pos hf, ei]
    · rw [ha.2 j, Bool.or_eq_true, hbit j hj, mem_take_step hml, ei, decide_eq_true_eq]
      constructor
      · rintro (h | h)
        · exact .inl h
        · exact .inr (by omega)
      · rintro (h | h)
        · exact .inl h
        · exact .inr (by omega)
theorem sorted_follows {n : Nat} {zs : List Int} (hz : Web n zs) (h : sortedB zs = true) : followsB zs (sortedL zs) = true := by
  have e : sortedO zs = sortK zs n := by unfold sortedO; rw [if_pos hz.b, hz.2.1]
  unfold sortedB at h
  unfold sortedL
  rw [e] at h ⊢
  cases hs : sortK zs n with
  | none => rw [hs] at h; cases h
  | some q =>
    obtain ⟨l, d⟩ := q
    have S := sort_stands hz n hs
    obtain ⟨s, h1, _⟩ := stands_follows hz S n (Nat.le_refl _)
    show followsB zs l = true
    unfold followsB
    rw [hz.b, S.len, hz.2.1, h1]
    simp
theorem sortedL_len (zs : List Int) : (sortedL zs).length ≤ 12 := by
  unfold sortedL sortedO
  cases hw : webB zs with
  | false => simp
  | true =>
    rw [if_pos rfl]
    cases hs : sortK zs zs.length with
    | none => simp
    | some q =>
      obtain ⟨l, d⟩ := q
      have := (sort_stands (web_iff.1 hw) _ hs).len
      have := webB_len hw
      show l.length ≤ 12
      omega

/-! Lifted. -/
/-- All that those of class c reach, of the first m. -/
def liftA (zs cl : List Int) (c : Int) : Nat → Int
  | 0 => 0
  | m + 1 => if cl.getD m 0 = c then orI (liftA zs cl c m) (zs.getD m 0) else liftA zs cl c m
/-- Is one of the first m of class c in the set? -/
def hitB (cl : List Int) (c all : Int) : Nat → Bool
  | 0 => false
  | m + 1 => hitB cl c all m || (decide (cl.getD m 0 = c) && inSetB all m)
/-- The lifted lines from one of class c to the first m. -/
def liftR (zs cl : List Int) (c : Int) : Nat → Int
  | 0 => 0
  | m + 1 => if cl.getD m 0 = c then liftR zs cl c m else if hitB cl (cl.getD m 0) (liftA zs cl c zs.length) zs.length = true then gAdd (liftR zs cl c m) m else liftR zs cl c m
def liftL (zs cl : List Int) : List Int := if webB zs = true ∧ cl.length = zs.length then cl.map (fun c => liftR zs cl c zs.length) else []
theorem ok_liftA {n : Nat} {zs : List Int} (hz : Web n zs) (cl : List Int) (c : Int) (m : Nat) (hm : m ≤ n) : okB n (liftA zs cl c m) = true ∧ ∀ j : Nat, inSetB (liftA zs cl c m) j = true ↔ ∃ a, a < m ∧ cl.getD a 0 = c ∧ line zs a j = true := by
  induction m with
  | zero => exact ⟨ok_zero hz.1, fun j => by rw [show liftA zs cl c 0 = 0 from rfl, zero_bit]; simp⟩
  | succ m ih =>
    have ih := ih (by omega)
    unfold liftA
    by_cases hc : cl.getD m 0 = c
    · have ho := ok_or ih.1 (hz.2.2 m (by omega))
      rw [if_pos hc]
      refine ⟨ho.1, fun j => ?_⟩
      rw [ho.2 j, Bool.or_eq_true, ih.2 j]
      constructor
      · rintro (⟨a, h1, h2, h3⟩ | h)
        · exact ⟨a, by omega, h2, h3⟩
        · exact ⟨m, by omega, hc, h⟩
      · rintro ⟨a, h1, h2, h3⟩
        by_cases e : a = m
        · subst e; exact .inr h3
        · exact .inl ⟨a, by omega, h2, h3⟩
    · rw [if_neg hc]
      refine ⟨ih.1, fun j => ?_⟩
      rw [ih.2 j]
      constructor
      · rintro ⟨a, h1, h2, h3⟩; exact ⟨a, by omega, h2, h3⟩
      · rintro ⟨a, h1, h2, h3⟩
        have : a ≠ m := fun e => hc (by rw [← e]; exact h2)
        exact ⟨a, by omega, h2, h3⟩
theorem hit_iff (cl : List Int) (c all : Int) (m : Nat) : hitB cl c all m = true ↔ ∃ b, b < m ∧ cl.getD b 0 = c ∧ inSetB all b = true := by
  induction m with
  | zero => simp [hitB]
  | succ m ih =>
    unfold hitB
    rw [Bool.or_eq_true, Bool.and_eq_true, decide_eq_true_eq, ih]
    constructor
    · rintro (⟨b, h1, h2, h3⟩ | ⟨h2, h3⟩)
      · exact ⟨b, by omega, h2, h3⟩
      · exact ⟨m, by omega, h2, h3⟩
    · rintro ⟨b, h1, h2, h3⟩
      by_cases e : b = m
      · subst e; exact .inr ⟨h2, h3⟩
      · exact .inl ⟨b, by omega, h2, h3⟩
theorem ok_liftR {n : Nat} {zs : List Int} (hz : Web n zs) (cl : List Int) (c : Int) (m : Nat) (hm : m ≤ n) :
    okB n (liftR zs cl c m) = true ∧ ∀ j : Nat, inSetB (liftR zs cl c m) j = true ↔ j < m ∧ cl.getD j 0 ≠ c ∧ ∃ a b, a < n ∧ b < n ∧ cl.getD a 0 = c ∧ cl.getD b 0 = cl.getD j 0 ∧ line zs a b = true := by
  induction m with
  | zero => exact ⟨ok_zero hz.1, fun j => by rw [show liftR zs cl c 0 = 0 from rfl, zero_bit]; simp⟩
  | succ m ih =>
    have ih := ih (by omega)
    have hA := ok_liftA hz cl c n (Nat.le_refl _)
    have hH : hitB cl (cl.getD m 0) (liftA zs cl c zs.length) zs.length = true ↔ ∃ a b, a < n ∧ b < n ∧ cl.getD a 0 = c ∧ cl.getD b 0 = cl.getD m 0 ∧ line zs a b = true := by
      rw [hit_iff, hz.2.1]
      constructor
      · rintro ⟨b, h1, h2, h3⟩
        obtain ⟨a, h4, h5, h6⟩ := (hA.2 b).1 h3
        exact ⟨a, b, h4, h1, h5, h2, h6⟩
      · rintro ⟨a, b, h1, h2, h3, h4, h5⟩
        exact ⟨b, h2, h4, (hA.2 b).2 ⟨a, h1, h3, h5⟩⟩
    unfold liftR
    by_cases hc : cl.getD m 0 = c
    · rw [if_pos hc]
      refine ⟨ih.1, fun j => ?_⟩
      rw [ih.2 j]
      constructor
      · rintro ⟨h1, h2⟩; exact ⟨by omega, h2⟩
      · rintro ⟨h1, h2, h3⟩
        have : j ≠ m := fun e => h2 (by rw [e]; exact hc)
        exact ⟨by omega, h2, h3⟩
    · rw [if_neg hc]
      by_cases hh : hitB cl (cl.getD m 0) (liftA zs cl c zs.length) zs.length = true
      · rw [if_pos hh]
        have ha := ok_add ih.1 (show m < n by omega)
        refine ⟨ha.1, fun j => ?_⟩
        rw [ha.2 j, Bool.or_eq_true, ih.2 j, decide_eq_true_eq]
        constructor
        · rintro (⟨h1, h2⟩ | h)
          · exact ⟨by omega, h2⟩
          · subst h; exact ⟨by omega, hc, hH.1 hh⟩
        · rintro ⟨h1, h2⟩
          by_cases e : m = j
          · exact .inr e
          · exact .inl ⟨by omega, h2⟩
      · rw [if_neg hh]
        refine ⟨ih.1, fun j => ?_⟩
        rw [ih.2 j]
        constructor
        · rintro ⟨h1, h2⟩; exact ⟨by omega, h2⟩
        · rintro ⟨h1, h2, h3⟩
          have : j ≠ m := fun e => hh (hH.2 (by rw [← e]; exact h3))
          exact ⟨by omega, h2, h3⟩
theorem web_lift {n : Nat} {zs cl : List Int} (hz : Web n zs) (hc : cl.length = n) : Web n (liftL zs cl) ∧
    (∀ i, i < n → (liftL zs cl).getD i 0 = liftR zs cl (cl.getD i 0) n) ∧
    ∀ i j, i < n → (line (liftL zs cl) i j = true ↔ j < n ∧ cl.getD j 0 ≠ cl.getD i 0 ∧ ∃ a b, a < n ∧ b < n ∧ cl.getD a 0 = cl.getD i 0 ∧ cl.getD b 0 = cl.getD j 0 ∧ line zs a b = true) := by
  have e : liftL zs cl = cl.map (fun c => liftR zs cl c n) := by unfold liftL; rw [if_pos ⟨hz.b, by rw [hc, hz.2.1]⟩, hz.2.1]
  have hg : ∀ i, i < n → (cl.map (fun c => liftR zs cl c n)).getD i 0 = liftR zs cl (cl.getD i 0) n := by
    intro i hi
    rw [List.getD_eq_getElem?_getD, List.getElem?_map, List.getD_eq_getElem?_getD, List.getElem?_eq_getElem (show i < cl.length by omega)]
    rfl
  rw [e]
  refine ⟨⟨hz.1, by simp [hc], fun i hi => ?_⟩, hg, fun i j hi => ?_⟩
  · rw [hg i hi]; exact (ok_liftR hz cl _ n (Nat.le_refl _)).1
  · unfold line
    rw [hg i hi]
    exact (ok_liftR hz cl _ n (Nat.le_refl _)).2 j
theorem liftL_len (zs cl : List Int) : (liftL zs cl).length ≤ 12 := by
  unfold liftL
  split
  · rename_i h; have := webB_len h.1; simp; omega
  · simp
end Go.Proofs.Ytgclnfhkjnomaab
