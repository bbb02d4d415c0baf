/- Gathered texts. -/
import Derived.Orders
import Derived.Test.YtgakfkjjkobpiaaMD
set_option maxRecDepth 100000
set_option maxHeartbeats 8000000
namespace Go.Proofs.Ytgakfkjjkobpiaa
open Go.RowKit
section
section
variable {P : Program} {ops : Array Oper} {Q : Exit → Act → World → Prop} {md : Region.Mode}
def leftN (listed : Array Bool) : Nat := listed.toList.countP (fun b => !b)
theorem count_set : ∀ (l : List Bool) (i : Nat), l[i]? = some false → (l.set i true).countP (fun b => !b) + 1 = l.countP (fun b => !b)
  | [], i, h => by simp at h
  | x :: r, 0, h => by
    simp at h
    subst h
    simp
  | x :: r, i + 1, h => by
    have ih := count_set r i (by simpa using h)
    rw [List.set_cons_succ, List.countP_cons, List.countP_cons]
    omega
theorem leftN_set {listed : Array Bool} {i : Nat} (h : listed[i]? = some false) : leftN (listed.setIfInBounds i true) + 1 = leftN listed := by
  unfold leftN
  rw [Array.toList_setIfInBounds]
  exact count_set _ _ (by rw [Array.getElem?_toList]; exact h)
theorem ready_use {listed : Array Bool} {i : Nat} (h : i ∈ Region.ready md ops listed) : i < ops.size ∧ listed[i]? = some false ∧ ∀ o, ops[i]? = some o → o.after.all (fun e => !Region.binds md e || listed.getD e.on false) = true := by
  unfold Region.ready at h
  rw [List.mem_filter, List.mem_range] at h
  obtain ⟨h1, h2⟩ := h
  simp only [Bool.and_eq_true, Bool.not_eq_true'] at h2
  refine ⟨h1, ?_, fun o ho => ?_⟩
  · have h3 := h2.1
    rw [Array.getD_eq_getD_getElem?] at h3
    cases e : listed[i]? with
    | none => rw [e] at h3; cases h3
    | some b => rw [e] at h3; simp at h3; rw [h3]
  · have h3 := h2.2
    rw [ho] at h3
    simpa using h3
theorem wpAny_inv (J : Array Bool → Act → World → Prop)
    (step : ∀ listed a w, J listed a w → ∀ i, i ∈ Region.ready md ops listed → wpOp P ops Q i (fun a' w' => J (listed.setIfInBounds i true) a' w') a w)
    (done : ∀ listed a w, J listed a w → Region.ready md ops listed = [] → Q .normal a w) :
    ∀ (fuel : Nat) (listed : Array Bool) (a : Act) (w : World), leftN listed ≤ fuel → J listed a w → wpAny P md ops Q fuel listed a w
  | 0, listed, a, w, hl, hJ => by
    have hr : Region.ready md ops listed = [] := by
      cases h : Region.ready md ops listed with
      | nil => rfl
      | cons i r =>
        exfalso
        have h2 := (ready_use (md := md) (ops := ops) (listed := listed) (i := i) (by rw [h]; simp)).2.1
        have := leftN_set h2
        omega
    exact ⟨hr, done listed a w hJ hr⟩
  | fuel + 1, listed, a, w, hl, hJ => by
    refine ⟨fun hr => done listed a w hJ hr, fun i hi => ?_⟩
    refine wpOp_mono (fun a' w' hJ' => wpAny_inv J step done fuel _ a' w' ?_ hJ') (step listed a w hJ i hi)
    have := leftN_set (ready_use hi).2.1
    omega
theorem leftN_none (n : Nat) : leftN (Array.replicate n false) = n := by
  unfold leftN
  rw [Array.toList_replicate]
  simp [List.countP_replicate]
theorem wp_region_inv {id : Nat} {a : Act} {w : World} (hm : P.follows .mixedOrders = true) (J : Array Bool → Act → World → Prop)
    (start : J (Array.replicate ops.size false) a w.drew)
    (step : ∀ listed a w, J listed a w → ∀ i, i ∈ Region.ready .any ops listed → wpOp P ops Q i (fun a' w' => J (listed.setIfInBounds i true) a' w') a w)
    (done : ∀ listed a w, J listed a w → Region.ready .any ops listed = [] → Q .normal a w) : (Code.region id ops true).wp P Q a w :=
  wp_region_any hm (wpAny_inv J step done ops.size _ a _ (by rw [leftN_none]; exact Nat.le_refl _) start)
end
end
theorem sub_of_idx {l : List Int} {i q : Nat} (hi : i < q) (hq : q < l.length) : [l.getD i 0, l.getD q 0].Sublist l := by
  have h1 : [l.getD i 0].Sublist (l.take q) := by
    rw [List.singleton_sublist, List.mem_take_iff_getElem]
    refine ⟨i, by omega, ?_⟩
    rw [List.getD_eq_getElem?_getD, List.getElem?_eq_getElem (by omega)]
    rfl
  have h2 : [l.getD q 0].Sublist (l.drop q) := by
    rw [List.singleton_sublist, List.mem_drop_iff_getElem]
    refine ⟨0, by omega, ?_⟩
    rw [List.getD_eq_getElem?_getD, List.getElem?_eq_getElem hq]
    simp
  have := h1.append h2
  rwa [List.take_append_drop] at this
theorem bef_idx {L : List Nat} (hn : L.Nodup) {x y : Nat} (h : Bef L x y) : L.idxOf x < L.idxOf y := by
  induction L with
  | nil => cases h
  | cons c L ih =>
    rw [List.nodup_cons] at hn
    have hxy : x ≠ y := by
      have := h.nodup (by rw [List.nodup_cons]; exact hn)
      intro e
      rw [e] at this
      simp at this
    cases h with
    | cons _ h' =>
      have hm := bef_mem h'
      have hx : c ≠ x := fun e => hn.1 (by rw [e]; exact hm.1)
      have hy : c ≠ y := fun e => hn.1 (by rw [e]; exact hm.2)
      rw [List.idxOf_cons, List.idxOf_cons, beq_eq_false_iff_ne.2 hx, beq_eq_false_iff_ne.2 hy]
      exact Nat.succ_lt_succ (ih hn.2 h')
    | cons_cons _ h' =>
      rw [List.idxOf_cons_self, List.idxOf_cons, beq_eq_false_iff_ne.2 hxy]
      exact Nat.succ_pos _
structure Fin (dss : List (List Dd)) (a : Ab) (τ : Nat → Nat) (T : Nat) (z : Int) (b : Bd) : Prop where
  inv : AInv (sysW dss) (stA dss a τ) T z
  rep : Rep dss b a
  none : ∀ c, (stA dss a τ).N c = []
  all : ∀ j, j < (eventsB dss).length → (stA dss a τ).D (sysW dss) j
theorem Fin.frs {dss : List (List Dd)} {a : Ab} {τ : Nat → Nat} {T : Nat} {z : Int} {b : Bd} (h : Fin dss a τ T z b) : b.fr = (idxB rdE (eventsB dss)).map (fun r => (a.F r.toNat : Int)) ∧ b.sn = (idxB rdE (eventsB dss)).map (fun r => vlN dss (a.F r.toNat)) := by
  have hx := eventsB_12 dss
  rw [h.rep.fr, h.rep.sn]
  constructor <;>
  · refine List.map_congr_left (fun r hr => ?_)
    obtain ⟨j, rfl, hj, _⟩ := rs_in hx hr
    rw [Int.toNat_natCast, if_pos (h.all j hj).1.2]
theorem Fin.rd {dss : List (List Dd)} {a : Ab} {τ : Nat → Nat} {T : Nat} {z : Int} {b : Bd} (h : Fin dss a τ T z b) {i : Nat} (hi : i < (idxB rdE (eventsB dss)).length) : ∃ r : Nat, r < (eventsB dss).length ∧ (idxB rdE (eventsB dss)).getD i 0 = (r : Int) ∧ b.fr.getD i 0 = (a.F r : Int) ∧ (sysW dss).rd r = true := by
  have hx := eventsB_12 dss
  obtain ⟨r, e, hr, hrd⟩ := rs_in hx (getD_mem hi)
  refine ⟨r, hr, e, ?_, hrd⟩
  rw [h.frs.1, List.getD_eq_getElem?_getD, List.getElem?_map]
  rw [List.getD_eq_getElem?_getD, List.getElem?_eq_getElem hi] at e
  rw [List.getElem?_eq_getElem hi]
  simp only [Option.getD_some] at e
  simp [e]
theorem Fin.src {dss : List (List Dd)} {a : Ab} {τ : Nat → Nat} {T : Nat} {z : Int} {b : Bd} (hb : workB dss = true) (h : Fin dss a τ T z b) : srcB (chcL (eventsB dss)) b.fr = true := by
  have hx := eventsB_12 dss
  have hc : (chcL (eventsB dss)).length = (idxB rdE (eventsB dss)).length := chcK_len _ _ _
  unfold srcB
  rw [Bool.and_eq_true, decide_eq_true_eq]
  refine ⟨by rw [hc, h.frs.1, List.length_map], (srcK_iff _).2 (fun i hi => ?_)⟩
  rw [hc] at hi
  obtain ⟨r, hr, e1, e2, e3⟩ := h.rd hi
  obtain ⟨q1, q2, q3, _⟩ := h.inv.src r (h.all r hr).1 e3
  unfold chcL
  rw [chcK_get _ _ _ _ hi, e1, e2]
  refine mem_isB ?_
  unfold idxB
  rw [if_pos hx]
  refine idxK_has _ _ ?_ _ (h.inv.lt _ q1)
  unfold toE plE
  have p1 : 0 ≤ ((eventsB dss).getD (a.F r) zE).2.2.2.1 ∧ ((eventsB dss).getD (a.F r) zE).2.2.2.1 ≤ 2 := place_ev hb (h.inv.lt _ q1)
  have p2 := place_ev hb hr
  have q3' : ((eventsB dss).getD (a.F r) zE).2.2.2.1.toNat = ((eventsB dss).getD r zE).2.2.2.1.toNat := q3
  have q2' : ((eventsB dss).getD (a.F r) zE).2.2.1 = false := q2
  rw [q2', Int.toNat_natCast]
  have : ((eventsB dss).getD (a.F r) zE).2.2.2.1 = ((eventsB dss).getD r zE).2.2.2.1 := by omega
  rw [this]
  simp
theorem Fin.head {dss : List (List Dd)} {a : Ab} {τ : Nat → Nat} {T : Nat} {z : Int} {b : Bd} (h : Fin dss a τ T z b) {p : Nat} (hp : p < 3) : (a.R p).head? = some p := by
  obtain ⟨h1, h2, h3, h4, h5, h6⟩ := h.inv.beg p hp
  have hm : p ∈ a.R p := (h.inv.rows p p).2 ⟨h.all p (h.inv.lt p h1), h2, h3⟩
  have ho := h.inv.rord p
  cases hl : a.R p with
  | nil => rw [hl] at hm; cases hm
  | cons x r =>
    change (a.R p).Pairwise _ at ho
    rw [hl] at ho hm
    rw [List.pairwise_cons] at ho
    rcases List.mem_cons.1 hm with e | hr
    · rw [e]; rfl
    · exfalso
      have hx := (h.inv.rows p x).1 (show x ∈ a.R p by rw [hl]; simp)
      have ht := ho.1 p hr
      change τ x ≤ τ p at ht
      change τ p = 0 at h5
      have hnd := h.inv.rnod p
      change (a.R p).Nodup at hnd
      rw [hl, List.nodup_cons] at hnd
      have hne : x ≠ p := fun e => hnd.1 (by rw [e]; exact hr)
      by_cases h3x : 3 ≤ x
      · have := h.inv.tpos x hx.1 h3x
        change 1 ≤ τ x at this
        omega
      · have := (h.inv.beg x (by omega)).2.2.1
        rw [hx.2.2] at this
        exact hne this.symm
theorem Fin.perm {dss : List (List Dd)} {a : Ab} {τ : Nat → Nat} {T : Nat} {z : Int} {b : Bd} (hb : workB dss = true) (h : Fin dss a τ T z b) (p : Nat) : ((a.R p).map Int.ofNat).Perm (plcW (eventsB dss) p) := by
  have hx := eventsB_12 dss
  have hn1 : ((a.R p).map Int.ofNat).Nodup := by
    have := h.inv.rnod p
    exact List.Pairwise.map _ (fun x y hxy e => hxy (Int.ofNat.inj e)) this
  have hn2 := plcW_nodup hx p
  have hm : ∀ y, y ∈ (a.R p).map Int.ofNat ↔ y ∈ plcW (eventsB dss) p := by
    intro y
    rw [List.mem_map]
    unfold plcW idxB
    rw [if_pos hx]
    constructor
    · rintro ⟨x, hx', rfl⟩
      obtain ⟨q1, q2, q3⟩ := (h.inv.rows p x).1 hx'
      refine idxK_has _ _ ?_ _ (h.inv.lt x q1.1)
      have p1 := place_ev hb (h.inv.lt x q1.1)
      have q2' : ((eventsB dss).getD x zE).2.2.1 = false := q2
      have q3' : ((eventsB dss).getD x zE).2.2.2.1.toNat = p := q3
      unfold toE
      rw [q2']
      have : ((eventsB dss).getD x zE).2.2.2.1 = (p : Int) := by omega
      rw [this]
      simp
    · intro hy
      have h1 := idxK_lt _ _ _ _ hy
      have h2 := idxK_mem _ _ _ _ hy
      obtain ⟨x, rfl⟩ := Int.eq_ofNat_of_zero_le h1.1
      rw [Int.toNat_natCast] at h2
      unfold toE at h2
      simp only [Bool.and_eq_true, Bool.not_eq_true', beq_iff_eq] at h2
      refine ⟨x, (h.inv.rows p x).2 ⟨h.all x (by omega), h2.1, ?_⟩, rfl⟩
      show ((eventsB dss).getD x zE).2.2.2.1.toNat = p
      rw [h2.2, Int.toNat_natCast]
  refine perm_of hn1 (fun y hy => (hm y).1 hy) (nodup_sub_len hn2 (fun y hy => (hm y).2 hy))
def rowsOf (b : Bd) : List Int := b.rws.getD 0 [] ++ b.rws.getD 1 [] ++ b.rws.getD 2 []
theorem Fin.rowsE {dss : List (List Dd)} {a : Ab} {τ : Nat → Nat} {T : Nat} {z : Int} {b : Bd} (h : Fin dss a τ T z b) : rowsOf b = (a.R 0).map Int.ofNat ++ (a.R 1).map Int.ofNat ++ (a.R 2).map Int.ofNat := by
  unfold rowsOf
  rw [(lst_at h.rep (show 0 < 3 by omega)).2.2, (lst_at h.rep (show 1 < 3 by omega)).2.2, (lst_at h.rep (show 2 < 3 by omega)).2.2]
theorem Fin.rows {dss : List (List Dd)} {a : Ab} {τ : Nat → Nat} {T : Nat} {z : Int} {b : Bd} (hb : workB dss = true) (h : Fin dss a τ T z b) : rowsL (eventsB dss) (rowsOf b) = true := by
  rw [h.rowsE]
  have hl : ∀ p, ((a.R p).map Int.ofNat).length = (plcW (eventsB dss) p).length := fun p => (h.perm hb p).length_eq
  have hd : ∀ p, p < 3 → ((a.R p).map Int.ofNat).getD 0 0 = (p : Int) := by
    intro p hp
    have := h.head hp
    rw [List.head?_eq_getElem?] at this
    rw [List.getD_eq_getElem?_getD, List.getElem?_map, this]
    rfl
  have h0 : ∀ p, p < 3 → 0 < (plcW (eventsB dss) p).length := fun p hp => (plcW_first hb p hp).1
  have k0 := okP_mk (A := []) (P := (a.R 0).map Int.ofNat) (C := (a.R 1).map Int.ofNat ++ (a.R 2).map Int.ofNat) (i := 0) (hl 0) (h.perm hb 0) (h0 0 (by omega)) (hd 0 (by omega))
  have k1 := okP_mk (A := (a.R 0).map Int.ofNat) (P := (a.R 1).map Int.ofNat) (C := (a.R 2).map Int.ofNat) (i := 1) (hl 1) (h.perm hb 1) (h0 1 (by omega)) (hd 1 (by omega))
  have k2 := okP_mk (A := (a.R 0).map Int.ofNat ++ (a.R 1).map Int.ofNat) (P := (a.R 2).map Int.ofNat) (C := []) (i := 2) (hl 2) (h.perm hb 2) (h0 2 (by omega)) (hd 2 (by omega))
  simp only [List.nil_append, List.append_nil, List.length_nil, List.length_append, hl, ← List.append_assoc] at k0 k1 k2
  unfold rowsL
  rw [k0, k1, k2]
  simp only [Bool.true_and, decide_eq_true_eq, List.length_append, hl]
theorem fil_own {dss : List (List Dd)} {a : Ab} {τ : Nat → Nat} {T : Nat} {z : Int} {b : Bd} (hb : workB dss = true) (h : Fin dss a τ T z b) (p q : Nat) : ((a.R q).map Int.ofNat).filter (fun x => plE (eventsB dss) x == (p : Int)) = if q = p then (a.R q).map Int.ofNat else [] := by
  have hq : ∀ x, x ∈ (a.R q).map Int.ofNat → plE (eventsB dss) x = (q : Int) := by
    intro x hx
    obtain ⟨y, hy, rfl⟩ := List.mem_map.1 hx
    obtain ⟨q1, q2, q3⟩ := (h.inv.rows q y).1 hy
    have p1 := place_ev hb (h.inv.lt y q1.1)
    have q3' : ((eventsB dss).getD y zE).2.2.2.1.toNat = q := q3
    show ((eventsB dss).getD ((y : Int)).toNat zE).2.2.2.1 = _
    rw [Int.toNat_natCast]
    omega
  split
  · rename_i e
    rw [List.filter_eq_self]
    intro x hx
    rw [hq x hx, e]; simp
  · rename_i e
    rw [List.filter_eq_nil_iff]
    intro x hx
    rw [hq x hx]
    simp; omega
theorem row_bef {dss : List (List Dd)} {a : Ab} {τ : Nat → Nat} {T : Nat} {z : Int} {b : Bd} (hb : workB dss = true) (h : Fin dss a τ T z b) (W : Webs (eventsB dss) b.fr (rowsOf b)) {x y : Nat} (hx : x < (eventsB dss).length) (hl : line (rwL (eventsB dss) (rowsOf b)) x y = true) :
    Bef (a.R ((sysW dss).pl x)) x y := by
  obtain ⟨i, q, hi, hq, hp, e1, e2⟩ := (W.rwl x y hx).1 hl
  unfold rwP at hp
  simp only [Bool.and_eq_true, decide_eq_true_eq, beq_iff_eq] at hp
  have hs := sub_of_idx hp.1 hq
  have px : plE (eventsB dss) ((rowsOf b).getD i 0) = (((sysW dss).pl x : Nat) : Int) := by
    rw [e1]
    have := place_ev hb hx
    show ((eventsB dss).getD ((x : Int)).toNat zE).2.2.2.1 = ((((eventsB dss).getD x zE).2.2.2.1.toNat : Nat) : Int)
    rw [Int.toNat_natCast]
    omega
  have hf := hs.filter (fun u => plE (eventsB dss) u == (((sysW dss).pl x : Nat) : Int))
  rw [List.filter_cons_of_pos (by rw [px]; simp), List.filter_cons_of_pos (by rw [← hp.2, px]; simp), List.filter_nil, e1, e2, h.rowsE, List.filter_append, List.filter_append, fil_own hb h, fil_own hb h, fil_own hb h] at hf
  have hp3 : (sysW dss).pl x < 3 := by
    have := place_ev hb hx
    show ((eventsB dss).getD x zE).2.2.2.1.toNat < 3
    omega
  have key : [(x : Int), (y : Int)].Sublist ((a.R ((sysW dss).pl x)).map Int.ofNat) := by
    rcases (by omega : (sysW dss).pl x = 0 ∨ (sysW dss).pl x = 1 ∨ (sysW dss).pl x = 2) with e | e | e <;> (rw [e] at hf ⊢; simpa using hf)
  have h2 := key.map Int.toNat
  simp only [List.map_cons, List.map_nil, Int.toNat_natCast, List.map_map] at h2
  have e3 : (a.R ((sysW dss).pl x)).map (Int.toNat ∘ Int.ofNat) = a.R ((sysW dss).pl x) := by
    have : (Int.toNat ∘ Int.ofNat) = id := by funext u; simp
    rw [this, List.map_id]
  rw [e3] at h2
  exact h2
theorem Fin.tale {dss : List (List Dd)} {a : Ab} {τ : Nat → Nat} {T : Nat} {z : Int} {b : Bd} (hb : workB dss = true) (h : Fin dss a τ T z b) : taleB dss b.fr (rowsOf b) = true := by
  unfold taleB sourceB rowsB
  rw [hb, h.src hb, h.rows hb]
  rfl
def posA (dss : List (List Dd)) (a : Ab) (x : Nat) : Nat := (a.R ((sysW dss).pl x)).idxOf x
def keyA (dss : List (List Dd)) (a : Ab) (i : Nat) : Nat := if (sysW dss).rd i = true then 2 * posA dss a (a.F i) + 1 else 2 * posA dss a i
theorem key_lt {n k k' i j : Nat} (hi : i < n) (h : k < k' ∨ (k = k' ∧ i < j)) : k * n + i < k' * n + j := by
  rcases h with h | ⟨rfl, h⟩
  · have := Nat.mul_le_mul_right n h
    rw [Nat.succ_mul] at this
    omega
  · omega
theorem Fin.each {dss : List (List Dd)} {a : Ab} {τ : Nat → Nat} {T : Nat} {z : Int} {b : Bd} (hb : workB dss = true) (h : Fin dss a τ T z b) : roundB (pwL (eventsB dss) b.fr (rowsOf b)) = false := by
  have W := told_of (h.tale hb)
  have hx := W.twelve
  have hpos : ∀ {p x y : Nat}, (sysW dss).pl x = p → (sysW dss).pl y = p → Bef (a.R p) x y → posA dss a x < posA dss a y := by
    intro p x y e1 e2 hB
    unfold posA
    rw [e1, e2]
    exact bef_idx (h.inv.rnod p) hB
  have hsrc : ∀ {r : Nat}, r < (eventsB dss).length → (sysW dss).rd r = true → a.F r < (eventsB dss).length ∧ (sysW dss).rd (a.F r) = false ∧ (sysW dss).pl (a.F r) = (sysW dss).pl r := by
    intro r hr hrd
    obtain ⟨q1, q2, q3, _⟩ := h.inv.src r (h.all r hr).1 hrd
    exact ⟨h.inv.lt _ q1, q2, q3⟩
  have hrow : ∀ {x y : Nat}, x < (eventsB dss).length → line (rwL (eventsB dss) (rowsOf b)) x y = true → posA dss a x < posA dss a y ∧ (sysW dss).rd x = false ∧ (sysW dss).rd y = false := by
    intro x y hx' hl
    have hB := row_bef hb h W.webs hx' hl
    have m1 := (h.inv.rows _ _).1 (bef_mem hB).1
    have m2 := (h.inv.rows _ _).1 (bef_mem hB).2
    exact ⟨hpos rfl m2.2.2 hB, m1.2.1, m2.2.1⟩
  refine up_round W.pw (fun i => keyA dss a i * (eventsB dss).length + i) (fun i j hi hj hl => ?_)
  refine key_lt hi ?_
  rw [W.pwl i j hi] at hl
  simp only [Bool.or_eq_true] at hl
  rcases hl with (g | g) | (g | g)
  ·
    rw [(plc_line hx).2 i j hi] at g
    simp only [Bool.and_eq_true, Bool.not_eq_true'] at g
    obtain ⟨⟨_, g2⟩, g3⟩ := g
    have hlt := behP_lt g2
    have hpl : (sysW dss).pl i = (sysW dss).pl j := by
      unfold plcP at g3
      rw [bne_eq_false_iff_eq] at g3
      show ((eventsB dss).getD i zE).2.2.2.1.toNat = ((eventsB dss).getD j zE).2.2.2.1.toNat
      rw [g3]
    unfold behP at g2
    simp only [Bool.and_eq_true, Bool.or_eq_true, decide_eq_true_eq, beq_iff_eq] at g2
    rcases g2.2 with ⟨g4, g5⟩ | ⟨g4, g5⟩
    · left
      obtain ⟨_, b2, b3, _⟩ := h.inv.beg i g4
      have k0 : keyA dss a i = 0 := by
        unfold keyA posA
        rw [b2, b3]
        have hh := h.head g4
        cases hl : a.R i with
        | nil => rw [hl] at hh; cases hh
        | cons y r =>
          rw [hl] at hh
          simp only [List.head?_cons, Option.some.injEq] at hh
          rw [hh, List.idxOf_cons_self]
          rfl
      rw [k0]
      unfold keyA
      split
      · omega
      · rename_i hr
        have hr' : (sysW dss).rd j = false := by cases hq : (sysW dss).rd j with
          | false => rfl
          | true => exact absurd hq hr
        have hm : j ∈ a.R i := (h.inv.rows i j).2 ⟨h.all j hj, hr', by rw [← hpl, b3]⟩
        unfold posA
        rw [← hpl, b3]
        have hh := h.head g4
        cases hl : a.R i with
        | nil => rw [hl] at hh; cases hh
        | cons y r =>
          rw [hl] at hh
          simp only [List.head?_cons, Option.some.injEq] at hh
          rw [List.idxOf_cons, hh, beq_eq_false_iff_ne.2 (show i ≠ j by omega)]
          exact Nat.mul_pos (by omega) (Nat.succ_pos _)
    · have hcoh := h.inv.coh i j (h.all i hi).1 (h.all j hj).1 g4 hlt g5 hpl
      have hL : (stA dss a τ).L (sysW dss) ((sysW dss).ck i) ((sysW dss).pl i) = a.R ((sysW dss).pl i) := by
        unfold AbsSt.L
        rw [h.none, List.filter_nil, List.append_nil]
        rfl
      rw [hL] at hcoh
      have vplace : ∀ x, x < (eventsB dss).length → (sysW dss).pl ((stA dss a τ).v (sysW dss) x) = (sysW dss).pl x := by
        intro x hx'
        unfold AbsSt.v
        split
        · rename_i hr; exact (hsrc hx' hr).2.2
        · rfl
      have hle : (stA dss a τ).v (sysW dss) i = (stA dss a τ).v (sysW dss) j ∨ posA dss a ((stA dss a τ).v (sysW dss) i) < posA dss a ((stA dss a τ).v (sysW dss) j) :=
        hcoh.imp id (fun hB => hpos (vplace i hi) ((vplace j hj).trans hpl.symm) hB)
      have hw := h.inv.cohw i j (h.all i hi).1 (h.all j hj).1 g4 hlt g5 hpl
      unfold AbsSt.v at hle
      unfold keyA
      cases ri : (sysW dss).rd i with
      | true =>
        rw [ri, if_pos rfl] at hle
        rw [if_pos rfl]
        cases rj : (sysW dss).rd j with
        | true =>
          rw [rj, if_pos rfl] at hle
          rw [if_pos rfl]
          rcases hle with e | e
          · right
            change a.F i = a.F j at e
            rw [e]
            exact ⟨rfl, hlt⟩
          · left
            change posA dss a (a.F i) < posA dss a (a.F j) at e
            omega
        | false =>
          rw [rj, if_neg (by simp)] at hle
          rw [if_neg (by simp)]
          rcases hle with e | e
          · exact absurd e (hw ri rj)
          · left
            change posA dss a (a.F i) < posA dss a j at e
            omega
      | false =>
        rw [ri, if_neg (by simp)] at hle
        rw [if_neg (by simp)]
        cases rj : (sysW dss).rd j with
        | true =>
          rw [rj, if_pos rfl] at hle
          rw [if_pos rfl]
          rcases hle with e | e
          · left
            change i = a.F j at e
            rw [← e]
            omega
          · left
            change posA dss a i < posA dss a (a.F j) at e
            omega
        | false =>
          rw [rj, if_neg (by simp)] at hle
          rw [if_neg (by simp)]
          rcases hle with e | e
          · omega
          · left; omega
  · obtain ⟨q, hq1, hq2, hq3⟩ := (W.webs.fwl i j hi).1 g
    obtain ⟨r, hr, e1, e2, e3⟩ := h.rd hq1
    have er : r = j := by omega
    subst er
    have ei : a.F r = i := by omega
    have hs := hsrc hr e3
    rw [ei] at hs
    left
    unfold keyA
    rw [e3, hs.2.1, if_pos rfl, if_neg (by simp), ei]
    omega
  · obtain ⟨p1, p2, p3⟩ := hrow hi g
    left
    unfold keyA
    rw [p2, p3, if_neg (by simp), if_neg (by simp)]
    omega
  · obtain ⟨q, hq1, hq2, hq3⟩ := (W.webs.agl i j hi).1 g
    obtain ⟨r, hr, e1, e2, e3⟩ := h.rd hq1
    have er : r = i := by omega
    subst er
    rw [e2, Int.toNat_natCast] at hq3
    obtain ⟨p1, p2, p3⟩ := hrow (hsrc hr e3).1 hq3
    left
    unfold keyA
    rw [e3, p3, if_pos rfl, if_neg (by simp)]
    omega
theorem run_app (dss : List (List Dd)) (es : List Ev) : ∀ (l r : List Int) (b : Bd), runM dss es b (l ++ r) = runM dss es (runM dss es b l) r
  | [], r, b => rfl
  | s :: l, r, b => by rw [List.cons_append, runM, runM]; exact run_app dss es l r _
def Run (dss : List (List Dd)) (b : Bd) : Prop := ∃ a τ T z, MI dss b a τ T z ∧ BD dss a
theorem Run.new {dss : List (List Dd)} (hb : workB dss = true) : Run dss (newM dss) := ⟨_, _, _, _, new_sim hb⟩
theorem Run.step {dss : List (List Dd)} (hb : workB dss = true) {b : Bd} (h : Run dss b) {s : Int} (hs : isB (possM dss b) s = true) : Run dss (stepM dss (eventsB dss) b s) := by
  obtain ⟨a, τ, T, z, M, B⟩ := h
  obtain ⟨a', τ', z', M', B'⟩ := step_sim hb M B hs
  exact ⟨a', τ', _, z', M', B'⟩
theorem Run.board {dss : List (List Dd)} (hb : workB dss = true) {b : Bd} (h : Run dss b) : boardB dss b = true := by
  obtain ⟨a, τ, T, z, M, _⟩ := h
  exact mi_board hb M
end Go.Proofs.Ytgakfkjjkobpiaa
