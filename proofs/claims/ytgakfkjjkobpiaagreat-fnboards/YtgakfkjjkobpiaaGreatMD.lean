/- Gathered texts. -/
import Derived.Test.YtgakfkjjkobpiaaGreatMC
set_option maxRecDepth 100000
set_option maxHeartbeats 8000000
namespace Go.Proofs.YtgakfkjjkobpiaaGreat
open Go.RowKit
structure Ab where
  nx : Nat → Nat
  N : Nat → List Nat
  R : Nat → List Nat
  F : Nat → Nat
def sysW (dss : List (List Dd)) : Sys :=
  { n := (eventsB dss).length, ck := fun j => ((eventsB dss).getD j zE).1, pl := fun j => ((eventsB dss).getD j zE).2.2.2.1.toNat, rd := fun j => ((eventsB dss).getD j zE).2.2.1, cs := fun j => csE ((eventsB dss).getD j zE), ex := kepP dss (eventsB dss) }
def exA (dss : List (List Dd)) (a : Ab) (j : Nat) : Bool := decide (j < 3) || decide (((eventsB dss).getD j zE).2.1.toNat < a.nx ((eventsB dss).getD j zE).1.toNat)
def stA (dss : List (List Dd)) (a : Ab) (τ : Nat → Nat) : AbsSt :=
  { X := fun j => j < (eventsB dss).length ∧ exA dss a j = true, N := fun c => if 0 ≤ c then a.N c.toNat else [], R := a.R, F := a.F, τ := τ }
abbrev vlN (dss : List (List Dd)) (x : Nat) : Int := ((eventsB dss).getD x zE).2.2.2.2.1
abbrev plN (dss : List (List Dd)) (x : Nat) : Int := ((eventsB dss).getD x zE).2.2.2.1
def ntE (dss : List (List Dd)) (x : Nat) : Nt := (plN dss x, vlN dss x, (x : Int))
def lastA (a : Ab) (p : Nat) : Nat := (a.R p).getLast?.getD p
structure Rep (dss : List (List Dd)) (b : Bd) (a : Ab) : Prop where
  nxt : b.nxt = (List.range dss.length).map (fun c => (a.nx c : Int))
  nts : b.nts = (List.range dss.length).map (fun c => (a.N c).map (ntE dss))
  rws : b.rws = (List.range 3).map (fun p => (a.R p).map Int.ofNat)
  lst : b.lst = (List.range 3).map (fun p => (lastA a p : Int))
  plc : b.plc = (List.range 3).map (fun p => vlN dss (lastA a p))
  fr : b.fr = (idxB rdE (eventsB dss)).map (fun r => if exA dss a r.toNat = true then (a.F r.toNat : Int) else -1)
  sn : b.sn = (idxB rdE (eventsB dss)).map (fun r => if exA dss a r.toNat = true then vlN dss (a.F r.toNat) else -1)
theorem map_set {α : Type} (f : Nat → α) (m c : Nat) (y : α) : ((List.range m).map f).set c y = (List.range m).map (fun i => if i = c then y else f i) := by
  apply List.ext_getElem?
  intro i
  rw [List.getElem?_set]
  simp only [List.length_map, List.length_range, List.getElem?_map]
  by_cases hi : i < m
  · rw [List.getElem?_range hi]
    by_cases e : c = i
    · subst e; simp [hi]
    · rw [if_neg e]; simp [show ¬ i = c from fun h => e h.symm]
  · have : (List.range m)[i]? = none := List.getElem?_eq_none (by simp; omega)
    rw [this]
    by_cases e : c = i
    · subst e; simp [hi]
    · rw [if_neg e]; rfl
theorem map_at {α : Type} (f : Nat → α) {m c : Nat} (z : α) (hc : c < m) : ((List.range m).map f).getD c z = f c := by
  rw [List.getD_eq_getElem?_getD, List.getElem?_map, List.getElem?_range hc]
  rfl
theorem set_self (rs : List Int) (ev v : Int) (g : Int → Int) : setR rs ev v (rs.map g) = rs.map (fun r => if r = ev then v else g r) := by
  unfold setR
  induction rs with
  | nil => rfl
  | cons r rs ih => rw [List.map_cons, List.zipWith_cons_cons, ih, List.map_cons]
theorem sys_at {dss : List (List Dd)} (hb : workB dss = true) {j c k i : Nat} (E : EvIs dss j c k i) : (sysW dss).ck j = (c : Int) ∧ (sysW dss).pl j = (dAt dss c k).2.1.toNat ∧ (sysW dss).rd j = rdI (dAt dss c k) i ∧ (sysW dss).cs j = clsD dss c k := by
  unfold sysW csE
  simp only
  rw [E.at hb]
  exact ⟨rfl, rfl, rfl, rfl⟩
theorem ex_at {dss : List (List Dd)} (hb : workB dss = true) {j c k i : Nat} (E : EvIs dss j c k i) (a : Ab) : exA dss a j = decide (k < a.nx c) := by
  unfold exA
  rw [E.at hb]
  have := (E.lt hb).1
  simp [show ¬ j < 3 by omega]
def bumpA (a : Ab) (c : Nat) : Ab := { a with nx := fun c' => if c' = c then a.nx c + 1 else a.nx c' }
theorem ex_bump {dss : List (List Dd)} (hb : workB dss = true) (a : Ab) {c : Nat} (hc : c < dss.length) (hk : a.nx c < (dss.getD c []).length) {j : Nat} (hj : j < (eventsB dss).length) :
    exA dss (bumpA a c) j = true ↔ exA dss a j = true ∨ ∃ i, EvIs dss j c (a.nx c) i := by
  by_cases h3 : j < 3
  · have e1 : exA dss a j = true := by unfold exA; simp [h3]
    have e2 : exA dss (bumpA a c) j = true := by unfold exA; simp [h3]
    simp [e1, e2]
  · obtain ⟨c', k', i', E⟩ := ev_dec hb (by omega) hj
    rw [ex_at hb E, ex_at hb E, decide_eq_true_eq, decide_eq_true_eq]
    show (k' < if c' = c then a.nx c + 1 else a.nx c') ↔ _
    by_cases e : c' = c
    · subst e
      rw [if_pos rfl]
      constructor
      · intro h
        by_cases h2 : k' < a.nx c'
        · exact .inl h2
        · obtain rfl : k' = a.nx c' := by omega
          exact .inr ⟨i', E⟩
      · rintro (h | ⟨i, E2⟩)
        · omega
        · have := (E.one E2).2.1; omega
    · rw [if_neg e]
      refine ⟨fun h => .inl h, ?_⟩
      rintro (h | ⟨i, E2⟩)
      · exact h
      · exact absurd (E.one E2).1 e
theorem ev_first {dss : List (List Dd)} {c k : Nat} (hc : c < dss.length) (hk : k < (dss.getD c []).length) (h4 : (dAt dss c k).1 ≠ 4) : EvIs dss (offN dss c k) c k 0 := ⟨hc, hk, num_pos h4, rfl⟩
theorem ev_second {dss : List (List Dd)} {c k : Nat} (hc : c < dss.length) (hk : k < (dss.getD c []).length) (h3 : (dAt dss c k).1 = 3) : EvIs dss (offN dss c k + 1) c k 1 := ⟨hc, hk, by unfold numD; rw [if_neg (by omega), if_pos h3]; omega, rfl⟩
theorem ev_only {dss : List (List Dd)} {c k j i : Nat} (E : EvIs dss j c k i) (h3 : (dAt dss c k).1 ≠ 3) : j = offN dss c k ∧ i = 0 := by
  have h1 := E.hi
  have h2 := E.hj
  unfold numD at h1
  rw [if_neg E.kind, if_neg h3] at h1
  omega
theorem nxt_first {dss : List (List Dd)} (hb : workB dss = true) (a : Ab) (τ : Nat → Nat) {c : Nat} (hc : c < dss.length) (hk : a.nx c < (dss.getD c []).length) (h4 : (dAt dss c (a.nx c)).1 ≠ 4) : Nxt (sysW dss) (stA dss a τ) (offN dss c (a.nx c)) := by
  have E := ev_first hc hk h4
  have hl := E.lt hb
  refine ⟨hl.1, hl.2, ?_, ?_, ?_⟩
  · rintro ⟨_, h⟩
    rw [ex_at hb E, decide_eq_true_eq] at h
    omega
  · intro i h3 hi hck
    have hin : i < (eventsB dss).length := by omega
    obtain ⟨c', k', i', E'⟩ := ev_dec hb h3 hin
    rw [(sys_at hb E').1, (sys_at hb E).1] at hck
    obtain rfl : c' = c := by omega
    refine ⟨hin, ?_⟩
    rw [ex_at hb E', decide_eq_true_eq]
    rcases (E'.ord E).1 hi with h | ⟨_, h | ⟨_, h⟩⟩ <;> omega
  · rintro i ⟨hin, hX⟩ h3 hck
    obtain ⟨c', k', i', E'⟩ := ev_dec hb h3 hin
    rw [(sys_at hb E').1, (sys_at hb E).1] at hck
    obtain rfl : c' = c := by omega
    rw [ex_at hb E', decide_eq_true_eq] at hX
    exact (E'.ord E).2 (.inr ⟨rfl, .inl hX⟩)
theorem evM_at {dss : List (List Dd)} (hb : workB dss = true) {c k : Nat} (hc : c < dss.length) (hk : k < (dss.getD c []).length) (h4 : (dAt dss c k).1 ≠ 4) : evM (eventsB dss) c k = (offN dss c k : Int) := by
  have E := ev_first hc hk h4
  have hl := E.lt hb
  have hx : (List.range (eventsB dss).length).find? (fun i => decide (3 ≤ i) && (((eventsB dss).getD i zE).1 == (c : Int)) && (((eventsB dss).getD i zE).2.1 == (k : Int))) = some (offN dss c k) := by
    rw [List.find?_range_eq_some]
    refine ⟨?_, by simpa using hl.2, ?_⟩
    · rw [E.at hb]
      simp [hl.1]
    · intro j hj
      by_cases h3 : 3 ≤ j
      · obtain ⟨c', k', i', E'⟩ := ev_dec hb h3 (by omega)
        rw [E'.at hb]
        simp only [h3, decide_true, Bool.true_and, Bool.not_eq_true', Bool.and_eq_false_iff, beq_eq_false_iff_ne, ne_eq]
        rcases (E'.ord E).1 hj with h | ⟨_, h | ⟨_, h⟩⟩
        · exact .inl (by omega)
        · exact .inr (by omega)
        · omega
      · simp [h3]
  unfold evM
  rw [hx]
structure MI (dss : List (List Dd)) (b : Bd) (a : Ab) (τ : Nat → Nat) (T : Nat) (z : Int) : Prop where
  rep : Rep dss b a
  inv : AInv (sysW dss) (stA dss a τ) T z
  nxl : ∀ c, c < dss.length → a.nx c ≤ (dss.getD c []).length
  nt : ∀ c x, x ∈ a.N c → c < dss.length ∧ ∃ k, EvIs dss x c k 0 ∧ k < a.nx c ∧ (dAt dss c k).1 = 2 ∧ gAt dss c k = 0 ∧ ∀ k', k < k' → k' < a.nx c → (dAt dss c k').1 ≠ 4 ∧ wholeD (dAt dss c k') = false
theorem st_N (dss : List (List Dd)) (a : Ab) (τ : Nat → Nat) (c : Nat) : (stA dss a τ).N (c : Int) = a.N c := by
  show (if 0 ≤ (c : Int) then a.N (c : Int).toNat else []) = _
  rw [if_pos (by omega), Int.toNat_natCast]
theorem nx_at {dss : List (List Dd)} {b : Bd} {a : Ab} (h : Rep dss b a) {c : Nat} (hc : c < dss.length) : b.nxt.getD c 0 = (a.nx c : Int) ∧ nxN b c = a.nx c := by
  have e : b.nxt.getD c 0 = (a.nx c : Int) := by rw [h.nxt, map_at _ _ hc]
  exact ⟨e, by unfold nxN; rw [e, Int.toNat_natCast]⟩
theorem nts_at {dss : List (List Dd)} {b : Bd} {a : Ab} (h : Rep dss b a) {c : Nat} (hc : c < dss.length) : b.nts.getD c [] = (a.N c).map (ntE dss) := by rw [h.nts, map_at _ _ hc]
theorem lst_at {dss : List (List Dd)} {b : Bd} {a : Ab} (h : Rep dss b a) {p : Nat} (hp : p < 3) : b.lst.getD p 0 = (lastA a p : Int) ∧ b.plc.getD p 0 = vlN dss (lastA a p) ∧ b.rws.getD p [] = (a.R p).map Int.ofNat := by
  refine ⟨by rw [h.lst, map_at _ _ hp], by rw [h.plc, map_at _ _ hp], by rw [h.rws, map_at _ _ hp]⟩
theorem last_some {dss : List (List Dd)} {a : Ab} {τ : Nat → Nat} {T : Nat} {z : Int} (h : AInv (sysW dss) (stA dss a τ) T z) {p : Nat} (hp : p < 3) : (a.R p).getLast? = some (lastA a p) := by
  obtain ⟨h1, h2, h3, h4, _⟩ := h.beg p hp
  have hm : p ∈ a.R p := (h.rows p p).2 ⟨⟨h1, fun hn => by have := (h.note _ _ hn).2.1; omega⟩, h2, h3⟩
  unfold lastA
  cases hl : (a.R p).getLast? with
  | none => rw [List.getLast?_eq_none_iff.1 hl] at hm; cases hm
  | some y => rfl
theorem place_d {dss : List (List Dd)} (hb : workB dss = true) {c k : Nat} (hc : c < dss.length) (hk : k < (dss.getD c []).length) : ∃ p : Nat, p < 3 ∧ (dAt dss c k).2.1 = (p : Int) := by
  have hd := okD_restE (okC_of hb hc k hk)
  obtain ⟨p, hp⟩ := Int.eq_ofNat_of_zero_le hd.1
  exact ⟨p, by have := hd.2.1; omega, hp⟩
theorem rdg_at {dss : List (List Dd)} (hb : workB dss = true) {b : Bd} {a : Ab} {τ : Nat → Nat} {T : Nat} {z : Int} (M : MI dss b a τ T z) {c p : Nat} (hc : c < dss.length) (hp : p < 3) :
    ∃ f : Nat, ((stA dss a τ).L (sysW dss) (c : Int) p).getLast? = some f ∧ rdgM b c p = (vlN dss f, (f : Int)) := by
  have hl := last_some M.inv hp
  obtain ⟨e1, e2, _⟩ := lst_at M.rep hp
  have hfil : ((a.N c).map (ntE dss)).reverse.find? (fun x => x.1 == (p : Int)) = (((a.N c).filter (fun x => (sysW dss).pl x == p)).getLast?).map (ntE dss) := by
    rw [← List.head?_filter, List.filter_reverse, List.head?_reverse, List.filter_map, List.getLast?_map]
    have : (a.N c).filter ((fun x : Nt => x.1 == (p : Int)) ∘ ntE dss) = (a.N c).filter (fun x => (sysW dss).pl x == p) := by
      refine List.filter_congr (fun x hx => ?_)
      obtain ⟨_, k, E, _⟩ := M.nt c x hx
      obtain ⟨q, _, hq⟩ := place_d hb E.hc E.hk
      show (plN dss x == (p : Int)) = ((sysW dss).pl x == p)
      rw [(sys_at hb E).2.1]
      unfold plN
      rw [E.at hb]
      show ((dAt dss c k).2.1 == (p : Int)) = _
      rw [hq, Int.toNat_natCast]
      by_cases e : q = p
      · subst e; simp
      · have : ¬ ((q : Int) = (p : Int)) := by omega
        rw [beq_eq_false_iff_ne.2 this, beq_eq_false_iff_ne.2 e]
    rw [this]
  unfold rdgM
  rw [nts_at M.rep hc, hfil]
  unfold AbsSt.L
  rw [st_N]
  show ∃ f, (a.R p ++ (a.N c).filter (fun x => (sysW dss).pl x == p)).getLast? = some f ∧ _
  rw [List.getLast?_append]
  cases hq : ((a.N c).filter (fun x => (sysW dss).pl x == p)).getLast? with
  | none =>
    refine ⟨lastA a p, by rw [hl]; rfl, ?_⟩
    simp only [Option.map_none]
    rw [e1, e2]
  | some y =>
    exact ⟨y, rfl, rfl⟩
theorem st_bump {dss : List (List Dd)} (hb : workB dss = true) (a : Ab) (τ : Nat → Nat) {c : Nat} (hc : c < dss.length) (hk : a.nx c < (dss.getD c []).length) (h4 : (dAt dss c (a.nx c)).1 = 4) : stA dss (bumpA a c) τ = stA dss a τ := by
  unfold stA
  congr 1
  funext j
  apply propext
  constructor
  · rintro ⟨h1, h2⟩
    refine ⟨h1, ?_⟩
    rcases (ex_bump hb a hc hk h1).1 h2 with h | ⟨i, E⟩
    · exact h
    · exact absurd h4 E.kind
  · rintro ⟨h1, h2⟩
    exact ⟨h1, (ex_bump hb a hc hk h1).2 (.inl h2)⟩
theorem X_one {dss : List (List Dd)} (hb : workB dss = true) (a : Ab) {c : Nat} (hc : c < dss.length) (hk : a.nx c < (dss.getD c []).length) (h4 : (dAt dss c (a.nx c)).1 ≠ 4) (h3 : (dAt dss c (a.nx c)).1 ≠ 3) (j : Nat) :
    (j < (eventsB dss).length ∧ exA dss (bumpA a c) j = true) ↔ (j < (eventsB dss).length ∧ exA dss a j = true) ∨ j = offN dss c (a.nx c) := by
  constructor
  · rintro ⟨h1, h2⟩
    rcases (ex_bump hb a hc hk h1).1 h2 with h | ⟨i, E⟩
    · exact .inl ⟨h1, h⟩
    · exact .inr (ev_only E h3).1
  · rintro (⟨h1, h2⟩ | rfl)
    · exact ⟨h1, (ex_bump hb a hc hk h1).2 (.inl h2)⟩
    · have E := ev_first hc hk h4
      exact ⟨(E.lt hb).2, (ex_bump hb a hc hk (E.lt hb).2).2 (.inr ⟨0, E⟩)⟩
theorem X_two {dss : List (List Dd)} (hb : workB dss = true) (a : Ab) {c : Nat} (hc : c < dss.length) (hk : a.nx c < (dss.getD c []).length) (h3 : (dAt dss c (a.nx c)).1 = 3) (j : Nat) :
    (j < (eventsB dss).length ∧ exA dss (bumpA a c) j = true) ↔ ((j < (eventsB dss).length ∧ exA dss a j = true) ∨ j = offN dss c (a.nx c)) ∨ j = offN dss c (a.nx c) + 1 := by
  have E1 := ev_first hc hk (by omega : (dAt dss c (a.nx c)).1 ≠ 4)
  have E2 := ev_second hc hk h3
  constructor
  · rintro ⟨h1, h2⟩
    rcases (ex_bump hb a hc hk h1).1 h2 with h | ⟨i, E⟩
    · exact .inl (.inl ⟨h1, h⟩)
    · have hi := E.hi
      have hj := E.hj
      unfold numD at hi
      rw [if_neg (by omega), if_pos h3] at hi
      rcases (by omega : i = 0 ∨ i = 1) with rfl | rfl
      · exact .inl (.inr hj)
      · exact .inr hj
  · rintro ((⟨h1, h2⟩ | rfl) | rfl)
    · exact ⟨h1, (ex_bump hb a hc hk h1).2 (.inl h2)⟩
    · exact ⟨(E1.lt hb).2, (ex_bump hb a hc hk (E1.lt hb).2).2 (.inr ⟨0, E1⟩)⟩
    · exact ⟨(E2.lt hb).2, (ex_bump hb a hc hk (E2.lt hb).2).2 (.inr ⟨1, E2⟩)⟩
theorem rs_in {es : List Ev} (hx : es.length ≤ 12) {r : Int} (h : r ∈ idxB rdE es) : ∃ j : Nat, r = (j : Int) ∧ j < es.length ∧ (es.getD j zE).2.2.1 = true := by
  unfold idxB at h
  rw [if_pos hx] at h
  have h1 := idxK_lt _ _ _ _ h
  have h2 := idxK_mem _ _ _ _ h
  obtain ⟨j, hj⟩ := Int.eq_ofNat_of_zero_le h1.1
  rw [hj, Int.toNat_natCast] at h2
  exact ⟨j, hj, by omega, h2⟩
theorem rdI_two {d : Dd} (h : d.1 = 2) (i : Nat) : rdI d i = false := by unfold rdI; simp [h]
theorem rdI_first {d : Dd} (h : d.1 ≠ 2) : rdI d 0 = true := by unfold rdI; simp [h]
theorem rdI_second (d : Dd) : rdI d 1 = false := by unfold rdI; simp
theorem rep_nxt {dss : List (List Dd)} {b : Bd} {a : Ab} (h : Rep dss b a) {c : Nat} (hc : c < dss.length) : b.nxt.set c (b.nxt.getD c 0 + 1) = (List.range dss.length).map (fun c' => ((bumpA a c).nx c' : Int)) := by
  rw [(nx_at h hc).1, h.nxt, map_set]
  refine List.map_congr_left (fun i _ => ?_)
  show _ = ((if i = c then a.nx c + 1 else a.nx i : Nat) : Int)
  split
  · rename_i e; subst e; omega
  · rfl
theorem nx_bump (a : Ab) (c c' : Nat) : (bumpA a c).nx c' = if c' = c then a.nx c + 1 else a.nx c' := rfl
theorem nxl_bump {dss : List (List Dd)} {a : Ab} (h : ∀ c, c < dss.length → a.nx c ≤ (dss.getD c []).length) {c : Nat} (hk : a.nx c < (dss.getD c []).length) : ∀ c', c' < dss.length → (bumpA a c).nx c' ≤ (dss.getD c' []).length := by
  intro c' hc'
  rw [nx_bump]
  split
  · rename_i e; subst e; omega
  · exact h c' hc'
theorem nt_bump {dss : List (List Dd)} {b : Bd} {a : Ab} {τ : Nat → Nat} {T : Nat} {z : Int} (M : MI dss b a τ T z) {c : Nat} (hp : a.N c ≠ [] → (dAt dss c (a.nx c)).1 ≠ 4 ∧ wholeD (dAt dss c (a.nx c)) = false) :
    ∀ c' x, x ∈ a.N c' → c' < dss.length ∧ ∃ k, EvIs dss x c' k 0 ∧ k < (bumpA a c).nx c' ∧ (dAt dss c' k).1 = 2 ∧ gAt dss c' k = 0 ∧ ∀ k', k < k' → k' < (bumpA a c).nx c' → (dAt dss c' k').1 ≠ 4 ∧ wholeD (dAt dss c' k') = false := by
  intro c' x hx
  obtain ⟨h1, k, E, h2, h3, h4, h5⟩ := M.nt c' x hx
  refine ⟨h1, k, E, ?_, h3, h4, fun k' hk hk' => ?_⟩
  · rw [nx_bump]; split
    · rename_i e; subst e; omega
    · exact h2
  · rw [nx_bump] at hk'
    split at hk'
    · rename_i e
      subst e
      by_cases e2 : k' = a.nx c'
      · subst e2
        exact hp (fun e => by rw [e] at hx; cases hx)
      · exact h5 k' hk (by omega)
    · exact h5 k' hk hk'
theorem oneM_wait {dss : List (List Dd)} (hb : workB dss = true) {b : Bd} {a : Ab} {τ : Nat → Nat} {T : Nat} {z : Int} (M : MI dss b a τ T z) {c : Nat} (hc : c < dss.length) (hk : a.nx c < (dss.getD c []).length) (h4 : (dAt dss c (a.nx c)).1 = 4) (hN : a.N c = []) :
    MI dss (oneM dss (eventsB dss) b c) (bumpA a c) τ T z := by
  have hd : deedM dss (eventsB dss) b c (nxN b c) = b := by
    rw [(nx_at M.rep hc).2]
    unfold deedM
    rw [if_neg (by omega), if_neg (by omega), if_neg (by omega), if_neg (by omega)]
  have hex : ∀ j, j < (eventsB dss).length → exA dss (bumpA a c) j = exA dss a j := by
    intro j hj
    have := ex_bump hb a hc hk hj
    cases h1 : exA dss a j with
    | true => exact this.2 (.inl h1)
    | false =>
      cases h2 : exA dss (bumpA a c) j with
      | false => rfl
      | true =>
        rcases this.1 h2 with h | ⟨i, E⟩
        · rw [h1] at h; cases h
        · exact absurd h4 E.kind
  have hx := eventsB_12 dss
  unfold oneM
  rw [hd]
  refine ⟨⟨rep_nxt M.rep hc, M.rep.nts, M.rep.rws, M.rep.lst, M.rep.plc, ?_, ?_⟩, by rw [st_bump hb a τ hc hk h4]; exact M.inv, nxl_bump M.nxl hk, nt_bump M (fun h => absurd hN h)⟩
  · show b.fr = _
    rw [M.rep.fr]
    refine List.map_congr_left (fun r hr => ?_)
    obtain ⟨j, rfl, hj, _⟩ := rs_in hx hr
    rw [Int.toNat_natCast, hex j hj]
    rfl
  · show b.sn = _
    rw [M.rep.sn]
    refine List.map_congr_left (fun r hr => ?_)
    obtain ⟨j, rfl, hj, _⟩ := rs_in hx hr
    rw [Int.toNat_natCast, hex j hj]
    rfl
theorem note_ex {dss : List (List Dd)} (hb : workB dss = true) {b : Bd} {a : Ab} {τ : Nat → Nat} {T : Nat} {z : Int} (M : MI dss b a τ T z) {c x : Nat} (hc : c < dss.length) (hk : a.nx c < (dss.getD c []).length) (h1 : (dAt dss c (a.nx c)).1 = 1) (hg : gAt dss c (a.nx c) = 0) (hx : x ∈ a.N c) :
    kepP dss (eventsB dss) x (offN dss c (a.nx c)) = true := by
  obtain ⟨_, k, E, h2, h3, h4, h5⟩ := M.nt c x hx
  have Ej := ev_first hc hk (by omega : (dAt dss c (a.nx c)).1 ≠ 4)
  have hlt : x < offN dss c (a.nx c) := (E.ord Ej).2 (.inr ⟨rfl, .inl h2⟩)
  have hx3 := (E.lt hb).1
  have hcls : clsD dss c k ≠ clsD dss c (a.nx c) := by
    intro e
    rcases ((cls_iff (okC_of hb hc) (okC_of hb hc) E.hk hk E.kind Ej.kind).1 e).2 with h | h
    · omega
    · exact h.1 h4
  have hb1 : behP (eventsB dss) x (offN dss c (a.nx c)) = true := by
    unfold behP
    rw [E.at hb, Ej.at hb]
    simp [hlt, hx3]
  have hw1 : wholeD (dAt dss c k) = false := by
    unfold wholeD
    rw [h3, show (dAt dss c k).2.2.2 = 0 from h4]; rfl
  have hw2 : wholeD (dAt dss c (a.nx c)) = false := by
    unfold wholeD
    rw [h1, show (dAt dss c (a.nx c)).2.2.2 = 0 from hg]; rfl
  have hwt : waitsD (dss.getD c []) k (a.nx c) = false := waitsD_no (fun j hj1 hj2 => (h5 j hj1 hj2).1)
  unfold kepP
  rw [hb1]
  unfold kepQ
  have e1 : dOf dss ((eventsB dss).getD x zE) = dAt dss c k := by unfold dOf; rw [E.at hb]; simp only [Int.toNat_natCast]
  have e2 : dOf dss ((eventsB dss).getD (offN dss c (a.nx c)) zE) = dAt dss c (a.nx c) := by unfold dOf; rw [Ej.at hb]; simp only [Int.toNat_natCast]
  rw [e1, e2, hw1, hw2]
  unfold rdE csE
  rw [E.at hb, Ej.at hb]
  simp only [Int.toNat_natCast]
  rw [hwt]
  have r1 : rdI (dAt dss c k) 0 = false := rdI_two h3 0
  have r2 : rdI (dAt dss c (a.nx c)) 0 = true := rdI_first (by omega)
  rw [r1, r2]
  simp [hx3, hcls]
abbrev readA (dss : List (List Dd)) (a : Ab) (c f : Nat) : Ab := { bumpA a c with F := fun i => if i = offN dss c (a.nx c) then f else a.F i }
theorem oneM_read_t {dss : List (List Dd)} (hb : workB dss = true) {b : Bd} {a : Ab} {τ : Nat → Nat} {T : Nat} {z : Int} (M : MI dss b a τ T z) (hT : 1 ≤ T) {c : Nat} (hc : c < dss.length) (hk : a.nx c < (dss.getD c []).length) (h1 : (dAt dss c (a.nx c)).1 = 1)
    (hz : clsD dss c (a.nx c) = z) (hcan : gAt dss c (a.nx c) = 0 ∨ a.N c = []) :
    ∃ f, ((stA dss a τ).L (sysW dss) (c : Int) (dAt dss c (a.nx c)).2.1.toNat).getLast? = some f ∧ MI dss (oneM dss (eventsB dss) b c) (readA dss a c f) (fun i => if i = offN dss c (a.nx c) then T else τ i) T z := by
  have h4 : (dAt dss c (a.nx c)).1 ≠ 4 := by omega
  have h3 : (dAt dss c (a.nx c)).1 ≠ 3 := by omega
  have E := ev_first hc hk h4
  obtain ⟨s1, s2, s3, s4⟩ := sys_at hb E
  obtain ⟨p, hp, ep⟩ := place_d hb hc hk
  obtain ⟨f, hf, er⟩ := rdg_at hb M hc hp
  have hN := nxt_first hb a τ hc hk h4
  have hrd : (sysW dss).rd (offN dss c (a.nx c)) = true := by rw [s3]; exact rdI_first (by omega)
  have hpl : (sysW dss).pl (offN dss c (a.nx c)) = p := by rw [s2, ep, Int.toNat_natCast]
  have I := M.inv.doRead hT hN hrd (by rw [s4]; exact hz) (fun x hx => by
    rw [s1, st_N] at hx
    rcases hcan with hg | hg
    · exact note_ex hb M hc hk h1 hg hx
    · rw [hg] at hx; cases hx) (f := f) (by rw [s1, hpl]; exact hf)
  have hx := eventsB_12 dss
  have hd : deedM dss (eventsB dss) b c (nxN b c) = seeM (idxB rdE (eventsB dss)) b (offN dss c (a.nx c) : Int) (vlN dss f) (f : Int) := by
    rw [(nx_at M.rep hc).2]
    unfold deedM
    rw [if_pos h1, evM_at hb hc hk h4, ep, Int.toNat_natCast, er]
  refine ⟨f, by rw [ep, Int.toNat_natCast]; exact hf, ?_⟩
  have hst : stA dss { bumpA a c with F := fun i => if i = offN dss c (a.nx c) then f else a.F i } (fun i => if i = offN dss c (a.nx c) then T else τ i) = (stA dss a τ).doRead T (offN dss c (a.nx c)) f := by
    unfold stA AbsSt.doRead
    congr 1
    funext j
    apply propext
    exact X_one hb a hc hk h4 h3 j
  have hexr : ∀ j, j < (eventsB dss).length → exA dss { bumpA a c with F := fun i => if i = offN dss c (a.nx c) then f else a.F i } j = (decide (j = offN dss c (a.nx c)) || exA dss a j) := by
    intro j hj
    show exA dss (bumpA a c) j = _
    have := X_one hb a hc hk h4 h3 j
    cases q : exA dss (bumpA a c) j with
    | true =>
      rcases this.1 ⟨hj, q⟩ with h | h
      · rw [h.2]; simp
      · simp [h]
    | false =>
      have n1 : ¬ j = offN dss c (a.nx c) := fun e => by have := (this.2 (.inr e)).2; rw [q] at this; cases this
      have n2 : exA dss a j = false := by
        cases q2 : exA dss a j with
        | false => rfl
        | true => have := (this.2 (.inl ⟨hj, q2⟩)).2; rw [q] at this; cases this
      simp [n1, n2]
  unfold oneM
  rw [hd]
  refine ⟨⟨rep_nxt M.rep hc, M.rep.nts, M.rep.rws, M.rep.lst, M.rep.plc, ?_, ?_⟩, by rw [hst]; exact I, nxl_bump M.nxl hk, nt_bump M (fun h => ⟨h4, ?_⟩)⟩
  · show setR (idxB rdE (eventsB dss)) _ _ b.fr = _
    rw [M.rep.fr, set_self]
    refine List.map_congr_left (fun r hr => ?_)
    obtain ⟨j, rfl, hj, _⟩ := rs_in hx hr
    rw [Int.toNat_natCast, hexr j hj]
    show _ = if _ then ((if j = offN dss c (a.nx c) then f else a.F j : Nat) : Int) else -1
    by_cases e : j = offN dss c (a.nx c)
    · simp [e]
    · simp [e, show ¬ ((j : Int) = (offN dss c (a.nx c) : Int)) by omega]
  · show setR (idxB rdE (eventsB dss)) _ _ b.sn = _
    rw [M.rep.sn, set_self]
    refine List.map_congr_left (fun r hr => ?_)
    obtain ⟨j, rfl, hj, _⟩ := rs_in hx hr
    rw [Int.toNat_natCast, hexr j hj]
    show _ = if _ then vlN dss (if j = offN dss c (a.nx c) then f else a.F j) else -1
    by_cases e : j = offN dss c (a.nx c)
    · simp [e]
    · simp [e, show ¬ ((j : Int) = (offN dss c (a.nx c) : Int)) by omega]
  · rcases hcan with hg | hg
    · unfold wholeD
      rw [h1, show (dAt dss c (a.nx c)).2.2.2 = 0 from hg]; rfl
    · exact absurd hg h
theorem oneM_read {dss : List (List Dd)} (hb : workB dss = true) {b : Bd} {a : Ab} {τ : Nat → Nat} {T : Nat} {z : Int} (M : MI dss b a τ T z) (hT : 1 ≤ T) {c : Nat} (hc : c < dss.length) (hk : a.nx c < (dss.getD c []).length) (h1 : (dAt dss c (a.nx c)).1 = 1)
    (hz : clsD dss c (a.nx c) = z) (hcan : gAt dss c (a.nx c) = 0 ∨ a.N c = []) :
    ∃ f τ', ((stA dss a τ).L (sysW dss) (c : Int) (dAt dss c (a.nx c)).2.1.toNat).getLast? = some f ∧ MI dss (oneM dss (eventsB dss) b c) (readA dss a c f) τ' T z := by
  obtain ⟨f, h, M'⟩ := oneM_read_t hb M hT hc hk h1 hz hcan
  exact ⟨f, _, h, M'⟩
theorem vl_at {dss : List (List Dd)} (hb : workB dss = true) {j c k i : Nat} (E : EvIs dss j c k i) : plN dss j = (dAt dss c k).2.1 ∧ vlN dss j = vlI (dAt dss c k) i := by
  unfold plN vlN
  rw [E.at hb]
  exact ⟨rfl, rfl⟩
theorem vlI_w {d : Dd} {i : Nat} (h : rdI d i = false) : vlI d i = d.2.2.1 := by unfold vlI; rw [h]; rfl
theorem ex_w {dss : List (List Dd)} (hb : workB dss = true) (a : Ab) {c : Nat} (hc : c < dss.length) (hk : a.nx c < (dss.getD c []).length) (h2 : (dAt dss c (a.nx c)).1 = 2) {j : Nat} (hj : j < (eventsB dss).length) (hr : ((eventsB dss).getD j zE).2.2.1 = true) :
    exA dss (bumpA a c) j = exA dss a j := by
  have this := X_one hb a hc hk (by omega) (by omega) j
  have hne : j ≠ offN dss c (a.nx c) := by
    intro e
    have E := ev_first hc hk (by omega : (dAt dss c (a.nx c)).1 ≠ 4)
    rw [e, E.at hb] at hr
    rw [show rdI (dAt dss c (a.nx c)) 0 = false from rdI_two h2 0] at hr
    cases hr
  cases q2 : exA dss a j with
  | true => exact (this.2 (.inl ⟨hj, q2⟩)).2
  | false =>
    cases q : exA dss (bumpA a c) j with
    | false => rfl
    | true =>
      rcases this.1 ⟨hj, q⟩ with h | h
      · rw [q2] at h; cases h.2
      · exact absurd h hne
theorem whole_no {d : Dd} (h : d.1 ≠ 3) (hg : d.2.2.2 = 0) : wholeD d = false := by
  unfold wholeD
  rw [beq_eq_false_iff_ne.2 h, hg]
  rfl
abbrev noteA (dss : List (List Dd)) (a : Ab) (c : Nat) : Ab := { bumpA a c with N := fun c' => if c' = c then a.N c' ++ [offN dss c (a.nx c)] else a.N c' }
abbrev inkA (dss : List (List Dd)) (a : Ab) (c p : Nat) : Ab := { bumpA a c with R := fun q => if q = p then a.R q ++ [offN dss c (a.nx c)] else a.R q }
theorem oneM_note {dss : List (List Dd)} (hb : workB dss = true) {b : Bd} {a : Ab} {τ : Nat → Nat} {T : Nat} {z : Int} (M : MI dss b a τ T z) {c : Nat} (hc : c < dss.length) (hk : a.nx c < (dss.getD c []).length) (h2 : (dAt dss c (a.nx c)).1 = 2) (hg : gAt dss c (a.nx c) = 0) :
    MI dss (oneM dss (eventsB dss) b c) (noteA dss a c) τ T z := by
  have h4 : (dAt dss c (a.nx c)).1 ≠ 4 := by omega
  have h3 : (dAt dss c (a.nx c)).1 ≠ 3 := by omega
  have E := ev_first hc hk h4
  obtain ⟨s1, s2, s3, s4⟩ := sys_at hb E
  have hN := nxt_first hb a τ hc hk h4
  have hrd : (sysW dss).rd (offN dss c (a.nx c)) = false := by rw [s3]; exact rdI_two h2 0
  have I := M.inv.doNote hN hrd
  have hx := eventsB_12 dss
  have hd : deedM dss (eventsB dss) b c (nxN b c) = { b with nts := b.nts.set c (b.nts.getD c [] ++ [((dAt dss c (a.nx c)).2.1, (dAt dss c (a.nx c)).2.2.1, (offN dss c (a.nx c) : Int))]) } := by
    rw [(nx_at M.rep hc).2]
    unfold deedM
    rw [if_neg (by omega), if_neg (by omega), if_neg (by omega), if_pos h2, evM_at hb hc hk h4]
  have hst : stA dss { bumpA a c with N := fun c' => if c' = c then a.N c' ++ [offN dss c (a.nx c)] else a.N c' } τ = (stA dss a τ).doNote (sysW dss) (offN dss c (a.nx c)) := by
    unfold stA AbsSt.doNote
    congr 1
    · funext j
      apply propext
      exact X_one hb a hc hk h4 h3 j
    · funext c'
      rw [s1]
      show (if 0 ≤ c' then (if c'.toNat = c then a.N c'.toNat ++ [offN dss c (a.nx c)] else a.N c'.toNat) else []) = if c' = (c : Int) then (if 0 ≤ c' then a.N c'.toNat else []) ++ [offN dss c (a.nx c)] else (if 0 ≤ c' then a.N c'.toNat else [])
      by_cases h0 : 0 ≤ c'
      · rw [if_pos h0]
        by_cases e : c' = (c : Int)
        · subst e; simp
        · rw [if_neg (by omega), if_neg e, if_pos h0]
      · rw [if_neg h0, if_neg (by omega), if_neg h0]
  unfold oneM
  rw [hd]
  refine ⟨⟨rep_nxt M.rep hc, ?_, M.rep.rws, M.rep.lst, M.rep.plc, ?_, ?_⟩, by rw [hst]; exact I, nxl_bump M.nxl hk, ?_⟩
  · show b.nts.set c _ = _
    rw [nts_at M.rep hc, M.rep.nts, map_set]
    refine List.map_congr_left (fun i _ => ?_)
    show _ = (if i = c then a.N i ++ [offN dss c (a.nx c)] else a.N i).map (ntE dss)
    split
    · rename_i e
      subst e
      rw [List.map_append]
      congr 1
      show _ = [ntE dss _]
      unfold ntE
      rw [(vl_at hb E).1, (vl_at hb E).2, vlI_w (rdI_two h2 0)]
    · rfl
  · show b.fr = _
    rw [M.rep.fr]
    refine List.map_congr_left (fun r hr => ?_)
    obtain ⟨j, rfl, hj, hjr⟩ := rs_in hx hr
    rw [Int.toNat_natCast]
    show _ = if exA dss (bumpA a c) j = true then _ else _
    rw [ex_w hb a hc hk h2 hj hjr]
    rfl
  · show b.sn = _
    rw [M.rep.sn]
    refine List.map_congr_left (fun r hr => ?_)
    obtain ⟨j, rfl, hj, hjr⟩ := rs_in hx hr
    rw [Int.toNat_natCast]
    show _ = if exA dss (bumpA a c) j = true then _ else _
    rw [ex_w hb a hc hk h2 hj hjr]
    rfl
  · intro c' x hxm
    have old := nt_bump M (c := c) (fun _ => ⟨h4, whole_no h3 hg⟩)
    change x ∈ (if c' = c then a.N c' ++ [offN dss c (a.nx c)] else a.N c') at hxm
    by_cases e : c' = c
    · rw [if_pos e, List.mem_append] at hxm
      rcases hxm with hxm | hxm
      · exact old c' x hxm
      · have ex : x = offN dss c (a.nx c) := by simpa using hxm
        subst e
        refine ⟨hc, a.nx c', by rw [ex]; exact E, ?_, h2, hg, fun k' h1 h2' => ?_⟩
        · show a.nx c' < (bumpA a c').nx c'
          rw [nx_bump, if_pos rfl]; omega
        · change k' < (bumpA a c').nx c' at h2'
          rw [nx_bump, if_pos rfl] at h2'; omega
    · rw [if_neg e] at hxm
      exact old c' x hxm
theorem oneM_ink_t {dss : List (List Dd)} (hb : workB dss = true) {b : Bd} {a : Ab} {τ : Nat → Nat} {T : Nat} {z : Int} (M : MI dss b a τ T z) (hT : 1 ≤ T) {c : Nat} (hc : c < dss.length) (hk : a.nx c < (dss.getD c []).length) (h2 : (dAt dss c (a.nx c)).1 = 2) (hg : gAt dss c (a.nx c) ≠ 0)
    (hz : clsD dss c (a.nx c) = z) (hN0 : a.N c = []) :
    MI dss (oneM dss (eventsB dss) b c) (inkA dss a c (dAt dss c (a.nx c)).2.1.toNat) (fun i => if i = offN dss c (a.nx c) then T else τ i) T z := by
  have h4 : (dAt dss c (a.nx c)).1 ≠ 4 := by omega
  have h3 : (dAt dss c (a.nx c)).1 ≠ 3 := by omega
  have E := ev_first hc hk h4
  obtain ⟨s1, s2, s3, s4⟩ := sys_at hb E
  obtain ⟨p, hp, ep⟩ := place_d hb hc hk
  have hN := nxt_first hb a τ hc hk h4
  have hrd : (sysW dss).rd (offN dss c (a.nx c)) = false := by rw [s3]; exact rdI_two h2 0
  have hpl : (sysW dss).pl (offN dss c (a.nx c)) = p := by rw [s2, ep, Int.toNat_natCast]
  have I := M.inv.doInk hT hN hrd (by rw [s4]; exact hz) (by rw [s1, st_N]; exact hN0)
  have hx := eventsB_12 dss
  have hg0 : 0 < gAt dss c (a.nx c) := by have := (g_in (okC_of hb hc) hk).1; omega
  have hd : deedM dss (eventsB dss) b c (nxN b c) = inkM b p (dAt dss c (a.nx c)).2.2.1 (offN dss c (a.nx c) : Int) := by
    rw [(nx_at M.rep hc).2]
    unfold deedM
    rw [if_neg (by omega), if_neg (by omega), if_pos ⟨h2, hg0⟩, evM_at hb hc hk h4, ep, Int.toNat_natCast]
  rw [ep, Int.toNat_natCast]
  have hst : stA dss { bumpA a c with R := fun q => if q = p then a.R q ++ [offN dss c (a.nx c)] else a.R q } (fun i => if i = offN dss c (a.nx c) then T else τ i) = (stA dss a τ).doInk (sysW dss) T (offN dss c (a.nx c)) := by
    unfold stA AbsSt.doInk
    rw [hpl]
    congr 1
    funext j
    apply propext
    exact X_one hb a hc hk h4 h3 j
  have hla : ∀ q, lastA { bumpA a c with R := fun q => if q = p then a.R q ++ [offN dss c (a.nx c)] else a.R q } q = if q = p then offN dss c (a.nx c) else lastA a q := by
    intro q
    unfold lastA
    show ((if q = p then a.R q ++ [offN dss c (a.nx c)] else a.R q).getLast?).getD q = _
    split
    · simp
    · rfl
  unfold oneM
  rw [hd]
  refine ⟨⟨rep_nxt M.rep hc, M.rep.nts, ?_, ?_, ?_, ?_, ?_⟩, by rw [hst]; exact I, nxl_bump M.nxl hk, nt_bump M (fun h => absurd hN0 h)⟩
  · show b.rws.set p (b.rws.getD p [] ++ [(offN dss c (a.nx c) : Int)]) = _
    rw [(lst_at M.rep hp).2.2, M.rep.rws, map_set]
    refine List.map_congr_left (fun q _ => ?_)
    show _ = (if q = p then a.R q ++ [offN dss c (a.nx c)] else a.R q).map Int.ofNat
    split
    · rename_i e; subst e; rw [List.map_append]; rfl
    · rfl
  · show b.lst.set p (offN dss c (a.nx c) : Int) = _
    rw [M.rep.lst, map_set]
    refine List.map_congr_left (fun q _ => ?_)
    rw [hla]
    split <;> rfl
  · show b.plc.set p (dAt dss c (a.nx c)).2.2.1 = _
    rw [M.rep.plc, map_set]
    refine List.map_congr_left (fun q _ => ?_)
    rw [hla]
    split
    · rw [(vl_at hb E).2, vlI_w (rdI_two h2 0)]
    · rfl
  · show b.fr = _
    rw [M.rep.fr]
    refine List.map_congr_left (fun r hr => ?_)
    obtain ⟨j, rfl, hj, hjr⟩ := rs_in hx hr
    rw [Int.toNat_natCast]
    show _ = if exA dss (bumpA a c) j = true then _ else _
    rw [ex_w hb a hc hk h2 hj hjr]
    rfl
  · show b.sn = _
    rw [M.rep.sn]
    refine List.map_congr_left (fun r hr => ?_)
    obtain ⟨j, rfl, hj, hjr⟩ := rs_in hx hr
    rw [Int.toNat_natCast]
    show _ = if exA dss (bumpA a c) j = true then _ else _
    rw [ex_w hb a hc hk h2 hj hjr]
    rfl
theorem oneM_ink {dss : List (List Dd)} (hb : workB dss = true) {b : Bd} {a : Ab} {τ : Nat → Nat} {T : Nat} {z : Int} (M : MI dss b a τ T z) (hT : 1 ≤ T) {c : Nat} (hc : c < dss.length) (hk : a.nx c < (dss.getD c []).length) (h2 : (dAt dss c (a.nx c)).1 = 2) (hg : gAt dss c (a.nx c) ≠ 0)
    (hz : clsD dss c (a.nx c) = z) (hN0 : a.N c = []) :
    ∃ τ', MI dss (oneM dss (eventsB dss) b c) (inkA dss a c (dAt dss c (a.nx c)).2.1.toNat) τ' T z := ⟨_, oneM_ink_t hb M hT hc hk h2 hg hz hN0⟩
abbrev swapA (dss : List (List Dd)) (a : Ab) (c p : Nat) : Ab := { bumpA a c with F := fun i => if i = offN dss c (a.nx c) then lastA a p else a.F i, R := fun q => if q = p then a.R q ++ [offN dss c (a.nx c) + 1] else a.R q }
abbrev flushA (a : Ab) (c p x : Nat) (rest : List Nat) : Ab := { a with N := fun c' => if c' = c then rest else a.N c', R := fun q => if q = p then a.R q ++ [x] else a.R q }
theorem oneM_swap_t {dss : List (List Dd)} (hb : workB dss = true) {b : Bd} {a : Ab} {τ : Nat → Nat} {T : Nat} {z : Int} (M : MI dss b a τ T z) (hT : 1 ≤ T) {c : Nat} (hc : c < dss.length) (hk : a.nx c < (dss.getD c []).length) (h3 : (dAt dss c (a.nx c)).1 = 3)
    (hz : clsD dss c (a.nx c) = z) (hN0 : a.N c = []) :
    MI dss (oneM dss (eventsB dss) b c) (swapA dss a c (dAt dss c (a.nx c)).2.1.toNat) (fun i => if i = offN dss c (a.nx c) + 1 then T else if i = offN dss c (a.nx c) then T else τ i) T z := by
  have h4 : (dAt dss c (a.nx c)).1 ≠ 4 := by omega
  have E := ev_first hc hk h4
  have E2 := ev_second hc hk h3
  obtain ⟨s1, s2, s3, s4⟩ := sys_at hb E
  obtain ⟨r1, r2, r3, r4⟩ := sys_at hb E2
  obtain ⟨p, hp, ep⟩ := place_d hb hc hk
  have hN := nxt_first hb a τ hc hk h4
  have hrd : (sysW dss).rd (offN dss c (a.nx c)) = true := by rw [s3]; exact rdI_first (by omega)
  have hrd2 : (sysW dss).rd (offN dss c (a.nx c) + 1) = false := by rw [r3]; exact rdI_second _
  have hpl : (sysW dss).pl (offN dss c (a.nx c)) = p := by rw [s2, ep, Int.toNat_natCast]
  have hpl2 : (sysW dss).pl (offN dss c (a.nx c) + 1) = p := by rw [r2, ep, Int.toNat_natCast]
  have hlast := last_some M.inv hp
  have I1 := M.inv.doRead hT hN hrd (by rw [s4]; exact hz) (fun x hx => by rw [s1, st_N, hN0] at hx; cases hx) (f := lastA a p) (by
    rw [s1, hpl]
    unfold AbsSt.L
    rw [st_N, hN0]
    show (a.R p ++ [].filter _).getLast? = _
    rw [List.filter_nil, List.append_nil]
    exact hlast)
  have hN2 : Nxt (sysW dss) ((stA dss a τ).doRead T (offN dss c (a.nx c)) (lastA a p)) (offN dss c (a.nx c) + 1) := by
    have hl := E2.lt hb
    refine ⟨hl.1, hl.2, ?_, ?_, ?_⟩
    · rintro (⟨_, h⟩ | h)
      · rw [ex_at hb E2, decide_eq_true_eq] at h; omega
      · omega
    · intro i h3' hi hck
      by_cases e : i = offN dss c (a.nx c)
      · exact .inr e
      · exact .inl (hN.all i h3' (by omega) (by rw [hck, r1, s1]))
    · rintro i (h | h) h3' hck
      · have := hN.last i h h3' (by rw [hck, r1, s1]); omega
      · omega
  have I := I1.doInk hT hN2 hrd2 (by rw [r4]; exact hz) (by rw [r1]; show (stA dss a τ).N (c : Int) = []; rw [st_N]; exact hN0)
  have hx := eventsB_12 dss
  obtain ⟨l1, l2, l3⟩ := lst_at M.rep hp
  have hd : deedM dss (eventsB dss) b c (nxN b c) = inkM (seeM (idxB rdE (eventsB dss)) b (offN dss c (a.nx c) : Int) (vlN dss (lastA a p)) (lastA a p : Int)) p (dAt dss c (a.nx c)).2.2.1 ((offN dss c (a.nx c) : Int) + 1) := by
    rw [(nx_at M.rep hc).2]
    unfold deedM
    rw [if_neg (by omega), if_pos h3, evM_at hb hc hk h4, ep, Int.toNat_natCast, l1, l2]
  rw [ep, Int.toNat_natCast]
  have hst : stA dss { bumpA a c with F := fun i => if i = offN dss c (a.nx c) then lastA a p else a.F i, R := fun q => if q = p then a.R q ++ [offN dss c (a.nx c) + 1] else a.R q } (fun i => if i = offN dss c (a.nx c) + 1 then T else if i = offN dss c (a.nx c) then T else τ i) =
      ((stA dss a τ).doRead T (offN dss c (a.nx c)) (lastA a p)).doInk (sysW dss) T (offN dss c (a.nx c) + 1) := by
    unfold stA AbsSt.doInk AbsSt.doRead
    rw [hpl2]
    congr 1
    funext j
    apply propext
    exact X_two hb a hc hk h3 j
  have hexr : ∀ j, j < (eventsB dss).length → ((eventsB dss).getD j zE).2.2.1 = true → exA dss (bumpA a c) j = (decide (j = offN dss c (a.nx c)) || exA dss a j) := by
    intro j hj hjr
    have this := X_two hb a hc hk h3 j
    have hne : j ≠ offN dss c (a.nx c) + 1 := by
      intro e
      rw [e, E2.at hb, show rdI (dAt dss c (a.nx c)) 1 = false from rdI_second _] at hjr
      cases hjr
    cases q : exA dss (bumpA a c) j with
    | true =>
      rcases this.1 ⟨hj, q⟩ with (h | h) | h
      · rw [h.2]; simp
      · simp [h]
      · exact absurd h hne
    | false =>
      have n1 : ¬ j = offN dss c (a.nx c) := fun e => by have := (this.2 (.inl (.inr e))).2; rw [q] at this; cases this
      have n2 : exA dss a j = false := by
        cases q2 : exA dss a j with
        | false => rfl
        | true => have := (this.2 (.inl (.inl ⟨hj, q2⟩))).2; rw [q] at this; cases this
      simp [n1, n2]
  have hla : ∀ q, lastA { bumpA a c with F := fun i => if i = offN dss c (a.nx c) then lastA a p else a.F i, R := fun q => if q = p then a.R q ++ [offN dss c (a.nx c) + 1] else a.R q } q = if q = p then offN dss c (a.nx c) + 1 else lastA a q := by
    intro q
    unfold lastA
    show ((if q = p then a.R q ++ [offN dss c (a.nx c) + 1] else a.R q).getLast?).getD q = _
    split
    · simp
    · rfl
  unfold oneM
  rw [hd]
  refine ⟨⟨rep_nxt M.rep hc, M.rep.nts, ?_, ?_, ?_, ?_, ?_⟩, by rw [hst]; exact I, nxl_bump M.nxl hk, nt_bump M (fun h => absurd hN0 h)⟩
  · show b.rws.set p (b.rws.getD p [] ++ [(offN dss c (a.nx c) : Int) + 1]) = _
    rw [l3, M.rep.rws, map_set]
    refine List.map_congr_left (fun q _ => ?_)
    show _ = (if q = p then a.R q ++ [offN dss c (a.nx c) + 1] else a.R q).map Int.ofNat
    split
    · rename_i e; subst e; rw [List.map_append]; rfl
    · rfl
  · show b.lst.set p ((offN dss c (a.nx c) : Int) + 1) = _
    rw [M.rep.lst, map_set]
    refine List.map_congr_left (fun q _ => ?_)
    rw [hla]
    split <;> rfl
  · show b.plc.set p (dAt dss c (a.nx c)).2.2.1 = _
    rw [M.rep.plc, map_set]
    refine List.map_congr_left (fun q _ => ?_)
    rw [hla]
    split
    · rw [(vl_at hb E2).2, vlI_w (rdI_second _)]
    · rfl
  · show setR (idxB rdE (eventsB dss)) _ _ b.fr = _
    rw [M.rep.fr, set_self]
    refine List.map_congr_left (fun r hr => ?_)
    obtain ⟨j, rfl, hj, hjr⟩ := rs_in hx hr
    rw [Int.toNat_natCast]
    show _ = if exA dss (bumpA a c) j = true then ((if j = offN dss c (a.nx c) then lastA a p else a.F j : Nat) : Int) else -1
    rw [hexr j hj hjr]
    by_cases e : j = offN dss c (a.nx c)
    · simp [e]
    · simp [e, show ¬ ((j : Int) = (offN dss c (a.nx c) : Int)) by omega]
  · show setR (idxB rdE (eventsB dss)) _ _ b.sn = _
    rw [M.rep.sn, set_self]
    refine List.map_congr_left (fun r hr => ?_)
    obtain ⟨j, rfl, hj, hjr⟩ := rs_in hx hr
    rw [Int.toNat_natCast]
    show _ = if exA dss (bumpA a c) j = true then vlN dss (if j = offN dss c (a.nx c) then lastA a p else a.F j) else -1
    rw [hexr j hj hjr]
    by_cases e : j = offN dss c (a.nx c)
    · simp [e]
    · simp [e, show ¬ ((j : Int) = (offN dss c (a.nx c) : Int)) by omega]
theorem oneM_swap {dss : List (List Dd)} (hb : workB dss = true) {b : Bd} {a : Ab} {τ : Nat → Nat} {T : Nat} {z : Int} (M : MI dss b a τ T z) (hT : 1 ≤ T) {c : Nat} (hc : c < dss.length) (hk : a.nx c < (dss.getD c []).length) (h3 : (dAt dss c (a.nx c)).1 = 3)
    (hz : clsD dss c (a.nx c) = z) (hN0 : a.N c = []) :
    ∃ τ', MI dss (oneM dss (eventsB dss) b c) (swapA dss a c (dAt dss c (a.nx c)).2.1.toNat) τ' T z := ⟨_, oneM_swap_t hb M hT hc hk h3 hz hN0⟩
theorem flush_sim_t {dss : List (List Dd)} (hb : workB dss = true) {b : Bd} {a : Ab} {τ : Nat → Nat} {T : Nat} {z : Int} (M : MI dss b a τ T z) {c : Nat} (hc : c < dss.length) {x : Nat} {rest : List Nat} (hN : a.N c = x :: rest) :
    MI dss (flushM b c) (flushA a c ((sysW dss).pl x) x rest) (fun i => if i = x then T + 1 else τ i) (T + 1) ((sysW dss).cs x) := by
  obtain ⟨_, k, E, h1, h2, h3, h5⟩ := M.nt c x (by rw [hN]; simp)
  obtain ⟨s1, s2, s3, s4⟩ := sys_at hb E
  obtain ⟨p, hp, ep⟩ := place_d hb E.hc E.hk
  have hpl : (sysW dss).pl x = p := by rw [s2, ep, Int.toNat_natCast]
  have hst0 : (stA dss a τ).N (c : Int) = x :: rest := by rw [st_N]; exact hN
  have I0 := M.inv.tick ((sysW dss).cs x) (fun i hi h3' e => by
    obtain ⟨c', k', i', E'⟩ := ev_dec hb h3' hi.1.1
    rw [(sys_at hb E').2.2.2, s4] at e
    have hc' := (cls_iff (okC_of hb E'.hc) (okC_of hb E.hc) E'.hk E.hk E'.kind E.kind).1 e
    obtain ⟨rfl, hq⟩ := hc'
    have hkk : k' = k := by
      rcases hq with hq | hq
      · exact hq
      · exact absurd (hq.2.trans h3) hq.1
    subst hkk
    have e1 := (ev_only E' (by omega)).1
    have e2 := (ev_only E (by omega)).1
    have exx : i = x := by omega
    subst exx
    exact hi.2 (by rw [s1, hst0]; simp))
  have I := I0.doFlush (by omega) hst0 rfl
  have hx := eventsB_12 dss
  have hfl : flushM b c = inkM { b with nts := b.nts.set c (rest.map (ntE dss)) } p (vlN dss x) (x : Int) := by
    unfold flushM
    rw [nts_at M.rep hc, hN, List.map_cons]
    show inkM _ (plN dss x).toNat (vlN dss x) (x : Int) = _
    rw [(vl_at hb E).1, ep, Int.toNat_natCast]
  rw [hpl]
  have hst : stA dss { a with N := fun c' => if c' = c then rest else a.N c', R := fun q => if q = p then a.R q ++ [x] else a.R q } (fun i => if i = x then T + 1 else τ i) = (stA dss a τ).doFlush (sysW dss) (T + 1) (c : Int) x rest := by
    unfold stA AbsSt.doFlush
    rw [hpl]
    congr 1
    funext c'
    show (if 0 ≤ c' then (if c'.toNat = c then rest else a.N c'.toNat) else []) = if c' = (c : Int) then rest else (if 0 ≤ c' then a.N c'.toNat else [])
    by_cases h0 : 0 ≤ c'
    · rw [if_pos h0]
      by_cases e : c' = (c : Int)
      · subst e; simp
      · rw [if_neg (by omega), if_neg e, if_pos h0]
    · rw [if_neg h0, if_neg (by omega), if_neg h0]
  have hla : ∀ q, lastA { a with N := fun c' => if c' = c then rest else a.N c', R := fun q => if q = p then a.R q ++ [x] else a.R q } q = if q = p then x else lastA a q := by
    intro q
    unfold lastA
    show ((if q = p then a.R q ++ [x] else a.R q).getLast?).getD q = _
    split
    · simp
    · rfl
  rw [hfl]
  refine ⟨⟨M.rep.nxt, ?_, ?_, ?_, ?_, M.rep.fr, M.rep.sn⟩, by rw [hst]; exact I, M.nxl, ?_⟩
  · show b.nts.set c _ = _
    rw [M.rep.nts, map_set]
    refine List.map_congr_left (fun i _ => ?_)
    show _ = (if i = c then rest else a.N i).map (ntE dss)
    split <;> rfl
  · show b.rws.set p (b.rws.getD p [] ++ [(x : Int)]) = _
    rw [(lst_at M.rep hp).2.2, M.rep.rws, map_set]
    refine List.map_congr_left (fun q _ => ?_)
    show _ = (if q = p then a.R q ++ [x] else a.R q).map Int.ofNat
    split
    · rename_i e; subst e; rw [List.map_append]; rfl
    · rfl
  · show b.lst.set p (x : Int) = _
    rw [M.rep.lst, map_set]
    refine List.map_congr_left (fun q _ => ?_)
    rw [hla]
    split <;> rfl
  · show b.plc.set p (vlN dss x) = _
    rw [M.rep.plc, map_set]
    refine List.map_congr_left (fun q _ => ?_)
    rw [hla]
    split <;> rfl
  · intro c' y hy
    refine M.nt c' y ?_
    change y ∈ (if c' = c then rest else a.N c') at hy
    split at hy
    · rename_i e; subst e; rw [hN]; exact List.mem_cons_of_mem _ hy
    · exact hy
theorem flush_sim {dss : List (List Dd)} (hb : workB dss = true) {b : Bd} {a : Ab} {τ : Nat → Nat} {T : Nat} {z : Int} (M : MI dss b a τ T z) {c : Nat} (hc : c < dss.length) {x : Nat} {rest : List Nat} (hN : a.N c = x :: rest) :
    ∃ τ', MI dss (flushM b c) (flushA a c ((sysW dss).pl x) x rest) τ' (T + 1) ((sysW dss).cs x) := ⟨_, flush_sim_t hb M hc hN⟩
theorem cls_three {dss : List (List Dd)} (hb : workB dss = true) {c k : Nat} (hc : c < dss.length) (hk : k < (dss.getD c []).length) (h4 : (dAt dss c k).1 ≠ 4) : 3 ≤ clsD dss c k := by
  rcases cls_at (okC_of hb hc) hk h4 with ⟨_, e⟩ | ⟨_, j, _, _, _, e⟩
  · have := off_three dss c k; omega
  · have := off_three dss c j; omega
theorem one_sim {dss : List (List Dd)} (hb : workB dss = true) {b : Bd} {a : Ab} {τ : Nat → Nat} {T : Nat} {z : Int} (M : MI dss b a τ T z) (hT : 1 ≤ T) {c : Nat} (hc : c < dss.length) (hk : a.nx c < (dss.getD c []).length)
    (hz : (dAt dss c (a.nx c)).1 ≠ 4 → clsD dss c (a.nx c) = z) (hcan : ((dAt dss c (a.nx c)).1 ≤ 2 ∧ gAt dss c (a.nx c) = 0) ∨ a.N c = []) :
    ∃ a' τ', MI dss (oneM dss (eventsB dss) b c) a' τ' T z ∧ a'.nx = (bumpA a c).nx ∧ (gAt dss c (a.nx c) ≠ 0 → a'.N c = []) := by
  have hkd := okD_kindE (okC_of hb hc _ hk)
  rcases hkd with h | h | h | h
  · obtain ⟨f, τ', _, h1⟩ := oneM_read hb M hT hc hk h (hz (by omega)) (hcan.imp (fun h => h.2) id)
    exact ⟨_, τ', h1, rfl, fun hg => hcan.resolve_left (fun h => hg h.2)⟩
  · by_cases hg : gAt dss c (a.nx c) = 0
    · exact ⟨_, τ, oneM_note hb M hc hk h hg, rfl, fun h => absurd hg h⟩
    · have hN := hcan.resolve_left (fun h => hg h.2)
      obtain ⟨τ', h1⟩ := oneM_ink hb M hT hc hk h hg (hz (by omega)) hN
      exact ⟨_, τ', h1, rfl, fun _ => hN⟩
  · have hN := hcan.resolve_left (fun h => by omega)
    obtain ⟨τ', h1⟩ := oneM_swap hb M hT hc hk h (hz (by omega)) hN
    exact ⟨_, τ', h1, rfl, fun _ => hN⟩
  · have hN := hcan.resolve_left (fun h => by omega)
    exact ⟨bumpA a c, τ, oneM_wait hb M hc hk h hN, rfl, fun _ => hN⟩
def BD (dss : List (List Dd)) (a : Ab) : Prop := ∀ c, c < dss.length → 0 < a.nx c → a.nx c < (dss.getD c []).length → gAt dss c (a.nx c) ≠ 0 → gAt dss c (a.nx c - 1) ≠ gAt dss c (a.nx c)
theorem go_sim {dss : List (List Dd)} (hb : workB dss = true) {c : Nat} (hc : c < dss.length) (g : Int) {T : Nat} (hT : 1 ≤ T) {z : Int} : ∀ (m : Nat) (b : Bd) (a : Ab) (τ : Nat → Nat), MI dss b a τ T z → a.nx c < (dss.getD c []).length → (dss.getD c []).length ≤ a.nx c + m → gAt dss c (a.nx c) = g →
    ((dAt dss c (a.nx c)).1 ≠ 4 → clsD dss c (a.nx c) = z) → (((dAt dss c (a.nx c)).1 ≤ 2 ∧ gAt dss c (a.nx c) = 0) ∨ a.N c = []) →
    ∃ a' τ', MI dss (goM dss (eventsB dss) g c m b) a' τ' T z ∧ a.nx c < a'.nx c ∧ (∀ c', c' ≠ c → a'.nx c' = a.nx c') ∧ (a'.nx c < (dss.getD c []).length → gAt dss c (a'.nx c) ≠ 0 → gAt dss c (a'.nx c - 1) ≠ gAt dss c (a'.nx c))
  | 0, b, a, τ, M, hk, hm, _, _, _ => by omega
  | m + 1, b, a, τ, M, hk, hm, hg, hz, hcan => by
    obtain ⟨a1, τ1, M1, e1, e2⟩ := one_sim hb M hT hc hk hz hcan
    have hn1 : a1.nx c = a.nx c + 1 := by rw [e1, nx_bump, if_pos rfl]
    have ho1 : ∀ c', c' ≠ c → a1.nx c' = a.nx c' := fun c' h => by rw [e1, nx_bump, if_neg h]
    rw [goM, (nx_at M1.rep hc).2, hn1]
    by_cases hs : g = 0 ∨ a.nx c + 1 = (dss.getD c []).length ∨ gAt dss c (a.nx c + 1) ≠ g
    · rw [if_pos hs]
      refine ⟨a1, τ1, M1, by omega, ho1, ?_⟩
      rw [hn1]
      intro hl hg0
      rw [show a.nx c + 1 - 1 = a.nx c by omega, hg]
      rcases hs with hs | hs | hs
      · rw [hs]; exact fun e => hg0 e.symm
      · omega
      · exact fun e => hs e.symm
    · rw [if_neg hs]
      have hs0 : ¬ g = 0 := fun h => hs (.inl h)
      have hs1 : ¬ a.nx c + 1 = (dss.getD c []).length := fun h => hs (.inr (.inl h))
      have hs2 : gAt dss c (a.nx c + 1) = g := Classical.byContradiction (fun h => hs (.inr (.inr h)))
      have hl := M1.nxl c hc
      have hk1 : a.nx c + 1 < (dss.getD c []).length := by omega
      have hok := okC_of hb hc
      have n1 := num_grp hok hk (by rw [hg]; exact hs0)
      have n2 := num_grp hok hk1 (by rw [hs2]; exact hs0)
      have hcl : clsD dss c (a.nx c + 1) = clsD dss c (a.nx c) := (cls_iff hok hok hk1 hk n2.1 n1.1).2 ⟨rfl, .inr ⟨by rw [hs2]; exact hs0, by rw [hs2, hg]⟩⟩
      obtain ⟨a', τ', M', q1, q2, q3⟩ := go_sim hb hc g hT m (oneM dss (eventsB dss) b c) a1 τ1 M1 (by omega) (by omega) (by rw [hn1]; exact hs2) (by rw [hn1, hcl]; exact fun _ => hz n1.1) (.inr (e2 (by rw [hg]; exact hs0)))
      exact ⟨a', τ', M', by omega, fun c' h => by rw [q2 c' h, ho1 c' h], q3⟩
theorem cs_big {dss : List (List Dd)} (hb : workB dss = true) {a : Ab} {τ : Nat → Nat} {i : Nat} (hi : (stA dss a τ).D (sysW dss) i) (h3 : 3 ≤ i) : ∃ c k i', EvIs dss i c k i' ∧ k < a.nx c ∧ (sysW dss).cs i = clsD dss c k ∧ 3 ≤ clsD dss c k := by
  obtain ⟨c, k, i', E⟩ := ev_dec hb h3 hi.1.1
  have hX := hi.1.2
  rw [ex_at hb E, decide_eq_true_eq] at hX
  exact ⟨c, k, i', E, hX, (sys_at hb E).2.2.2, cls_three hb E.hc E.hk E.kind⟩
theorem step_sim {dss : List (List Dd)} (hb : workB dss = true) {b : Bd} {a : Ab} {τ : Nat → Nat} {T : Nat} {z : Int} (M : MI dss b a τ T z) (B : BD dss a) {s : Int} (hs : isB (possM dss b) s = true) :
    ∃ a' τ' z', MI dss (stepM dss (eventsB dss) b s) a' τ' (T + 1) z' ∧ BD dss a' := by
  have hm := isB_mem hs
  unfold possM at hm
  rw [List.mem_append, List.mem_map, List.mem_map] at hm
  rcases hm with ⟨c, hc, e⟩ | ⟨c, hc, e⟩
  · rw [List.mem_filter, List.mem_range] at hc
    obtain ⟨hc, hcan⟩ := hc
    have hl3 : dss.length ≤ 3 := by
      simp only [workB, Bool.and_eq_true, decide_eq_true_eq] at hb
      exact hb.1.1.1.1.2
    unfold canM at hcan
    rw [(nx_at M.rep hc).2, nts_at M.rep hc] at hcan
    simp only [Bool.and_eq_true, Bool.or_eq_true, decide_eq_true_eq, List.isEmpty_iff, List.map_eq_nil_iff] at hcan
    obtain ⟨hk, hcan⟩ := hcan
    have hok := okC_of hb hc
    have M1 : MI dss b a τ (T + 1) (if (dAt dss c (a.nx c)).1 = 4 then -1 else clsD dss c (a.nx c)) := by
      refine ⟨M.rep, M.inv.tick _ (fun i hi h3 e => ?_), M.nxl, M.nt⟩
      obtain ⟨c', k', i', E, hX, e1, e2⟩ := cs_big hb hi h3
      rw [e1] at e
      split at e
      · omega
      · rename_i h4
        obtain ⟨rfl, hq⟩ := (cls_iff (okC_of hb E.hc) hok E.hk hk E.kind h4).1 e
        rcases hq with hq | ⟨g1, g2⟩
        · omega
        · have h0 : gAt dss c' (a.nx c') ≠ 0 := by rw [← g2]; exact g1
          refine B c' hc (by omega) hk h0 ?_
          exact grp_between hb hc (j := k') (k := a.nx c' - 1) (l := a.nx c') (by omega) (by omega) hk h0 g2
    have hst : stepM dss (eventsB dss) b s = goM dss (eventsB dss) (gAt dss c (a.nx c)) c (dss.getD c []).length b := by
      unfold stepM
      rw [if_neg (by omega), show s.toNat = c by omega, (nx_at M.rep hc).2]
    rw [hst]
    obtain ⟨a', τ', M', q1, q2, q3⟩ := go_sim hb hc (gAt dss c (a.nx c)) (T := T + 1) (by omega) (dss.getD c []).length b a τ M1 hk (by omega) rfl (fun h => by rw [if_neg h]) hcan
    refine ⟨a', τ', _, M', fun c' hc' h0 hl hg => ?_⟩
    by_cases e : c' = c
    · subst e; exact q3 hl hg
    · rw [q2 c' e] at h0 hl hg ⊢
      exact B c' hc' h0 hl hg
  · rw [List.mem_filter, List.mem_range] at hc
    obtain ⟨hc, hne⟩ := hc
    rw [nts_at M.rep hc] at hne
    have hst : stepM dss (eventsB dss) b s = flushM b c := by
      unfold stepM
      rw [if_pos (by omega), show (s - 10).toNat = c by omega]
    rw [hst]
    cases hN : a.N c with
    | nil => rw [hN] at hne; simp at hne
    | cons x rest =>
      obtain ⟨τ', M'⟩ := flush_sim hb M hc hN
      exact ⟨_, τ', _, M', fun c' hc' => B c' hc'⟩
def newA : Ab := { nx := fun _ => 0, N := fun _ => [], R := fun p => if p < 3 then [p] else [], F := fun _ => 0 }
theorem new_sim {dss : List (List Dd)} (hb : workB dss = true) : MI dss (newM dss) newA (fun _ => 0) 0 (-1) ∧ BD dss newA := by
  have hX : ∀ j, (stA dss newA (fun _ => 0)).X j ↔ j < 3 := by
    intro j
    show (j < (eventsB dss).length ∧ exA dss newA j = true) ↔ _
    unfold exA newA
    simp
    have := (beg_ev hb).1
    omega
  have hN : ∀ c, (stA dss newA (fun _ => 0)).N c = [] := fun c => by show (if 0 ≤ c then [] else []) = []; split <;> rfl
  have hD : ∀ j, (stA dss newA (fun _ => 0)).D (sysW dss) j ↔ j < 3 := fun j => by
    unfold AbsSt.D
    rw [hX, hN]
    simp
  have hR : ∀ p, (stA dss newA (fun _ => 0)).R p = if p < 3 then [p] else [] := fun p => rfl
  have hbeg : ∀ j, j < 3 → (sysW dss).rd j = false ∧ (sysW dss).pl j = j ∧ (sysW dss).ck j = -1 ∧ (sysW dss).cs j = (j : Int) := by
    intro j hj
    obtain ⟨h1, h2, h3, h4⟩ := beg_place hb hj
    refine ⟨h2, ?_, h4, h3⟩
    show ((eventsB dss).getD j zE).2.2.2.1.toNat = j
    rw [h1, Int.toNat_natCast]
  have hno : ∀ j, (stA dss newA (fun _ => 0)).X j → ¬ 3 ≤ j := fun j h1 h2 => by have := (hX j).1 h1; omega
  refine ⟨⟨?_, ?_, fun c hc => Nat.zero_le _, fun c x hx => by cases hx⟩, fun c _ h => absurd h (Nat.lt_irrefl _)⟩
  · have hrep : ∀ (α : Type) (m : Nat) (x : α), List.replicate m x = (List.range m).map (fun _ => x) := by
      intro α m x
      rw [List.map_const', List.length_range]
    have hrep2 : ∀ (α β : Type) (l : List β) (x : α), List.replicate l.length x = l.map (fun _ => x) := by
      intro α β l x
      rw [List.map_const']
    obtain ⟨h3, b0, b1, b2⟩ := beg_ev hb
    refine ⟨hrep _ _ _, hrep _ _ _, rfl, rfl, ?_, ?_, ?_⟩
    · show [0, 0, 0] = (List.range 3).map (fun p => vlN dss (lastA newA p))
      have e0 : vlN dss 0 = 0 := by unfold vlN; rw [b0]
      have e1 : vlN dss 1 = 0 := by unfold vlN; rw [b1]
      have e2 : vlN dss 2 = 0 := by unfold vlN; rw [b2]
      have r3 : List.range 3 = [0, 1, 2] := rfl
      rw [r3]
      show [0, 0, 0] = [vlN dss 0, vlN dss 1, vlN dss 2]
      rw [e0, e1, e2]
    · show List.replicate _ (-1) = _
      rw [hrep2]
      refine List.map_congr_left (fun r hr => ?_)
      obtain ⟨j, rfl, hj, hjr⟩ := rs_in (eventsB_12 dss) hr
      have : ¬ exA dss newA j = true := by
        intro h
        have h3 := (hX j).1 ⟨hj, h⟩
        rw [(beg_place hb h3).2.1] at hjr
        cases hjr
      rw [Int.toNat_natCast, if_neg this]
    · show List.replicate _ (-1) = _
      rw [hrep2]
      refine List.map_congr_left (fun r hr => ?_)
      obtain ⟨j, rfl, hj, hjr⟩ := rs_in (eventsB_12 dss) hr
      have : ¬ exA dss newA j = true := by
        intro h
        have h3 := (hX j).1 ⟨hj, h⟩
        rw [(beg_place hb h3).2.1] at hjr
        cases hjr
      rw [Int.toNat_natCast, if_neg this]
  · constructor
    case beg => exact fun j hj => ⟨(hX j).2 hj, (hbeg j hj).1, (hbeg j hj).2.1, (hbeg j hj).2.2.1, rfl, (hbeg j hj).2.2.2⟩
    case lt => exact fun j hj => hj.1
    case down => exact fun i j hj h3 hij _ => absurd ((hX j).1 hj) (by omega)
    case note => exact fun c x hx => by rw [hN] at hx; cases hx
    case nord => exact fun c => by rw [hN]; simp
    case pend => exact fun c x j hx => by rw [hN] at hx; cases hx
    case rows =>
      intro p x
      rw [hR, hD]
      by_cases hp : p < 3
      · rw [if_pos hp]
        constructor
        · intro hx
          have e : x = p := by simpa using hx
          subst e
          exact ⟨hp, (hbeg x hp).1, (hbeg x hp).2.1⟩
        · rintro ⟨h1, h2, h3⟩
          rw [(hbeg x h1).2.1] at h3
          simp [h3]
      · rw [if_neg hp]
        constructor
        · intro hx; cases hx
        · rintro ⟨h1, h2, h3⟩
          rw [(hbeg x h1).2.1] at h3
          omega
    case rnod => exact fun p => by rw [hR]; split <;> simp
    case rord => exact fun p => by rw [hR]; split <;> simp
    case tle => exact fun j _ => Nat.le_refl _
    case tpos => exact fun j hj h3 => absurd h3 (hno j hj.1)
    case same => exact fun i j hi _ h3 => absurd h3 (hno i hi.1)
    case mate => exact fun i j hi _ h3 => absurd h3 (hno i hi.1)
    case now => exact fun i hi h3 => absurd h3 (hno i hi.1)
    case kept => exact fun i j hi _ h3 => absurd h3 (hno i hi.1)
    case src =>
      intro r hr hrd
      rw [(hbeg r ((hX r).1 hr)).1] at hrd
      cases hrd
    case agst =>
      intro r w p hr hrd
      rw [(hbeg r ((hX r).1 hr)).1] at hrd
      cases hrd
    case inL => exact fun i hi h3 => absurd h3 (hno i hi)
    case coh => exact fun i j hi _ h3 => absurd h3 (hno i hi)
    case cohw => exact fun i j hi _ h3 => absurd h3 (hno i hi)
theorem sub_of_idx {l : List Int} {i q : Nat} (hi : i < q) (hq : q < l.length) : [l.getD i 0, l.getD q 0].Sublist l := by
  have h1 : [l.getD i 0].Sublist (l.take q) := by
    rw [List.singleton_sublist, List.mem_take_iff_getElem]
    refine ⟨i, by omega, ?_⟩
    rw [List.getD_eq_getElem?_getD, List.getElem?_eq_getElem (by omega)]
    rfl
  have h2 : [l.getD q 0].Sublist (l.drop q) := by
    rw [List.singleton_sublist, List.mem_drop_iff_getElem]
    refine ⟨0, by omega, ?_⟩
    rw [List.getD_eq_getElem?_getD, List.getElem?_eq_getElem hq]
    simp
  have := h1.append h2
  rwa [List.take_append_drop] at this
theorem bef_idx {L : List Nat} (hn : L.Nodup) {x y : Nat} (h : Bef L x y) : L.idxOf x < L.idxOf y := by
  induction L with
  | nil => cases h
  | cons c L ih =>
    rw [List.nodup_cons] at hn
    have hxy : x ≠ y := by
      have := h.nodup (by rw [List.nodup_cons]; exact hn)
      intro e
      rw [e] at this
      simp at this
    cases h with
    | cons _ h' =>
      have hm := bef_mem h'
      have hx : c ≠ x := fun e => hn.1 (by rw [e]; exact hm.1)
      have hy : c ≠ y := fun e => hn.1 (by rw [e]; exact hm.2)
      rw [List.idxOf_cons, List.idxOf_cons, beq_eq_false_iff_ne.2 hx, beq_eq_false_iff_ne.2 hy]
      exact Nat.succ_lt_succ (ih hn.2 h')
    | cons_cons _ h' =>
      rw [List.idxOf_cons_self, List.idxOf_cons, beq_eq_false_iff_ne.2 hxy]
      exact Nat.succ_pos _
structure Fin (dss : List (List Dd)) (a : Ab) (τ : Nat → Nat) (T : Nat) (z : Int) (b : Bd) : Prop where
  inv : AInv (sysW dss) (stA dss a τ) T z
  rep : Rep dss b a
  none : ∀ c, (stA dss a τ).N c = []
  all : ∀ j, j < (eventsB dss).length → (stA dss a τ).D (sysW dss) j
theorem Fin.frs {dss : List (List Dd)} {a : Ab} {τ : Nat → Nat} {T : Nat} {z : Int} {b : Bd} (h : Fin dss a τ T z b) : b.fr = (idxB rdE (eventsB dss)).map (fun r => (a.F r.toNat : Int)) ∧ b.sn = (idxB rdE (eventsB dss)).map (fun r => vlN dss (a.F r.toNat)) := by
  have hx := eventsB_12 dss
  rw [h.rep.fr, h.rep.sn]
  constructor <;>
  · refine List.map_congr_left (fun r hr => ?_)
    obtain ⟨j, rfl, hj, _⟩ := rs_in hx hr
    rw [Int.toNat_natCast, if_pos (h.all j hj).1.2]
theorem Fin.rd {dss : List (List Dd)} {a : Ab} {τ : Nat → Nat} {T : Nat} {z : Int} {b : Bd} (h : Fin dss a τ T z b) {i : Nat} (hi : i < (idxB rdE (eventsB dss)).length) : ∃ r : Nat, r < (eventsB dss).length ∧ (idxB rdE (eventsB dss)).getD i 0 = (r : Int) ∧ b.fr.getD i 0 = (a.F r : Int) ∧ (sysW dss).rd r = true := by
  have hx := eventsB_12 dss
  obtain ⟨r, e, hr, hrd⟩ := rs_in hx (getD_mem hi)
  refine ⟨r, hr, e, ?_, hrd⟩
  rw [h.frs.1, List.getD_eq_getElem?_getD, List.getElem?_map]
  rw [List.getD_eq_getElem?_getD, List.getElem?_eq_getElem hi] at e
  rw [List.getElem?_eq_getElem hi]
  simp only [Option.getD_some] at e
  simp [e]
theorem Fin.src {dss : List (List Dd)} {a : Ab} {τ : Nat → Nat} {T : Nat} {z : Int} {b : Bd} (hb : workB dss = true) (h : Fin dss a τ T z b) : srcB (chcL (eventsB dss)) b.fr = true := by
  have hx := eventsB_12 dss
  have hc : (chcL (eventsB dss)).length = (idxB rdE (eventsB dss)).length := chcK_len _ _ _
  unfold srcB
  rw [Bool.and_eq_true, decide_eq_true_eq]
  refine ⟨by rw [hc, h.frs.1, List.length_map], (srcK_iff _).2 (fun i hi => ?_)⟩
  rw [hc] at hi
  obtain ⟨r, hr, e1, e2, e3⟩ := h.rd hi
  obtain ⟨q1, q2, q3, _⟩ := h.inv.src r (h.all r hr).1 e3
  unfold chcL
  rw [chcK_get _ _ _ _ hi, e1, e2]
  refine mem_isB ?_
  unfold idxB
  rw [if_pos hx]
  refine idxK_has _ _ ?_ _ (h.inv.lt _ q1)
  unfold toE plE
  have p1 : 0 ≤ ((eventsB dss).getD (a.F r) zE).2.2.2.1 ∧ ((eventsB dss).getD (a.F r) zE).2.2.2.1 ≤ 2 := place_ev hb (h.inv.lt _ q1)
  have p2 := place_ev hb hr
  have q3' : ((eventsB dss).getD (a.F r) zE).2.2.2.1.toNat = ((eventsB dss).getD r zE).2.2.2.1.toNat := q3
  have q2' : ((eventsB dss).getD (a.F r) zE).2.2.1 = false := q2
  rw [q2', Int.toNat_natCast]
  have : ((eventsB dss).getD (a.F r) zE).2.2.2.1 = ((eventsB dss).getD r zE).2.2.2.1 := by omega
  rw [this]
  simp
theorem Fin.head {dss : List (List Dd)} {a : Ab} {τ : Nat → Nat} {T : Nat} {z : Int} {b : Bd} (h : Fin dss a τ T z b) {p : Nat} (hp : p < 3) : (a.R p).head? = some p := by
  obtain ⟨h1, h2, h3, h4, h5, h6⟩ := h.inv.beg p hp
  have hm : p ∈ a.R p := (h.inv.rows p p).2 ⟨h.all p (h.inv.lt p h1), h2, h3⟩
  have ho := h.inv.rord p
  cases hl : a.R p with
  | nil => rw [hl] at hm; cases hm
  | cons x r =>
    change (a.R p).Pairwise _ at ho
    rw [hl] at ho hm
    rw [List.pairwise_cons] at ho
    rcases List.mem_cons.1 hm with e | hr
    · rw [e]; rfl
    · exfalso
      have hx := (h.inv.rows p x).1 (show x ∈ a.R p by rw [hl]; simp)
      have ht := ho.1 p hr
      change τ x ≤ τ p at ht
      change τ p = 0 at h5
      have hnd := h.inv.rnod p
      change (a.R p).Nodup at hnd
      rw [hl, List.nodup_cons] at hnd
      have hne : x ≠ p := fun e => hnd.1 (by rw [e]; exact hr)
      by_cases h3x : 3 ≤ x
      · have := h.inv.tpos x hx.1 h3x
        change 1 ≤ τ x at this
        omega
      · have := (h.inv.beg x (by omega)).2.2.1
        rw [hx.2.2] at this
        exact hne this.symm
theorem Fin.perm {dss : List (List Dd)} {a : Ab} {τ : Nat → Nat} {T : Nat} {z : Int} {b : Bd} (hb : workB dss = true) (h : Fin dss a τ T z b) (p : Nat) : ((a.R p).map Int.ofNat).Perm (plcW (eventsB dss) p) := by
  have hx := eventsB_12 dss
  have hn1 : ((a.R p).map Int.ofNat).Nodup := by
    have := h.inv.rnod p
    exact List.Pairwise.map _ (fun x y hxy e => hxy (Int.ofNat.inj e)) this
  have hn2 := plcW_nodup hx p
  have hm : ∀ y, y ∈ (a.R p).map Int.ofNat ↔ y ∈ plcW (eventsB dss) p := by
    intro y
    rw [List.mem_map]
    unfold plcW idxB
    rw [if_pos hx]
    constructor
    · rintro ⟨x, hx', rfl⟩
      obtain ⟨q1, q2, q3⟩ := (h.inv.rows p x).1 hx'
      refine idxK_has _ _ ?_ _ (h.inv.lt x q1.1)
      have p1 := place_ev hb (h.inv.lt x q1.1)
      have q2' : ((eventsB dss).getD x zE).2.2.1 = false := q2
      have q3' : ((eventsB dss).getD x zE).2.2.2.1.toNat = p := q3
      unfold toE
      rw [q2']
      have : ((eventsB dss).getD x zE).2.2.2.1 = (p : Int) := by omega
      rw [this]
      simp
    · intro hy
      have h1 := idxK_lt _ _ _ _ hy
      have h2 := idxK_mem _ _ _ _ hy
      obtain ⟨x, rfl⟩ := Int.eq_ofNat_of_zero_le h1.1
      rw [Int.toNat_natCast] at h2
      unfold toE at h2
      simp only [Bool.and_eq_true, Bool.not_eq_true', beq_iff_eq] at h2
      refine ⟨x, (h.inv.rows p x).2 ⟨h.all x (by omega), h2.1, ?_⟩, rfl⟩
      show ((eventsB dss).getD x zE).2.2.2.1.toNat = p
      rw [h2.2, Int.toNat_natCast]
  refine perm_of hn1 (fun y hy => (hm y).1 hy) (nodup_sub_len hn2 (fun y hy => (hm y).2 hy))
def rowsOf (b : Bd) : List Int := b.rws.getD 0 [] ++ b.rws.getD 1 [] ++ b.rws.getD 2 []
theorem Fin.rowsE {dss : List (List Dd)} {a : Ab} {τ : Nat → Nat} {T : Nat} {z : Int} {b : Bd} (h : Fin dss a τ T z b) : rowsOf b = (a.R 0).map Int.ofNat ++ (a.R 1).map Int.ofNat ++ (a.R 2).map Int.ofNat := by
  unfold rowsOf
  rw [(lst_at h.rep (show 0 < 3 by omega)).2.2, (lst_at h.rep (show 1 < 3 by omega)).2.2, (lst_at h.rep (show 2 < 3 by omega)).2.2]
theorem Fin.rows {dss : List (List Dd)} {a : Ab} {τ : Nat → Nat} {T : Nat} {z : Int} {b : Bd} (hb : workB dss = true) (h : Fin dss a τ T z b) : rowsL (eventsB dss) (rowsOf b) = true := by
  rw [h.rowsE]
  have hl : ∀ p, ((a.R p).map Int.ofNat).length = (plcW (eventsB dss) p).length := fun p => (h.perm hb p).length_eq
  have hd : ∀ p, p < 3 → ((a.R p).map Int.ofNat).getD 0 0 = (p : Int) := by
    intro p hp
    have := h.head hp
    rw [List.head?_eq_getElem?] at this
    rw [List.getD_eq_getElem?_getD, List.getElem?_map, this]
    rfl
  have h0 : ∀ p, p < 3 → 0 < (plcW (eventsB dss) p).length := fun p hp => (plcW_first hb p hp).1
  have k0 := okP_mk (A := []) (P := (a.R 0).map Int.ofNat) (C := (a.R 1).map Int.ofNat ++ (a.R 2).map Int.ofNat) (i := 0) (hl 0) (h.perm hb 0) (h0 0 (by omega)) (hd 0 (by omega))
  have k1 := okP_mk (A := (a.R 0).map Int.ofNat) (P := (a.R 1).map Int.ofNat) (C := (a.R 2).map Int.ofNat) (i := 1) (hl 1) (h.perm hb 1) (h0 1 (by omega)) (hd 1 (by omega))
  have k2 := okP_mk (A := (a.R 0).map Int.ofNat ++ (a.R 1).map Int.ofNat) (P := (a.R 2).map Int.ofNat) (C := []) (i := 2) (hl 2) (h.perm hb 2) (h0 2 (by omega)) (hd 2 (by omega))
  simp only [List.nil_append, List.append_nil, List.length_nil, List.length_append, hl, ← List.append_assoc] at k0 k1 k2
  unfold rowsL
  rw [k0, k1, k2]
  simp only [Bool.true_and, decide_eq_true_eq, List.length_append, hl]
theorem fil_own {dss : List (List Dd)} {a : Ab} {τ : Nat → Nat} {T : Nat} {z : Int} {b : Bd} (hb : workB dss = true) (h : Fin dss a τ T z b) (p q : Nat) : ((a.R q).map Int.ofNat).filter (fun x => plE (eventsB dss) x == (p : Int)) = if q = p then (a.R q).map Int.ofNat else [] := by
  have hq : ∀ x, x ∈ (a.R q).map Int.ofNat → plE (eventsB dss) x = (q : Int) := by
    intro x hx
    obtain ⟨y, hy, rfl⟩ := List.mem_map.1 hx
    obtain ⟨q1, q2, q3⟩ := (h.inv.rows q y).1 hy
    have p1 := place_ev hb (h.inv.lt y q1.1)
    have q3' : ((eventsB dss).getD y zE).2.2.2.1.toNat = q := q3
    show ((eventsB dss).getD ((y : Int)).toNat zE).2.2.2.1 = _
    rw [Int.toNat_natCast]
    omega
  split
  · rename_i e
    rw [List.filter_eq_self]
    intro x hx
    rw [hq x hx, e]; simp
  · rename_i e
    rw [List.filter_eq_nil_iff]
    intro x hx
    rw [hq x hx]
    simp; omega
theorem row_bef {dss : List (List Dd)} {a : Ab} {τ : Nat → Nat} {T : Nat} {z : Int} {b : Bd} (hb : workB dss = true) (h : Fin dss a τ T z b) (W : Webs (eventsB dss) b.fr (rowsOf b)) {x y : Nat} (hx : x < (eventsB dss).length) (hl : line (rwL (eventsB dss) (rowsOf b)) x y = true) :
    Bef (a.R ((sysW dss).pl x)) x y := by
  obtain ⟨i, q, hi, hq, hp, e1, e2⟩ := (W.rwl x y hx).1 hl
  unfold rwP at hp
  simp only [Bool.and_eq_true, decide_eq_true_eq, beq_iff_eq] at hp
  have hs := sub_of_idx hp.1 hq
  have px : plE (eventsB dss) ((rowsOf b).getD i 0) = (((sysW dss).pl x : Nat) : Int) := by
    rw [e1]
    have := place_ev hb hx
    show ((eventsB dss).getD ((x : Int)).toNat zE).2.2.2.1 = ((((eventsB dss).getD x zE).2.2.2.1.toNat : Nat) : Int)
    rw [Int.toNat_natCast]
    omega
  have hf := hs.filter (fun u => plE (eventsB dss) u == (((sysW dss).pl x : Nat) : Int))
  rw [List.filter_cons_of_pos (by rw [px]; simp), List.filter_cons_of_pos (by rw [← hp.2, px]; simp), List.filter_nil, e1, e2, h.rowsE, List.filter_append, List.filter_append, fil_own hb h, fil_own hb h, fil_own hb h] at hf
  have hp3 : (sysW dss).pl x < 3 := by
    have := place_ev hb hx
    show ((eventsB dss).getD x zE).2.2.2.1.toNat < 3
    omega
  have key : [(x : Int), (y : Int)].Sublist ((a.R ((sysW dss).pl x)).map Int.ofNat) := by
    rcases (by omega : (sysW dss).pl x = 0 ∨ (sysW dss).pl x = 1 ∨ (sysW dss).pl x = 2) with e | e | e <;> (rw [e] at hf ⊢; simpa using hf)
  have h2 := key.map Int.toNat
  simp only [List.map_cons, List.map_nil, Int.toNat_natCast, List.map_map] at h2
  have e3 : (a.R ((sysW dss).pl x)).map (Int.toNat ∘ Int.ofNat) = a.R ((sysW dss).pl x) := by
    have : (Int.toNat ∘ Int.ofNat) = id := by funext u; simp
    rw [this, List.map_id]
  rw [e3] at h2
  exact h2
theorem Fin.tale {dss : List (List Dd)} {a : Ab} {τ : Nat → Nat} {T : Nat} {z : Int} {b : Bd} (hb : workB dss = true) (h : Fin dss a τ T z b) : taleB dss b.fr (rowsOf b) = true := by
  unfold taleB sourceB rowsB
  rw [hb, h.src hb, h.rows hb]
  rfl
def posA (dss : List (List Dd)) (a : Ab) (x : Nat) : Nat := (a.R ((sysW dss).pl x)).idxOf x
def keyA (dss : List (List Dd)) (a : Ab) (i : Nat) : Nat := if (sysW dss).rd i = true then 2 * posA dss a (a.F i) + 1 else 2 * posA dss a i
theorem key_lt {n k k' i j : Nat} (hi : i < n) (h : k < k' ∨ (k = k' ∧ i < j)) : k * n + i < k' * n + j := by
  rcases h with h | ⟨rfl, h⟩
  · have := Nat.mul_le_mul_right n h
    rw [Nat.succ_mul] at this
    omega
  · omega
theorem Fin.each {dss : List (List Dd)} {a : Ab} {τ : Nat → Nat} {T : Nat} {z : Int} {b : Bd} (hb : workB dss = true) (h : Fin dss a τ T z b) : roundB (pwL (eventsB dss) b.fr (rowsOf b)) = false := by
  have W := told_of (h.tale hb)
  have hx := W.twelve
  have hpos : ∀ {p x y : Nat}, (sysW dss).pl x = p → (sysW dss).pl y = p → Bef (a.R p) x y → posA dss a x < posA dss a y := by
    intro p x y e1 e2 hB
    unfold posA
    rw [e1, e2]
    exact bef_idx (h.inv.rnod p) hB
  have hsrc : ∀ {r : Nat}, r < (eventsB dss).length → (sysW dss).rd r = true → a.F r < (eventsB dss).length ∧ (sysW dss).rd (a.F r) = false ∧ (sysW dss).pl (a.F r) = (sysW dss).pl r := by
    intro r hr hrd
    obtain ⟨q1, q2, q3, _⟩ := h.inv.src r (h.all r hr).1 hrd
    exact ⟨h.inv.lt _ q1, q2, q3⟩
  have hrow : ∀ {x y : Nat}, x < (eventsB dss).length → line (rwL (eventsB dss) (rowsOf b)) x y = true → posA dss a x < posA dss a y ∧ (sysW dss).rd x = false ∧ (sysW dss).rd y = false := by
    intro x y hx' hl
    have hB := row_bef hb h W.webs hx' hl
    have m1 := (h.inv.rows _ _).1 (bef_mem hB).1
    have m2 := (h.inv.rows _ _).1 (bef_mem hB).2
    exact ⟨hpos rfl m2.2.2 hB, m1.2.1, m2.2.1⟩
  refine up_round W.pw (fun i => keyA dss a i * (eventsB dss).length + i) (fun i j hi hj hl => ?_)
  refine key_lt hi ?_
  rw [W.pwl i j hi] at hl
  simp only [Bool.or_eq_true] at hl
  rcases hl with (g | g) | (g | g)
  ·
    rw [(plc_line hx).2 i j hi] at g
    simp only [Bool.and_eq_true, Bool.not_eq_true'] at g
    obtain ⟨⟨_, g2⟩, g3⟩ := g
    have hlt := behP_lt g2
    have hpl : (sysW dss).pl i = (sysW dss).pl j := by
      unfold plcP at g3
      rw [bne_eq_false_iff_eq] at g3
      show ((eventsB dss).getD i zE).2.2.2.1.toNat = ((eventsB dss).getD j zE).2.2.2.1.toNat
      rw [g3]
    unfold behP at g2
    simp only [Bool.and_eq_true, Bool.or_eq_true, decide_eq_true_eq, beq_iff_eq] at g2
    rcases g2.2 with ⟨g4, g5⟩ | ⟨g4, g5⟩
    · left
      obtain ⟨_, b2, b3, _⟩ := h.inv.beg i g4
      have k0 : keyA dss a i = 0 := by
        unfold keyA posA
        rw [b2, b3]
        have hh := h.head g4
        cases hl : a.R i with
        | nil => rw [hl] at hh; cases hh
        | cons y r =>
          rw [hl] at hh
          simp only [List.head?_cons, Option.some.injEq] at hh
          rw [hh, List.idxOf_cons_self]
          rfl
      rw [k0]
      unfold keyA
      split
      · omega
      · rename_i hr
        have hr' : (sysW dss).rd j = false := by cases hq : (sysW dss).rd j with
          | false => rfl
          | true => exact absurd hq hr
        have hm : j ∈ a.R i := (h.inv.rows i j).2 ⟨h.all j hj, hr', by rw [← hpl, b3]⟩
        unfold posA
        rw [← hpl, b3]
        have hh := h.head g4
        cases hl : a.R i with
        | nil => rw [hl] at hh; cases hh
        | cons y r =>
          rw [hl] at hh
          simp only [List.head?_cons, Option.some.injEq] at hh
          rw [List.idxOf_cons, hh, beq_eq_false_iff_ne.2 (show i ≠ j by omega)]
          exact Nat.mul_pos (by omega) (Nat.succ_pos _)
    · have hcoh := h.inv.coh i j (h.all i hi).1 (h.all j hj).1 g4 hlt g5 hpl
      have hL : (stA dss a τ).L (sysW dss) ((sysW dss).ck i) ((sysW dss).pl i) = a.R ((sysW dss).pl i) := by
        unfold AbsSt.L
        rw [h.none, List.filter_nil, List.append_nil]
        rfl
      rw [hL] at hcoh
      have vplace : ∀ x, x < (eventsB dss).length → (sysW dss).pl ((stA dss a τ).v (sysW dss) x) = (sysW dss).pl x := by
        intro x hx'
        unfold AbsSt.v
        split
        · rename_i hr; exact (hsrc hx' hr).2.2
        · rfl
      have hle : (stA dss a τ).v (sysW dss) i = (stA dss a τ).v (sysW dss) j ∨ posA dss a ((stA dss a τ).v (sysW dss) i) < posA dss a ((stA dss a τ).v (sysW dss) j) :=
        hcoh.imp id (fun hB => hpos (vplace i hi) ((vplace j hj).trans hpl.symm) hB)
      have hw := h.inv.cohw i j (h.all i hi).1 (h.all j hj).1 g4 hlt g5 hpl
      unfold AbsSt.v at hle
      unfold keyA
      cases ri : (sysW dss).rd i with
      | true =>
        rw [ri, if_pos rfl] at hle
        rw [if_pos rfl]
        cases rj : (sysW dss).rd j with
        | true =>
          rw [rj, if_pos rfl] at hle
          rw [if_pos rfl]
          rcases hle with e | e
          · right
            change a.F i = a.F j at e
            rw [e]
            exact ⟨rfl, hlt⟩
          · left
            change posA dss a (a.F i) < posA dss a (a.F j) at e
            omega
        | false =>
          rw [rj, if_neg (by simp)] at hle
          rw [if_neg (by simp)]
          rcases hle with e | e
          · exact absurd e (hw ri rj)
          · left
            change posA dss a (a.F i) < posA dss a j at e
            omega
      | false =>
        rw [ri, if_neg (by simp)] at hle
        rw [if_neg (by simp)]
        cases rj : (sysW dss).rd j with
        | true =>
          rw [rj, if_pos rfl] at hle
          rw [if_pos rfl]
          rcases hle with e | e
          · left
            change i = a.F j at e
            rw [← e]
            omega
          · left
            change posA dss a i < posA dss a (a.F j) at e
            omega
        | false =>
          rw [rj, if_neg (by simp)] at hle
          rw [if_neg (by simp)]
          rcases hle with e | e
          · omega
          · left; omega
  · obtain ⟨q, hq1, hq2, hq3⟩ := (W.webs.fwl i j hi).1 g
    obtain ⟨r, hr, e1, e2, e3⟩ := h.rd hq1
    have er : r = j := by omega
    subst er
    have ei : a.F r = i := by omega
    have hs := hsrc hr e3
    rw [ei] at hs
    left
    unfold keyA
    rw [e3, hs.2.1, if_pos rfl, if_neg (by simp), ei]
    omega
  · obtain ⟨p1, p2, p3⟩ := hrow hi g
    left
    unfold keyA
    rw [p2, p3, if_neg (by simp), if_neg (by simp)]
    omega
  · obtain ⟨q, hq1, hq2, hq3⟩ := (W.webs.agl i j hi).1 g
    obtain ⟨r, hr, e1, e2, e3⟩ := h.rd hq1
    have er : r = i := by omega
    subst er
    rw [e2, Int.toNat_natCast] at hq3
    obtain ⟨p1, p2, p3⟩ := hrow (hsrc hr e3).1 hq3
    left
    unfold keyA
    rw [e3, p3, if_pos rfl, if_neg (by simp)]
    omega
end Go.Proofs.YtgakfkjjkobpiaaGreat
