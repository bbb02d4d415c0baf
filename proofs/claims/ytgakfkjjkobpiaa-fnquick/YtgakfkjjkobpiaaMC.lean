/- Gathered texts. -/
import Derived.Test.YtgakfkjjkobpiaaMB
set_option maxRecDepth 100000
set_option maxHeartbeats 8000000
namespace Go.Proofs.Ytgakfkjjkobpiaa
open Go.RowKit
theorem AInv.read_done {S : Sys} {s : AbsSt} {T : Nat} {z : Int} (h : AInv S s T z) {r : Nat} (hx : s.X r) (hr : S.rd r = true) : s.D S r :=
  ⟨hx, fun hn => by have := (h.note _ _ hn).2.2.2; rw [hr] at this; cases this⟩
theorem AInv.tick {S : Sys} {s : AbsSt} {T : Nat} {z : Int} (h : AInv S s T z) (z' : Int) (hz : ∀ i, s.D S i → 3 ≤ i → S.cs i ≠ z') : AInv S s (T + 1) z' :=
  { h with
    tle := fun j hj => Nat.le_succ_of_le (h.tle j hj)
    now := fun i hi h3 => ⟨fun e => by have := h.tle i hi; omega, fun e => absurd e (hz i hi h3)⟩ }
def AbsSt.doNote (S : Sys) (s : AbsSt) (j : Nat) : AbsSt := { s with X := fun i => s.X i ∨ i = j, N := fun c => if c = S.ck j then s.N c ++ [j] else s.N c }
def AbsSt.doRead (s : AbsSt) (T j f : Nat) : AbsSt := { s with X := fun i => s.X i ∨ i = j, F := fun i => if i = j then f else s.F i, τ := fun i => if i = j then T else s.τ i }
def AbsSt.doInk (S : Sys) (s : AbsSt) (T j : Nat) : AbsSt := { s with X := fun i => s.X i ∨ i = j, R := fun p => if p = S.pl j then s.R p ++ [j] else s.R p, τ := fun i => if i = j then T else s.τ i }
def AbsSt.doFlush (S : Sys) (s : AbsSt) (T : Nat) (c : Int) (x : Nat) (rest : List Nat) : AbsSt := { s with N := fun c' => if c' = c then rest else s.N c', R := fun p => if p = S.pl x then s.R p ++ [x] else s.R p, τ := fun i => if i = x then T else s.τ i }
theorem AInv.doNote {S : Sys} {s : AbsSt} {T : Nat} {z : Int} (h : AInv S s T z) {j : Nat} (hn : Nxt S s j) (hr : S.rd j = false) : AInv S (s.doNote S j) T z := by
  have hne : ∀ i, s.X i → i ≠ j := fun i hi e => hn.new (by rw [← e]; exact hi)
  have nmem : ∀ c x, x ∈ (s.doNote S j).N c ↔ x ∈ s.N c ∨ (c = S.ck j ∧ x = j) := by
    intro c x
    show x ∈ (if c = S.ck j then s.N c ++ [j] else s.N c) ↔ _
    split
    · rename_i e; simp [e]
    · rename_i e; simp [e]
  have hD : ∀ i, (s.doNote S j).D S i ↔ s.D S i := by
    intro i
    unfold AbsSt.D
    rw [nmem]
    show ((s.X i ∨ i = j) ∧ _) ↔ _
    constructor
    · rintro ⟨h1 | rfl, h2⟩
      · exact ⟨h1, fun hm => h2 (.inl hm)⟩
      · exact absurd (.inr ⟨rfl, rfl⟩) h2
    · rintro ⟨h1, h2⟩
      refine ⟨.inl h1, ?_⟩
      rintro (hm | ⟨_, e⟩)
      · exact h2 hm
      · exact hne i h1 e
  have hsub : ∀ c p, (s.L S c p).Sublist ((s.doNote S j).L S c p) := by
    intro c p
    refine List.Sublist.append (List.Sublist.refl _) ?_
    show List.Sublist _ ((if c = S.ck j then s.N c ++ [j] else s.N c).filter _)
    split
    · rw [List.filter_append]; exact List.sublist_append_left _ _
    · exact List.Sublist.refl _
  have hlast : (s.doNote S j).L S (S.ck j) (S.pl j) = s.L S (S.ck j) (S.pl j) ++ [j] := by
    unfold AbsSt.L AbsSt.doNote
    simp [List.filter_append]
  have hv : ∀ i, (s.doNote S j).v S i = s.v S i := fun i => rfl
  have hvj : s.v S j = j := by unfold AbsSt.v; rw [hr]; rfl
  refine { h with beg := fun i hi => ⟨.inl (h.beg i hi).1, (h.beg i hi).2⟩, lt := ?_, down := ?_, note := ?_, nord := ?_, pend := ?_, rows := ?_, tle := ?_, tpos := ?_, same := ?_, mate := ?_, now := ?_, kept := ?_, src := ?_, agst := ?_, inL := ?_, coh := ?_, cohw := ?_ }
  · rintro i (hi | rfl)
    · exact h.lt i hi
    · exact hn.lt
  · rintro i k (hk | rfl) h3 hik hc
    · exact .inl (h.down i k hk h3 hik hc)
    · exact .inl (hn.all i h3 hik hc)
  · intro c x hx
    rcases (nmem c x).1 hx with hx | ⟨rfl, rfl⟩
    · exact ⟨.inl (h.note c x hx).1, (h.note c x hx).2⟩
    · exact ⟨.inr rfl, hn.three, rfl, hr⟩
  · intro c
    show (if c = S.ck j then s.N c ++ [j] else s.N c).Pairwise _
    split
    · rename_i e
      rw [List.pairwise_append]
      refine ⟨h.nord c, by simp, fun x hx y hy => ?_⟩
      have hy' : y = j := by simpa using hy
      subst hy'
      have hq := h.note c x hx
      exact hn.last x hq.1 hq.2.1 (by rw [hq.2.2.1, e])
    · exact h.nord c
  · intro c x k hx hk hxk hc
    rcases (nmem c x).1 hx with hx | ⟨rfl, rfl⟩
    · rcases hk with hk | rfl
      · rcases h.pend c x k hx hk hxk hc with hp | hp
        · exact .inl hp
        · exact .inr ((nmem c k).2 (.inl hp))
      · exact .inr ((nmem c k).2 (.inr ⟨hc.symm, rfl⟩))
    · rcases hk with hk | rfl
      · have := hn.last k hk (by have := hn.three; omega) hc; omega
      · omega
  · intro p x; rw [hD]; exact h.rows p x
  · intro i hi; exact h.tle i ((hD i).1 hi)
  · intro i hi; exact h.tpos i ((hD i).1 hi)
  · intro i k hi hk; exact h.same i k ((hD i).1 hi) ((hD k).1 hk)
  · intro i k hi hk; exact h.mate i k ((hD i).1 hi) ((hD k).1 hk)
  · intro i hi; exact h.now i ((hD i).1 hi)
  · intro i k hi hk; exact h.kept i k ((hD i).1 hi) ((hD k).1 hk)
  · rintro r (hx | rfl) hrd
    · obtain ⟨a, b, c, d⟩ := h.src r hx hrd
      exact ⟨.inl a, b, c, d.imp id (fun d => ⟨(hD _).2 d.1, d.2⟩)⟩
    · rw [hr] at hrd; cases hrd
  · rintro r w p (hx | rfl) hrd hb
    · exact h.agst r w p hx hrd hb
    · rw [hr] at hrd; cases hrd
  · rintro i (hi | rfl) h3
    · exact (hsub _ _).subset (h.inL i hi h3)
    · rw [hlast, hv, hvj]; simp
  · rintro i k (hi | rfl) (hk | rfl) h3 hik hc hp
    · exact (h.coh i k hi hk h3 hik hc hp).imp id (fun hb => hb.trans (hsub _ _))
    · refine .inr ?_
      rw [hc, hp, hlast, hv, hv, hvj, ← hc, ← hp]
      exact bef_snoc (h.inL i hi h3)
    · have := hn.last k hk (by omega) hc.symm; omega
    · omega
  · rintro i k (hi | rfl) (hk | rfl) h3 hik hc hp h1 h2
    · exact h.cohw i k hi hk h3 hik hc hp h1 h2
    · exact hne _ (h.src i hi h1).1
    · have := hn.last k hk (by omega) hc.symm; omega
    · omega
theorem AInv.doRead {S : Sys} {s : AbsSt} {T : Nat} {z : Int} (h : AInv S s T z) (hT : 1 ≤ T) {j f : Nat} (hn : Nxt S s j) (hr : S.rd j = true) (hz : S.cs j = z) (hex : ∀ x, x ∈ s.N (S.ck j) → S.ex x j = true)
    (hf : (s.L S (S.ck j) (S.pl j)).getLast? = some f) : AInv S (s.doRead T j f) T z := by
  have hne : ∀ i, s.X i → i ≠ j := fun i hi e => hn.new (by rw [← e]; exact hi)
  have hD : ∀ i, (s.doRead T j f).D S i ↔ s.D S i ∨ i = j := by
    intro i
    show ((s.X i ∨ i = j) ∧ i ∉ s.N (S.ck i)) ↔ _
    constructor
    · rintro ⟨h1 | rfl, h2⟩
      · exact .inl ⟨h1, h2⟩
      · exact .inr rfl
    · rintro (⟨h1, h2⟩ | rfl)
      · exact ⟨.inl h1, h2⟩
      · exact ⟨.inr rfl, fun hm => hn.new (h.note _ _ hm).1⟩
  have hτ : ∀ i, i ≠ j → (s.doRead T j f).τ i = s.τ i := fun i hi => by show (if i = j then T else s.τ i) = _; rw [if_neg hi]
  have hτj : (s.doRead T j f).τ j = T := by show (if j = j then T else s.τ j) = T; rw [if_pos rfl]
  have hF : ∀ i, i ≠ j → (s.doRead T j f).F i = s.F i := fun i hi => by show (if i = j then f else s.F i) = _; rw [if_neg hi]
  have hFj : (s.doRead T j f).F j = f := by show (if j = j then f else s.F j) = f; rw [if_pos rfl]
  have hv : ∀ i, i ≠ j → (s.doRead T j f).v S i = s.v S i := fun i hi => by unfold AbsSt.v; rw [hF i hi]
  have hvj : (s.doRead T j f).v S j = f := by unfold AbsSt.v; rw [hr, hFj]; rfl
  have hfm : f ∈ s.L S (S.ck j) (S.pl j) := List.mem_of_getLast? hf
  have hfX : s.X f ∧ S.rd f = false ∧ S.pl f = S.pl j ∧ ((3 ≤ f ∧ S.ck f = S.ck j ∧ f ∈ s.N (S.ck j)) ∨ s.D S f) := by
    unfold AbsSt.L at hfm
    rw [List.mem_append, List.mem_filter] at hfm
    rcases hfm with hm | ⟨hm, hp⟩
    · obtain ⟨a, b, c⟩ := (h.rows _ _).1 hm
      exact ⟨a.1, b, c, .inr a⟩
    · obtain ⟨a, b, c, d⟩ := h.note _ _ hm
      exact ⟨a, d, by simpa using hp, .inl ⟨b, c, hm⟩⟩
  refine { h with beg := fun i hi => ⟨.inl (h.beg i hi).1, (h.beg i hi).2.1, (h.beg i hi).2.2.1, (h.beg i hi).2.2.2.1, by rw [hτ i (hne i (h.beg i hi).1)]; exact (h.beg i hi).2.2.2.2.1, (h.beg i hi).2.2.2.2.2⟩, lt := ?_, down := ?_, note := ?_, pend := ?_, rows := ?_, rord := ?_, tle := ?_, tpos := ?_, same := ?_, mate := ?_, now := ?_, kept := ?_, src := ?_, agst := ?_, inL := ?_, coh := ?_, cohw := ?_ }
  · rintro i (hi | rfl)
    · exact h.lt i hi
    · exact hn.lt
  · rintro i k (hk | rfl) h3 hik hc
    · exact .inl (h.down i k hk h3 hik hc)
    · exact .inl (hn.all i h3 hik hc)
  · intro c x hx
    exact ⟨.inl (h.note c x hx).1, (h.note c x hx).2⟩
  · rintro c x k hx (hk | rfl) hxk hc
    · exact h.pend c x k hx hk hxk hc
    · exact .inl ⟨hr, hex x (by rw [hc]; exact hx)⟩
  · intro p x
    rw [hD]
    refine (h.rows p x).trans ⟨fun ⟨a, b⟩ => ⟨.inl a, b⟩, fun ⟨a, b⟩ => ⟨a.resolve_right (fun e => ?_), b⟩⟩
    rw [e, hr] at b
    cases b.1
  · intro p
    refine (h.rord p).imp_of_mem (fun {x y} hx hy hxy => ?_)
    rw [hτ x (hne x ((h.rows p x).1 hx).1.1), hτ y (hne y ((h.rows p y).1 hy).1.1)]
    exact hxy
  · intro i hi
    rcases (hD i).1 hi with hi | rfl
    · rw [hτ i (hne i hi.1)]; exact h.tle i hi
    · rw [hτj]; exact Nat.le_refl _
  · intro i hi h3
    rcases (hD i).1 hi with hi | rfl
    · rw [hτ i (hne i hi.1)]; exact h.tpos i hi h3
    · rw [hτj]; exact hT
  · intro i k hi hk h3 h3' e
    rcases (hD i).1 hi with ai | rfl <;> rcases (hD k).1 hk with ak | rfl
    · rw [hτ i (hne i ai.1), hτ k (hne k ak.1)] at e; exact h.same i k ai ak h3 h3' e
    · rw [hτ i (hne i ai.1), hτj] at e; rw [hz]; exact (h.now i ai h3).1 e
    · rw [hτ k (hne k ak.1), hτj] at e; rw [hz]; exact ((h.now k ak h3').1 e.symm).symm
    · rfl
  · intro i k hi hk h3 h3' e
    rcases (hD i).1 hi with ai | rfl <;> rcases (hD k).1 hk with ak | rfl
    · rw [hτ i (hne i ai.1), hτ k (hne k ak.1)]; exact h.mate i k ai ak h3 h3' e
    · rw [hτ i (hne i ai.1), hτj]; exact (h.now i ai h3).2 (by rw [e, hz])
    · rw [hτ k (hne k ak.1), hτj]; exact ((h.now k ak h3').2 (by rw [← e, hz])).symm
    · rfl
  · intro i hi h3
    rcases (hD i).1 hi with hi | rfl
    · rw [hτ i (hne i hi.1)]; exact h.now i hi h3
    · rw [hτj, hz]; simp
  · intro i k hi hk h3 hik hc hcs hx
    rcases (hD i).1 hi with ai | rfl <;> rcases (hD k).1 hk with ak | rfl
    · rw [hτ i (hne i ai.1), hτ k (hne k ak.1)]; exact h.kept i k ai ak h3 hik hc hcs hx
    · rw [hτ i (hne i ai.1), hτj]
      have h1 := h.tle i ai
      have h2 : s.τ i ≠ T := fun e => hcs (by rw [hz]; exact (h.now i ai h3).1 e)
      omega
    · have := hn.last k ak.1 (by omega) hc.symm; omega
    · omega
  · rintro r (hx | rfl) hrd
    · rw [hF r (hne r hx), hτ r (hne r hx)]
      obtain ⟨a, b, c, d⟩ := h.src r hx hrd
      exact ⟨.inl a, b, c, d.imp id (fun d => ⟨(hD _).2 (.inl d.1), by rw [hτ _ (hne _ d.1.1)]; exact d.2⟩)⟩
    · rw [hFj, hτj]
      obtain ⟨a, b, c, d⟩ := hfX
      exact ⟨.inl a, b, c, d.imp (fun d => ⟨d.1, d.2.1⟩) (fun d => ⟨(hD _).2 (.inl d), by rw [hτ _ (hne _ a)]; exact h.tle _ d⟩)⟩
  · rintro r w p (hx | rfl) hrd hb
    · rw [hF r (hne r hx)] at hb
      have hw := (h.rows p w).1 (bef_mem hb).2
      rw [hτ r (hne r hx), hτ w (hne w hw.1.1)]
      exact h.agst r w p hx hrd hb
    · rw [hFj] at hb
      exfalso
      have hm : f ∈ s.R p := (bef_mem hb).1
      obtain ⟨q1, q2, q3⟩ := (h.rows p f).1 hm
      have hp : p = S.pl r := by rw [← q3]; exact hfX.2.2.1
      subst hp
      have he : (s.N (S.ck r)).filter (fun x => S.pl x == S.pl r) = [] := by
        apply Classical.byContradiction
        intro hne'
        unfold AbsSt.L at hf
        have hf2 : ((s.N (S.ck r)).filter (fun x => S.pl x == S.pl r)).getLast? = some f := by
          rw [List.getLast?_append] at hf
          cases hq : ((s.N (S.ck r)).filter (fun x => S.pl x == S.pl r)).getLast? with
          | none => exact absurd (List.getLast?_eq_none_iff.1 hq) hne'
          | some y => rw [hq] at hf; exact hf
        have := List.mem_of_getLast? hf2
        rw [List.mem_filter] at this
        have hq := h.note _ _ this.1
        exact q1.2 (by rw [hq.2.2.1]; exact this.1)
      unfold AbsSt.L at hf
      rw [he, List.append_nil] at hf
      obtain ⟨L', e⟩ := List.getLast?_eq_some_iff.1 hf
      have hnd := h.rnod (S.pl r)
      change Bef (s.R (S.pl r)) f w at hb
      rw [e] at hb hnd
      exact bef_last hnd hb
  · rintro i (hi | rfl) h3
    · rw [hv i (hne i hi)]; exact h.inL i hi h3
    · rw [hvj]; exact hfm
  · rintro i k (hi | rfl) (hk | rfl) h3 hik hc hp
    · rw [hv i (hne i hi), hv k (hne k hk)]; exact h.coh i k hi hk h3 hik hc hp
    · rw [hv i (hne i hi), hvj]
      have hm := h.inL i hi h3
      rw [hc, hp] at hm ⊢
      exact bef_of_last hm hf
    · have := hn.last k hk (by omega) hc.symm; omega
    · omega
  · rintro i k (hi | rfl) (hk | rfl) h3 hik hc hp h1 h2
    · rw [hF i (hne i hi)]; exact h.cohw i k hi hk h3 hik hc hp h1 h2
    · rw [hr] at h2; cases h2
    · have := hn.last k hk (by omega) hc.symm; omega
    · omega
theorem AInv.doInk {S : Sys} {s : AbsSt} {T : Nat} {z : Int} (h : AInv S s T z) (hT : 1 ≤ T) {j : Nat} (hn : Nxt S s j) (hr : S.rd j = false) (hz : S.cs j = z) (hN : s.N (S.ck j) = []) : AInv S (s.doInk S T j) T z := by
  have hne : ∀ i, s.X i → i ≠ j := fun i hi e => hn.new (by rw [← e]; exact hi)
  have hD : ∀ i, (s.doInk S T j).D S i ↔ s.D S i ∨ i = j := by
    intro i
    show ((s.X i ∨ i = j) ∧ i ∉ s.N (S.ck i)) ↔ _
    constructor
    · rintro ⟨h1 | rfl, h2⟩
      · exact .inl ⟨h1, h2⟩
      · exact .inr rfl
    · rintro (⟨h1, h2⟩ | rfl)
      · exact ⟨.inl h1, h2⟩
      · exact ⟨.inr rfl, fun hm => hn.new (h.note _ _ hm).1⟩
  have hτ : ∀ i, i ≠ j → (s.doInk S T j).τ i = s.τ i := fun i hi => by show (if i = j then T else s.τ i) = _; rw [if_neg hi]
  have hτj : (s.doInk S T j).τ j = T := by show (if j = j then T else s.τ j) = T; rw [if_pos rfl]
  have hR : ∀ p, (s.doInk S T j).R p = if p = S.pl j then s.R p ++ [j] else s.R p := fun p => rfl
  have hv : ∀ i, (s.doInk S T j).v S i = s.v S i := fun i => rfl
  have hvj : s.v S j = j := by unfold AbsSt.v; rw [hr]; rfl
  have hjR : ∀ p, j ∉ s.R p := fun p hm => hn.new ((h.rows p j).1 hm).1.1
  have hRs : ∀ p, (s.R p).Sublist ((s.doInk S T j).R p) := fun p => by
    rw [hR]
    split
    · exact List.sublist_append_left _ _
    · exact List.Sublist.refl _
  have hsub : ∀ c p, (s.L S c p).Sublist ((s.doInk S T j).L S c p) := fun c p => List.Sublist.append (hRs p) (List.Sublist.refl _)
  have hlast : (s.doInk S T j).L S (S.ck j) (S.pl j) = s.L S (S.ck j) (S.pl j) ++ [j] := by
    unfold AbsSt.L
    rw [hR, if_pos rfl]
    show s.R (S.pl j) ++ [j] ++ (s.N (S.ck j)).filter _ = s.R (S.pl j) ++ (s.N (S.ck j)).filter _ ++ [j]
    rw [hN]
    simp
  refine { h with beg := fun i hi => ⟨.inl (h.beg i hi).1, (h.beg i hi).2.1, (h.beg i hi).2.2.1, (h.beg i hi).2.2.2.1, by rw [hτ i (hne i (h.beg i hi).1)]; exact (h.beg i hi).2.2.2.2.1, (h.beg i hi).2.2.2.2.2⟩, lt := ?_, down := ?_, note := ?_, pend := ?_, rows := ?_, rnod := ?_, rord := ?_, tle := ?_, tpos := ?_, same := ?_, mate := ?_, now := ?_, kept := ?_, src := ?_, agst := ?_, inL := ?_, coh := ?_, cohw := ?_ }
  · rintro i (hi | rfl)
    · exact h.lt i hi
    · exact hn.lt
  · rintro i k (hk | rfl) h3 hik hc
    · exact .inl (h.down i k hk h3 hik hc)
    · exact .inl (hn.all i h3 hik hc)
  · intro c x hx
    exact ⟨.inl (h.note c x hx).1, (h.note c x hx).2⟩
  · rintro c x k hx (hk | rfl) hxk hc
    · exact h.pend c x k hx hk hxk hc
    · change x ∈ s.N c at hx
      rw [← hc, hN] at hx
      cases hx
  · intro p x
    rw [hD, hR]
    by_cases hp : p = S.pl j
    · rw [if_pos hp, List.mem_append, h.rows p x]
      constructor
      · rintro (⟨a, b⟩ | hx)
        · exact ⟨.inl a, b⟩
        · have e : x = j := by simpa using hx
          exact ⟨.inr e, by rw [e]; exact hr, by rw [e, hp]⟩
      · rintro ⟨a | rfl, b⟩
        · exact .inl ⟨a, b⟩
        · exact .inr (by simp)
    · rw [if_neg hp, h.rows p x]
      constructor
      · rintro ⟨a, b⟩; exact ⟨.inl a, b⟩
      · rintro ⟨a | rfl, b⟩
        · exact ⟨a, b⟩
        · exact absurd b.2.symm hp
  · intro p
    rw [hR]
    split
    · rw [List.nodup_append]
      refine ⟨h.rnod p, by simp, fun x hx y hy e => ?_⟩
      have : y = j := by simpa using hy
      exact hjR p (by rw [← this, ← e]; exact hx)
    · exact h.rnod p
  · intro p
    have old : (s.R p).Pairwise (fun x y => (s.doInk S T j).τ x ≤ (s.doInk S T j).τ y) := (h.rord p).imp_of_mem (fun {x y} hx hy hxy => by
      rw [hτ x (hne x ((h.rows p x).1 hx).1.1), hτ y (hne y ((h.rows p y).1 hy).1.1)]
      exact hxy)
    rw [hR]
    split
    · rw [List.pairwise_append]
      refine ⟨old, by simp, fun x hx y hy => ?_⟩
      have : y = j := by simpa using hy
      have hx' := ((h.rows p x).1 hx).1
      rw [this, hτj, hτ x (hne x hx'.1)]
      exact h.tle x hx'
    · exact old
  · intro i hi
    rcases (hD i).1 hi with ai | rfl
    · rw [hτ i (hne i ai.1)]; exact h.tle i ai
    · rw [hτj]; exact Nat.le_refl _
  · intro i hi h3
    rcases (hD i).1 hi with ai | rfl
    · rw [hτ i (hne i ai.1)]; exact h.tpos i ai h3
    · rw [hτj]; exact hT
  · intro i k hi hk h3 h3' e
    rcases (hD i).1 hi with ai | rfl <;> rcases (hD k).1 hk with ak | rfl
    · rw [hτ i (hne i ai.1), hτ k (hne k ak.1)] at e; exact h.same i k ai ak h3 h3' e
    · rw [hτ i (hne i ai.1), hτj] at e; rw [hz]; exact (h.now i ai h3).1 e
    · rw [hτ k (hne k ak.1), hτj] at e; rw [hz]; exact ((h.now k ak h3').1 e.symm).symm
    · rfl
  · intro i k hi hk h3 h3' e
    rcases (hD i).1 hi with ai | rfl <;> rcases (hD k).1 hk with ak | rfl
    · rw [hτ i (hne i ai.1), hτ k (hne k ak.1)]; exact h.mate i k ai ak h3 h3' e
    · rw [hτ i (hne i ai.1), hτj]; exact (h.now i ai h3).2 (by rw [e, hz])
    · rw [hτ k (hne k ak.1), hτj]; exact ((h.now k ak h3').2 (by rw [← e, hz])).symm
    · rfl
  · intro i hi h3
    rcases (hD i).1 hi with ai | rfl
    · rw [hτ i (hne i ai.1)]; exact h.now i ai h3
    · rw [hτj, hz]; simp
  · intro i k hi hk h3 hik hc hcs hx
    rcases (hD i).1 hi with ai | rfl <;> rcases (hD k).1 hk with ak | rfl
    · rw [hτ i (hne i ai.1), hτ k (hne k ak.1)]; exact h.kept i k ai ak h3 hik hc hcs hx
    · rw [hτ i (hne i ai.1), hτj]
      have h1 := h.tle i ai
      have h2 : s.τ i ≠ T := fun e => hcs (by rw [hz]; exact (h.now i ai h3).1 e)
      omega
    · have := hn.last k ak.1 (by omega) hc.symm; omega
    · omega
  · rintro r (hx | rfl) hrd
    · rw [hτ r (hne r hx)]
      obtain ⟨a, b, c, d⟩ := h.src r hx hrd
      exact ⟨.inl a, b, c, d.imp id (fun d => ⟨(hD _).2 (.inl d.1), by show (s.doInk S T j).τ (s.F r) ≤ _; rw [hτ _ (hne _ d.1.1)]; exact d.2⟩)⟩
    · rw [hr] at hrd; cases hrd
  · rintro r w p (hx | rfl) hrd hb
    · rw [hτ r (hne r hx)]
      by_cases hw : w = j
      · rw [hw, hτj]; exact h.tle r (h.read_done hx hrd)
      · rw [hτ w hw]
        rw [hR] at hb
        by_cases hp : p = S.pl j
        · rw [if_pos hp] at hb
          exact h.agst r w p hx hrd (bef_snoc_old hb hw)
        · rw [if_neg hp] at hb
          exact h.agst r w p hx hrd hb
    · rw [hr] at hrd; cases hrd
  · rintro i (hi | rfl) h3
    · exact (hsub _ _).subset (h.inL i hi h3)
    · rw [hlast, hv, hvj]; simp
  · rintro i k (hi | rfl) (hk | rfl) h3 hik hc hp
    · exact (h.coh i k hi hk h3 hik hc hp).imp id (fun hb => hb.trans (hsub _ _))
    · refine .inr ?_
      rw [hc, hp, hlast, hv, hv, hvj, ← hc, ← hp]
      exact bef_snoc (h.inL i hi h3)
    · have := hn.last k hk (by omega) hc.symm; omega
    · omega
  · rintro i k (hi | rfl) (hk | rfl) h3 hik hc hp h1 h2
    · exact h.cohw i k hi hk h3 hik hc hp h1 h2
    · exact hne _ (h.src i hi h1).1
    · have := hn.last k hk (by omega) hc.symm; omega
    · omega
theorem AInv.doFlush {S : Sys} {s : AbsSt} {T : Nat} {z : Int} (h : AInv S s T z) (hT : 1 ≤ T) {c : Int} {x : Nat} {rest : List Nat} (hN : s.N c = x :: rest) (hz : S.cs x = z) : AInv S (s.doFlush S T c x rest) T z := by
  have hx0 := h.note c x (by rw [hN]; simp)
  obtain ⟨hxX, hx3, hxc, hxr⟩ := hx0
  have hord := h.nord c
  rw [hN, List.pairwise_cons] at hord
  have hxrest : x ∉ rest := fun hm => by have := hord.1 x hm; omega
  have hxN : x ∈ s.N (S.ck x) := by rw [hxc, hN]; simp
  have hxD : ¬ s.D S x := fun hd => hd.2 hxN
  have hne : ∀ i, s.D S i → i ≠ x := fun i hi e => hxD (by rw [← e]; exact hi)
  have nmem : ∀ c' y, y ∈ (s.doFlush S T c x rest).N c' ↔ y ∈ s.N c' ∧ ¬ (c' = c ∧ y = x) := by
    intro c' y
    show y ∈ (if c' = c then rest else s.N c') ↔ _
    by_cases e : c' = c
    · subst e
      rw [if_pos rfl, hN]
      constructor
      · intro hm
        exact ⟨List.mem_cons_of_mem _ hm, fun hq => hxrest (by rw [← hq.2]; exact hm)⟩
      · rintro ⟨hm, hq⟩
        rcases List.mem_cons.1 hm with rfl | hm
        · exact absurd ⟨rfl, rfl⟩ hq
        · exact hm
    · rw [if_neg e]
      exact ⟨fun hm => ⟨hm, fun hq => e hq.1⟩, fun hm => hm.1⟩
  have hD : ∀ i, (s.doFlush S T c x rest).D S i ↔ s.D S i ∨ i = x := by
    intro i
    unfold AbsSt.D
    rw [nmem]
    show (s.X i ∧ _) ↔ _
    constructor
    · rintro ⟨h1, h2⟩
      by_cases e : i = x
      · exact .inr e
      · exact .inl ⟨h1, fun hm => h2 ⟨hm, fun hq => e hq.2⟩⟩
    · rintro (⟨h1, h2⟩ | rfl)
      · exact ⟨h1, fun hm => h2 hm.1⟩
      · exact ⟨hxX, fun hm => hm.2 ⟨hxc, rfl⟩⟩
  have hτ : ∀ i, i ≠ x → (s.doFlush S T c x rest).τ i = s.τ i := fun i hi => by show (if i = x then T else s.τ i) = _; rw [if_neg hi]
  have hτx : (s.doFlush S T c x rest).τ x = T := by show (if x = x then T else s.τ x) = T; rw [if_pos rfl]
  have hR : ∀ p, (s.doFlush S T c x rest).R p = if p = S.pl x then s.R p ++ [x] else s.R p := fun p => rfl
  have hxR : ∀ p, x ∉ s.R p := fun p hm => hxD ((h.rows p x).1 hm).1
  have hRs : ∀ p, (s.R p).Sublist ((s.doFlush S T c x rest).R p) := fun p => by
    rw [hR]
    split
    · exact List.sublist_append_left _ _
    · exact List.Sublist.refl _
  have hrne : ∀ r, S.rd r = true → r ≠ x := fun r hr e => by rw [e, hxr] at hr; cases hr
  have hsub : ∀ c' p, (s.L S c' p).Sublist ((s.doFlush S T c x rest).L S c' p) := by
    intro c' p
    by_cases e : c' = c
    · subst e
      have : (s.doFlush S T c' x rest).L S c' p = s.L S c' p := by
        unfold AbsSt.L
        rw [hR]
        show _ ++ (if c' = c' then rest else s.N c').filter _ = _
        rw [if_pos rfl, hN]
        by_cases hp : p = S.pl x
        · rw [if_pos hp, List.filter_cons_of_pos (by simp [hp]), List.append_assoc]
          rfl
        · rw [if_neg hp, List.filter_cons_of_neg (by simp; exact fun e => hp e.symm)]
      rw [this]
      exact List.Sublist.refl _
    · refine List.Sublist.append (hRs p) ?_
      show List.Sublist _ ((if c' = c then rest else s.N c').filter _)
      rw [if_neg e]
      exact List.Sublist.refl _
  refine { h with beg := fun i hi => ⟨(h.beg i hi).1, (h.beg i hi).2.1, (h.beg i hi).2.2.1, (h.beg i hi).2.2.2.1, by rw [hτ i (by omega)]; exact (h.beg i hi).2.2.2.2.1, (h.beg i hi).2.2.2.2.2⟩, note := ?_, nord := ?_, pend := ?_, rows := ?_, rnod := ?_, rord := ?_, tle := ?_, tpos := ?_, same := ?_, mate := ?_, now := ?_, kept := ?_, src := ?_, agst := ?_, inL := ?_, coh := ?_ }
  · intro c' y hy
    exact h.note c' y ((nmem c' y).1 hy).1
  · intro c'
    show (if c' = c then rest else s.N c').Pairwise _
    split
    · exact hord.2
    · exact h.nord c'
  · intro c' y k hy hk hyk hc
    obtain ⟨hy1, hy2⟩ := (nmem c' y).1 hy
    rcases h.pend c' y k hy1 hk hyk hc with hp | hp
    · exact .inl hp
    · refine .inr ((nmem c' k).2 ⟨hp, ?_⟩)
      rintro ⟨rfl, rfl⟩
      rw [hN] at hy1
      rcases List.mem_cons.1 hy1 with rfl | hm
      · exact hy2 ⟨rfl, rfl⟩
      · have := hord.1 y hm; omega
  · intro p y
    rw [hD, hR]
    by_cases hp : p = S.pl x
    · rw [if_pos hp, List.mem_append, h.rows p y]
      constructor
      · rintro (⟨a, b⟩ | hy)
        · exact ⟨.inl a, b⟩
        · have e : y = x := by simpa using hy
          exact ⟨.inr e, by rw [e]; exact hxr, by rw [e, hp]⟩
      · rintro ⟨a | rfl, b⟩
        · exact .inl ⟨a, b⟩
        · exact .inr (by simp)
    · rw [if_neg hp, h.rows p y]
      constructor
      · rintro ⟨a, b⟩; exact ⟨.inl a, b⟩
      · rintro ⟨a | rfl, b⟩
        · exact ⟨a, b⟩
        · exact absurd b.2.symm hp
  · intro p
    rw [hR]
    split
    · rw [List.nodup_append]
      refine ⟨h.rnod p, by simp, fun y hy w hw e => ?_⟩
      have : w = x := by simpa using hw
      exact hxR p (by rw [← this, ← e]; exact hy)
    · exact h.rnod p
  · intro p
    have old : (s.R p).Pairwise (fun y w => (s.doFlush S T c x rest).τ y ≤ (s.doFlush S T c x rest).τ w) := (h.rord p).imp_of_mem (fun {y w} hy hw hyw => by
      rw [hτ y (hne y ((h.rows p y).1 hy).1), hτ w (hne w ((h.rows p w).1 hw).1)]
      exact hyw)
    rw [hR]
    split
    · rw [List.pairwise_append]
      refine ⟨old, by simp, fun y hy w hw => ?_⟩
      have : w = x := by simpa using hw
      have hy' := ((h.rows p y).1 hy).1
      rw [this, hτx, hτ y (hne y hy')]
      exact h.tle y hy'
    · exact old
  · intro i hi
    rcases (hD i).1 hi with ai | rfl
    · rw [hτ i (hne i ai)]; exact h.tle i ai
    · rw [hτx]; exact Nat.le_refl _
  · intro i hi h3
    rcases (hD i).1 hi with ai | rfl
    · rw [hτ i (hne i ai)]; exact h.tpos i ai h3
    · rw [hτx]; exact hT
  · intro i k hi hk h3 h3' e
    rcases (hD i).1 hi with ai | rfl <;> rcases (hD k).1 hk with ak | rfl
    · rw [hτ i (hne i ai), hτ k (hne k ak)] at e; exact h.same i k ai ak h3 h3' e
    · rw [hτ i (hne i ai), hτx] at e; rw [hz]; exact (h.now i ai h3).1 e
    · rw [hτ k (hne k ak), hτx] at e; rw [hz]; exact ((h.now k ak h3').1 e.symm).symm
    · rfl
  · intro i k hi hk h3 h3' e
    rcases (hD i).1 hi with ai | rfl <;> rcases (hD k).1 hk with ak | rfl
    · rw [hτ i (hne i ai), hτ k (hne k ak)]; exact h.mate i k ai ak h3 h3' e
    · rw [hτ i (hne i ai), hτx]; exact (h.now i ai h3).2 (by rw [e, hz])
    · rw [hτ k (hne k ak), hτx]; exact ((h.now k ak h3').2 (by rw [← e, hz])).symm
    · rfl
  · intro i hi h3
    rcases (hD i).1 hi with ai | rfl
    · rw [hτ i (hne i ai)]; exact h.now i ai h3
    · rw [hτx, hz]; simp
  · intro i k hi hk h3 hik hc hcs hx
    rcases (hD i).1 hi with ai | rfl <;> rcases (hD k).1 hk with ak | rfl
    · rw [hτ i (hne i ai), hτ k (hne k ak)]; exact h.kept i k ai ak h3 hik hc hcs hx
    · rw [hτ i (hne i ai), hτx]
      have h1 := h.tle i ai
      have h2 : s.τ i ≠ T := fun e => hcs (by rw [hz]; exact (h.now i ai h3).1 e)
      omega
    · rcases h.pend _ _ _ hxN ak.1 hik hc.symm with hp | hp
      · rw [hx] at hp; cases hp.2
      · exact absurd (by rw [← hc]; exact hp) ak.2
    · omega
  · intro r hx hrd
    rw [hτ r (hrne r hrd)]
    obtain ⟨a, b, e, d⟩ := h.src r hx hrd
    exact ⟨a, b, e, d.imp id (fun d => ⟨(hD _).2 (.inl d.1), by show (s.doFlush S T c x rest).τ (s.F r) ≤ _; rw [hτ _ (hne _ d.1)]; exact d.2⟩)⟩
  · intro r w p hx hrd hb
    rw [hτ r (hrne r hrd)]
    by_cases hw : w = x
    · rw [hw, hτx]; exact h.tle r (h.read_done hx hrd)
    · rw [hτ w hw]
      rw [hR] at hb
      by_cases hp : p = S.pl x
      · rw [if_pos hp] at hb
        exact h.agst r w p hx hrd (bef_snoc_old hb hw)
      · rw [if_neg hp] at hb
        exact h.agst r w p hx hrd hb
  · intro i hi h3
    exact (hsub _ _).subset (h.inL i hi h3)
  · intro i k hi hk h3 hik hc hp
    exact (h.coh i k hi hk h3 hik hc hp).imp id (fun hb => hb.trans (hsub _ _))
structure Ab where
  nx : Nat → Nat
  N : Nat → List Nat
  R : Nat → List Nat
  F : Nat → Nat
def sysW (dss : List (List Dd)) : Sys :=
  { n := (eventsB dss).length, ck := fun j => ((eventsB dss).getD j zE).1, pl := fun j => ((eventsB dss).getD j zE).2.2.2.1.toNat, rd := fun j => ((eventsB dss).getD j zE).2.2.1, cs := fun j => csE ((eventsB dss).getD j zE), ex := kepP dss (eventsB dss) }
def exA (dss : List (List Dd)) (a : Ab) (j : Nat) : Bool := decide (j < 3) || decide (((eventsB dss).getD j zE).2.1.toNat < a.nx ((eventsB dss).getD j zE).1.toNat)
def stA (dss : List (List Dd)) (a : Ab) (τ : Nat → Nat) : AbsSt :=
  { X := fun j => j < (eventsB dss).length ∧ exA dss a j = true, N := fun c => if 0 ≤ c then a.N c.toNat else [], R := a.R, F := a.F, τ := τ }
abbrev vlN (dss : List (List Dd)) (x : Nat) : Int := ((eventsB dss).getD x zE).2.2.2.2.1
abbrev plN (dss : List (List Dd)) (x : Nat) : Int := ((eventsB dss).getD x zE).2.2.2.1
def ntE (dss : List (List Dd)) (x : Nat) : Nt := (plN dss x, vlN dss x, (x : Int))
def lastA (a : Ab) (p : Nat) : Nat := (a.R p).getLast?.getD p
structure Rep (dss : List (List Dd)) (b : Bd) (a : Ab) : Prop where
  nxt : b.nxt = (List.range dss.length).map (fun c => (a.nx c : Int))
  nts : b.nts = (List.range dss.length).map (fun c => (a.N c).map (ntE dss))
  rws : b.rws = (List.range 3).map (fun p => (a.R p).map Int.ofNat)
  lst : b.lst = (List.range 3).map (fun p => (lastA a p : Int))
  plc : b.plc = (List.range 3).map (fun p => vlN dss (lastA a p))
  fr : b.fr = (idxB rdE (eventsB dss)).map (fun r => if exA dss a r.toNat = true then (a.F r.toNat : Int) else -1)
  sn : b.sn = (idxB rdE (eventsB dss)).map (fun r => if exA dss a r.toNat = true then vlN dss (a.F r.toNat) else -1)
theorem map_set {α : Type} (f : Nat → α) (m c : Nat) (y : α) : ((List.range m).map f).set c y = (List.range m).map (fun i => if i = c then y else f i) := by
  apply List.ext_getElem?
  intro i
  rw [List.getElem?_set]
  simp only [List.length_map, List.length_range, List.getElem?_map]
  by_cases hi : i < m
  · rw [List.getElem?_range hi]
    by_cases e : c = i
    · subst e; simp [hi]
    · rw [if_neg e]; simp [show ¬ i = c from fun h => e h.symm]
  · have : (List.range m)[i]? = none := List.getElem?_eq_none (by simp; omega)
    rw [this]
    by_cases e : c = i
    · subst e; simp [hi]
    · rw [if_neg e]; rfl
theorem map_at {α : Type} (f : Nat → α) {m c : Nat} (z : α) (hc : c < m) : ((List.range m).map f).getD c z = f c := by
  rw [List.getD_eq_getElem?_getD, List.getElem?_map, List.getElem?_range hc]
  rfl
theorem set_self (rs : List Int) (ev v : Int) (g : Int → Int) : setR rs ev v (rs.map g) = rs.map (fun r => if r = ev then v else g r) := by
  unfold setR
  induction rs with
  | nil => rfl
  | cons r rs ih => rw [List.map_cons, List.zipWith_cons_cons, ih, List.map_cons]
theorem sys_at {dss : List (List Dd)} (hb : workB dss = true) {j c k i : Nat} (E : EvIs dss j c k i) : (sysW dss).ck j = (c : Int) ∧ (sysW dss).pl j = (dAt dss c k).2.1.toNat ∧ (sysW dss).rd j = rdI (dAt dss c k) i ∧ (sysW dss).cs j = clsD dss c k := by
  unfold sysW csE
  simp only
  rw [E.at hb]
  exact ⟨rfl, rfl, rfl, rfl⟩
theorem ex_at {dss : List (List Dd)} (hb : workB dss = true) {j c k i : Nat} (E : EvIs dss j c k i) (a : Ab) : exA dss a j = decide (k < a.nx c) := by
  unfold exA
  rw [E.at hb]
  have := (E.lt hb).1
  simp [show ¬ j < 3 by omega]
def bumpA (a : Ab) (c : Nat) : Ab := { a with nx := fun c' => if c' = c then a.nx c + 1 else a.nx c' }
theorem ex_bump {dss : List (List Dd)} (hb : workB dss = true) (a : Ab) {c : Nat} (hc : c < dss.length) (hk : a.nx c < (dss.getD c []).length) {j : Nat} (hj : j < (eventsB dss).length) :
    exA dss (bumpA a c) j = true ↔ exA dss a j = true ∨ ∃ i, EvIs dss j c (a.nx c) i := by
  by_cases h3 : j < 3
  · have e1 : exA dss a j = true := by unfold exA; simp [h3]
    have e2 : exA dss (bumpA a c) j = true := by unfold exA; simp [h3]
    simp [e1, e2]
  · obtain ⟨c', k', i', E⟩ := ev_dec hb (by omega) hj
    rw [ex_at hb E, ex_at hb E, decide_eq_true_eq, decide_eq_true_eq]
    show (k' < if c' = c then a.nx c + 1 else a.nx c') ↔ _
    by_cases e : c' = c
    · subst e
      rw [if_pos rfl]
      constructor
      · intro h
        by_cases h2 : k' < a.nx c'
        · exact .inl h2
        · obtain rfl : k' = a.nx c' := by omega
          exact .inr ⟨i', E⟩
      · rintro (h | ⟨i, E2⟩)
        · omega
        · have := (E.one E2).2.1; omega
    · rw [if_neg e]
      refine ⟨fun h => .inl h, ?_⟩
      rintro (h | ⟨i, E2⟩)
      · exact h
      · exact absurd (E.one E2).1 e
theorem ev_first {dss : List (List Dd)} {c k : Nat} (hc : c < dss.length) (hk : k < (dss.getD c []).length) (h4 : (dAt dss c k).1 ≠ 4) : EvIs dss (offN dss c k) c k 0 := ⟨hc, hk, num_pos h4, rfl⟩
theorem ev_second {dss : List (List Dd)} {c k : Nat} (hc : c < dss.length) (hk : k < (dss.getD c []).length) (h3 : (dAt dss c k).1 = 3) : EvIs dss (offN dss c k + 1) c k 1 := ⟨hc, hk, by unfold numD; rw [if_neg (by omega), if_pos h3]; omega, rfl⟩
theorem ev_only {dss : List (List Dd)} {c k j i : Nat} (E : EvIs dss j c k i) (h3 : (dAt dss c k).1 ≠ 3) : j = offN dss c k ∧ i = 0 := by
  have h1 := E.hi
  have h2 := E.hj
  unfold numD at h1
  rw [if_neg E.kind, if_neg h3] at h1
  omega
theorem nxt_first {dss : List (List Dd)} (hb : workB dss = true) (a : Ab) (τ : Nat → Nat) {c : Nat} (hc : c < dss.length) (hk : a.nx c < (dss.getD c []).length) (h4 : (dAt dss c (a.nx c)).1 ≠ 4) : Nxt (sysW dss) (stA dss a τ) (offN dss c (a.nx c)) := by
  have E := ev_first hc hk h4
  have hl := E.lt hb
  refine ⟨hl.1, hl.2, ?_, ?_, ?_⟩
  · rintro ⟨_, h⟩
    rw [ex_at hb E, decide_eq_true_eq] at h
    omega
  · intro i h3 hi hck
    have hin : i < (eventsB dss).length := by omega
    obtain ⟨c', k', i', E'⟩ := ev_dec hb h3 hin
    rw [(sys_at hb E').1, (sys_at hb E).1] at hck
    obtain rfl : c' = c := by omega
    refine ⟨hin, ?_⟩
    rw [ex_at hb E', decide_eq_true_eq]
    rcases (E'.ord E).1 hi with h | ⟨_, h | ⟨_, h⟩⟩ <;> omega
  · rintro i ⟨hin, hX⟩ h3 hck
    obtain ⟨c', k', i', E'⟩ := ev_dec hb h3 hin
    rw [(sys_at hb E').1, (sys_at hb E).1] at hck
    obtain rfl : c' = c := by omega
    rw [ex_at hb E', decide_eq_true_eq] at hX
    exact (E'.ord E).2 (.inr ⟨rfl, .inl hX⟩)
theorem evM_at {dss : List (List Dd)} (hb : workB dss = true) {c k : Nat} (hc : c < dss.length) (hk : k < (dss.getD c []).length) (h4 : (dAt dss c k).1 ≠ 4) : evM (eventsB dss) c k = (offN dss c k : Int) := by
  have E := ev_first hc hk h4
  have hl := E.lt hb
  have hx : (List.range (eventsB dss).length).find? (fun i => decide (3 ≤ i) && (((eventsB dss).getD i zE).1 == (c : Int)) && (((eventsB dss).getD i zE).2.1 == (k : Int))) = some (offN dss c k) := by
    rw [List.find?_range_eq_some]
    refine ⟨?_, by simpa using hl.2, ?_⟩
    · rw [E.at hb]
      simp [hl.1]
    · intro j hj
      by_cases h3 : 3 ≤ j
      · obtain ⟨c', k', i', E'⟩ := ev_dec hb h3 (by omega)
        rw [E'.at hb]
        simp only [h3, decide_true, Bool.true_and, Bool.not_eq_true', Bool.and_eq_false_iff, beq_eq_false_iff_ne, ne_eq]
        rcases (E'.ord E).1 hj with h | ⟨_, h | ⟨_, h⟩⟩
        · exact .inl (by omega)
        · exact .inr (by omega)
        · omega
      · simp [h3]
  unfold evM
  rw [hx]
def evT (es : List Ev) (c k i : Nat) : Bool := ((es.getD i zE).1 == (c : Int)) && ((es.getD i zE).2.1 == (k : Int))
theorem evM_hit {es : List Ev} {c k i : Nat} (h3 : 3 ≤ i) (hi : i < es.length) (hn : ∀ j, 3 ≤ j → j < i → evT es c k j = false) (h : evT es c k i = true) : evM es c k = (i : Int) := by
  unfold evM
  have e : (List.range es.length).find? (fun i => decide (3 ≤ i) && ((es.getD i zE).1 == (c : Int)) && ((es.getD i zE).2.1 == (k : Int))) = some i := by
    rw [List.find?_eq_some_iff_getElem]
    refine ⟨?_, i, by simpa using hi, by simp, fun j hj => ?_⟩
    · unfold evT at h
      rw [Bool.and_assoc, h]; simp [h3]
    · simp only [List.getElem_range]
      by_cases h3 : 3 ≤ j
      · have := hn j h3 hj
        unfold evT at this
        rw [Bool.and_assoc, this]; simp
      · simp [h3]
  rw [e]
theorem evM_none {es : List Ev} {c k : Nat} (hn : ∀ j, 3 ≤ j → j < es.length → evT es c k j = false) : evM es c k = -1 := by
  unfold evM
  have e : (List.range es.length).find? (fun i => decide (3 ≤ i) && ((es.getD i zE).1 == (c : Int)) && ((es.getD i zE).2.1 == (k : Int))) = none := by
    rw [List.find?_eq_none]
    intro j hj
    by_cases h3 : 3 ≤ j
    · have := hn j h3 (List.mem_range.1 hj)
      unfold evT at this
      rw [Bool.and_assoc, this]; simp
    · simp [h3]
  rw [e]
theorem evM_in (es : List Ev) (c k : Nat) (h : es.length ≤ 12) : -1 ≤ evM es c k ∧ evM es c k ≤ 12 := by
  unfold evM
  split
  · rename_i i e
    have := List.mem_range.1 (List.mem_of_find?_eq_some e)
    omega
  · omega
def setK (rs : List Int) (ev v : Int) (l : List Int) : Nat → List Int
  | 0 => l
  | k + 1 => if decide (rs.getD k 0 = ev) = true then (setK rs ev v l k).set k v else setK rs ev v l k
theorem setK_len (rs : List Int) (ev v : Int) (l : List Int) : ∀ k : Nat, (setK rs ev v l k).length = l.length
  | 0 => rfl
  | k + 1 => by rw [setK]; split <;> simp [setK_len rs ev v l k]
theorem setK_get {rs : List Int} {ev v : Int} {l : List Int} : ∀ (k j : Nat), j < l.length → (setK rs ev v l k)[j]? = if j < k ∧ rs.getD j 0 = ev then some v else l[j]?
  | 0, j, h => by simp [setK]
  | k + 1, j, h => by
    have ih := setK_get (rs := rs) (ev := ev) (v := v) k j h
    rw [setK]
    by_cases e : rs.getD k 0 = ev
    · rw [if_pos (decide_eq_true e), List.getElem?_set, setK_len]
      by_cases ej : k = j
      · subst ej
        rw [if_pos rfl, if_pos h, if_pos ⟨by omega, e⟩]
      · rw [if_neg ej, ih]
        by_cases h1 : j < k ∧ rs.getD j 0 = ev
        · rw [if_pos h1, if_pos ⟨by omega, h1.2⟩]
        · rw [if_neg h1, if_neg (fun h2 => h1 ⟨by omega, h2.2⟩)]
    · rw [if_neg (by simpa using e), ih]
      by_cases h1 : j < k ∧ rs.getD j 0 = ev
      · rw [if_pos h1, if_pos ⟨by omega, h1.2⟩]
      · rw [if_neg h1, if_neg (fun h2 => ?_)]
        by_cases ej : j = k
        · subst ej; exact e h2.2
        · exact h1 ⟨by omega, h2.2⟩
theorem setK_same {rs : List Int} {ev v : Int} {l : List Int} (h : l.length = rs.length) : setK rs ev v l rs.length = setR rs ev v l := by
  apply List.ext_getElem?
  intro j
  unfold setR
  by_cases hj : j < l.length
  · rw [setK_get _ _ hj, List.getElem?_zipWith]
    rw [List.getElem?_eq_getElem hj, List.getElem?_eq_getElem (show j < rs.length by omega)]
    have e : rs.getD j 0 = rs[j]'(by omega) := by rw [List.getD_eq_getElem?_getD, List.getElem?_eq_getElem (show j < rs.length by omega)]; rfl
    simp only [e]
    by_cases h1 : rs[j]'(by omega) = ev
    · rw [if_pos ⟨by omega, h1⟩]; simp [h1]
    · rw [if_neg (fun h2 => h1 h2.2)]; simp [h1]
  · rw [List.getElem?_eq_none (by rw [setK_len]; omega), List.getElem?_eq_none (by rw [List.length_zipWith]; omega)]
def canK (dss : List (List Dd)) (b : Bd) (k : Nat) : List Int := ((List.range k).filter (canM dss b)).map (fun c : Nat => (c : Int))
theorem canK_hit {dss : List (List Dd)} {b : Bd} {k : Nat} (h : canM dss b k = true) : canK dss b (k + 1) = canK dss b k ++ [(k : Int)] := by
  unfold canK
  rw [List.range_succ, List.filter_append, List.map_append]
  simp [h]
theorem canK_miss {dss : List (List Dd)} {b : Bd} {k : Nat} (h : canM dss b k = false) : canK dss b (k + 1) = canK dss b k := by
  unfold canK
  rw [List.range_succ, List.filter_append, List.map_append]
  simp [h]
def ntK (b : Bd) (k : Nat) : List Int := ((List.range k).filter (fun c => !(b.nts.getD c []).isEmpty)).map (fun c : Nat => 10 + (c : Int))
theorem ntK_hit {b : Bd} {k : Nat} (h : 0 < (b.nts.getD k []).length) : ntK b (k + 1) = ntK b k ++ [10 + (k : Int)] := by
  have : (b.nts.getD k []).isEmpty = false := by
    cases e : b.nts.getD k [] with
    | nil => rw [e] at h; simp at h
    | cons x l => rfl
  unfold ntK
  rw [List.range_succ, List.filter_append, List.map_append]
  simp only [List.filter_cons, this, Bool.not_false, if_true, List.filter_nil, List.map_cons, List.map_nil]
theorem ntK_miss {b : Bd} {k : Nat} (h : ¬ 0 < (b.nts.getD k []).length) : ntK b (k + 1) = ntK b k := by
  have : (b.nts.getD k []).isEmpty = true := by
    cases e : b.nts.getD k [] with
    | nil => rfl
    | cons x l => rw [e] at h; simp at h
  unfold ntK
  rw [List.range_succ, List.filter_append, List.map_append]
  simp only [List.filter_cons, this, Bool.not_true, Bool.false_eq_true, if_false, List.filter_nil, List.map_nil, List.append_nil]
theorem poss_same (dss : List (List Dd)) (b : Bd) : canK dss b dss.length ++ ntK b dss.length = possM dss b := rfl
theorem canK_len (dss : List (List Dd)) (b : Bd) (k : Nat) : (canK dss b k).length ≤ k := by
  unfold canK
  rw [List.length_map]
  exact Nat.le_trans (List.length_filter_le _ _) (by simp)
theorem ntK_len (b : Bd) (k : Nat) : (ntK b k).length ≤ k := by
  unfold ntK
  rw [List.length_map]
  exact Nat.le_trans (List.length_filter_le _ _) (by simp)
structure Shp (dss : List (List Dd)) (b : Bd) (n : Nat) : Prop where
  work : workB dss = true
  plc : b.plc.length = 3
  lst : b.lst.length = 3
  rws : b.rws.length = 3
  nts : b.nts.length = dss.length
  nxt : b.nxt.length = dss.length
  sn : b.sn.length = (idxB rdE (eventsB dss)).length
  fr : b.fr.length = (idxB rdE (eventsB dss)).length
  rl : ∀ p, (b.rws.getD p []).length ≤ n
  nl : ∀ c, (b.nts.getD c []).length ≤ n
theorem Shp.mono {dss : List (List Dd)} {b : Bd} {n m : Nat} (h : Shp dss b n) (hm : n ≤ m) : Shp dss b m :=
  ⟨h.work, h.plc, h.lst, h.rws, h.nts, h.nxt, h.sn, h.fr, fun p => Nat.le_trans (h.rl p) hm, fun c => Nat.le_trans (h.nl c) hm⟩
theorem set_len_le {α : Type} {l : List (List α)} {n : Nat} (h : ∀ i, (l.getD i []).length ≤ n) (k : Nat) (z : List α) (hz : z.length ≤ n) : ∀ i, ((l.set k z).getD i []).length ≤ n := fun i => by
  rw [List.getD_eq_getElem?_getD, List.getElem?_set]
  by_cases e : k = i
  · rw [if_pos e]
    by_cases hk : k < l.length
    · rw [if_pos hk]; exact hz
    · rw [if_neg hk]; simp
  · rw [if_neg e, ← List.getD_eq_getElem?_getD]; exact h i
theorem setR_len {rs : List Int} {ev v : Int} {l : List Int} (h : l.length = rs.length) : (setR rs ev v l).length = rs.length := by unfold setR; rw [List.length_zipWith]; omega
theorem Shp.see {dss : List (List Dd)} {b : Bd} {n : Nat} (h : Shp dss b n) (ev v f : Int) : Shp dss (seeM (idxB rdE (eventsB dss)) b ev v f) n :=
  ⟨h.work, h.plc, h.lst, h.rws, h.nts, h.nxt, setR_len h.sn, setR_len h.fr, h.rl, h.nl⟩
theorem Shp.ink {dss : List (List Dd)} {b : Bd} {n : Nat} (h : Shp dss b n) (p : Nat) (v ev : Int) : Shp dss (inkM b p v ev) (n + 1) :=
  ⟨h.work, by simp [inkM, h.plc], by simp [inkM, h.lst], by simp [inkM, h.rws], h.nts, h.nxt, h.sn, h.fr,
    set_len_le (fun i => Nat.le_succ_of_le (h.rl i)) p _ (by have := h.rl p; rw [List.length_append, List.length_singleton]; omega), fun c => Nat.le_succ_of_le (h.nl c)⟩
theorem Shp.note {dss : List (List Dd)} {b : Bd} {n : Nat} (h : Shp dss b n) (c : Nat) (x : Nt) : Shp dss { b with nts := b.nts.set c (b.nts.getD c [] ++ [x]) } (n + 1) :=
  ⟨h.work, h.plc, h.lst, h.rws, by simp [h.nts], h.nxt, h.sn, h.fr, fun p => Nat.le_succ_of_le (h.rl p),
    set_len_le (fun i => Nat.le_succ_of_le (h.nl i)) c _ (by have := h.nl c; rw [List.length_append, List.length_singleton]; omega)⟩
theorem Shp.less {dss : List (List Dd)} {b : Bd} {n : Nat} (h : Shp dss b n) (c : Nat) (l : List Nt) (hl : l.length ≤ n) : Shp dss { b with nts := b.nts.set c l } n :=
  ⟨h.work, h.plc, h.lst, h.rws, by simp [h.nts], h.nxt, h.sn, h.fr, h.rl, set_len_le h.nl c _ hl⟩
theorem Shp.deed {dss : List (List Dd)} {b : Bd} {n : Nat} (h : Shp dss b n) (c k : Nat) : Shp dss (deedM dss (eventsB dss) b c k) (n + 1) := by
  unfold deedM
  split
  · exact (h.see _ _ _).mono (Nat.le_succ n)
  · split
    · exact (h.see _ _ _).ink _ _ _
    · split
      · exact h.ink _ _ _
      · split
        · exact h.note c _
        · exact h.mono (Nat.le_succ n)
theorem Shp.next {dss : List (List Dd)} {b : Bd} {n : Nat} (h : Shp dss b n) (c : Nat) (x : Int) : Shp dss { b with nxt := b.nxt.set c x } n :=
  ⟨h.work, h.plc, h.lst, h.rws, h.nts, by simp [h.nxt], h.sn, h.fr, h.rl, h.nl⟩
theorem deed_nxt (dss : List (List Dd)) (es : List Ev) (b : Bd) (c k : Nat) : (deedM dss es b c k).nxt = b.nxt := by
  unfold deedM
  split
  · rfl
  · split
    · rfl
    · split
      · rfl
      · split <;> rfl
theorem Shp.one {dss : List (List Dd)} {b : Bd} {n : Nat} (h : Shp dss b n) (c : Nat) : Shp dss (oneM dss (eventsB dss) b c) (n + 1) := by
  have := (h.deed c (nxN b c)).next c (b.nxt.getD c 0 + 1)
  rw [deed_nxt] at this
  exact this
theorem Shp.flush {dss : List (List Dd)} {b : Bd} {n : Nat} (h : Shp dss b n) (c : Nat) : Shp dss (flushM b c) (n + 1) := by
  unfold flushM
  split
  · exact h.mono (Nat.le_succ n)
  · rename_i x r e
    exact (h.less c r (by have := h.nl c; rw [e] at this; simp at this; omega)).ink _ _ _
theorem Shp.of {dss : List (List Dd)} {b : Bd} (h : boardB dss b = true) : Shp dss b 20 := by
  simp only [boardB, shapeB, fillB, rowsBd, Bool.and_eq_true, decide_eq_true_eq] at h
  obtain ⟨⟨hw, h1, h2, h3, h4, h5⟩, ⟨h6, h7, -⟩, h8, h9⟩ := h
  refine ⟨hw, h1, h2, h3, h4, h5, h6, h7, fun p => ?_, fun c => ?_⟩
  · by_cases hp : p < 3
    · have := List.all_eq_true.1 h8 p (List.mem_range.2 hp)
      simp only [allB, Bool.and_eq_true, decide_eq_true_eq] at this
      exact this.2
    · rw [List.getD_eq_getElem?_getD, List.getElem?_eq_none (by omega)]; simp
  · by_cases hc : c < dss.length
    · have := List.all_eq_true.1 h9 c (List.mem_range.2 hc)
      simp only [ckB, Bool.and_eq_true, decide_eq_true_eq] at this
      omega
    · rw [List.getD_eq_getElem?_getD, List.getElem?_eq_none (by omega)]; simp
theorem board_clerk {dss : List (List Dd)} {b : Bd} (h : boardB dss b = true) {c : Nat} (hc : c < dss.length) : 0 ≤ b.nxt.getD c 0 ∧ b.nxt.getD c 0 ≤ ((dss.getD c []).length : Int) := by
  simp only [boardB, Bool.and_eq_true] at h
  have := List.all_eq_true.1 h.2.2.2 c (List.mem_range.2 hc)
  simp only [ckB, Bool.and_eq_true, decide_eq_true_eq] at this
  exact this.1
theorem place_in {dss : List (List Dd)} (h : workB dss = true) (j : Nat) (hj : j < (evsW dss dss.length).length) : 0 ≤ ((evsW dss dss.length).getD j zE).2.2.2.1 ∧ ((evsW dss dss.length).getD j zE).2.2.2.1 ≤ 2 := by
  simp only [workB, Bool.and_eq_true, decide_eq_true_eq] at h
  obtain ⟨⟨⟨⟨_, h2⟩, _⟩, _⟩, _⟩ := h
  have hok : ∀ i, i < dss.length → okL (dss.getD i []) = true := fun i hi => all_get [] h2 i hi
  obtain ⟨⟨t, ht⟩, hg⟩ := evs_good hok dss.length (Nat.le_refl _)
  by_cases hj3 : 3 ≤ j
  · exact good_place hok (hg j hj3 hj)
  · obtain ⟨b0, b1, b2⟩ := beg_get ht
    have : j = 0 ∨ j = 1 ∨ j = 2 := by omega
    rcases this with rfl | rfl | rfl
    · rw [b0]; decide
    · rw [b1]; decide
    · rw [b2]; decide
def fwK (n : Nat) (rs f : List Int) : Nat → List Int
  | 0 => List.replicate n 0
  | k + 1 => (fwK n rs f k).set (f.getD k 0).toNat (gAdd ((fwK n rs f k).getD (f.getD k 0).toNat 0) (rs.getD k 0))
def fwL (es : List Ev) (f : List Int) : List Int := fwK es.length (idxB rdE es) f (idxB rdE es).length
theorem fw_line {n : Nat} {rs f : List Int} (hn : n ≤ 12) : ∀ k : Nat, (∀ i, i < k → 0 ≤ rs.getD i 0 ∧ rs.getD i 0 < (n : Int)) → (∀ i, i < k → 0 ≤ f.getD i 0 ∧ f.getD i 0 < (n : Int)) →
    Web n (fwK n rs f k) ∧ ∀ a j : Nat, a < n → (line (fwK n rs f k) a j = true ↔ ∃ i, i < k ∧ f.getD i 0 = (a : Int) ∧ rs.getD i 0 = (j : Int))
  | 0, _, _ => ⟨Web.zero hn, fun a j _ => by rw [fwK, line_zero]; simp⟩
  | k + 1, hr, hf => by
    obtain ⟨h1, h2⟩ := fw_line hn k (fun i hi => hr i (by omega)) (fun i hi => hf i (by omega))
    obtain ⟨a0, ha0⟩ := Int.eq_ofNat_of_zero_le (hf k (by omega)).1
    obtain ⟨j0, hj0⟩ := Int.eq_ofNat_of_zero_le (hr k (by omega)).1
    have ha : a0 < n := by have := (hf k (by omega)).2; omega
    have hj : j0 < n := by have := (hr k (by omega)).2; omega
    rw [fwK, ha0, hj0, Int.toNat_natCast]
    have hg := ok_add (h1.2.2 a0 ha) hj
    refine ⟨h1.set hg.1, fun a j haa => ?_⟩
    unfold line
    rw [getD_set _ _ _ _ (by rw [h1.2.1]; exact ha)]
    by_cases e : a0 = a
    · subst e
      rw [if_pos rfl, hg.2 j, Bool.or_eq_true, decide_eq_true_eq]
      have := h2 a0 j haa
      unfold line at this
      rw [this]
      constructor
      · rintro (⟨i, hi, h⟩ | rfl)
        · exact ⟨i, by omega, h⟩
        · exact ⟨k, by omega, ha0, hj0⟩
      · rintro ⟨i, hi, h3, h4⟩
        by_cases e2 : i = k
        · subst e2; right; rw [hj0] at h4; omega
        · exact .inl ⟨i, by omega, h3, h4⟩
    · rw [if_neg e]
      have := h2 a j haa
      unfold line at this
      rw [this]
      constructor
      · rintro ⟨i, hi, h⟩
        exact ⟨i, by omega, h⟩
      · rintro ⟨i, hi, h3, h4⟩
        by_cases e2 : i = k
        · subst e2; rw [ha0] at h3; omega
        · exact ⟨i, by omega, h3, h4⟩
theorem isB_mem {l : List Int} {n : Int} (h : isB l n = true) : n ∈ l := by
  unfold isB at h
  rw [List.any_eq_true] at h
  obtain ⟨x, hx, e⟩ := h
  rw [beq_iff_eq] at e
  rw [← e]; exact hx
theorem idxK_mem (f : Ev → Bool) (l : List Ev) : ∀ (k : Nat) (x : Int), x ∈ idxK f l k → f (l.getD x.toNat zE) = true
  | 0, x, h => by simp [idxK] at h
  | k + 1, x, h => by
    rw [idxK] at h
    split at h
    · rename_i hf
      rcases List.mem_append.1 h with h | h
      · exact idxK_mem f l k x h
      · simp only [List.mem_cons, List.not_mem_nil, or_false] at h
        rw [h, Int.toNat_natCast]; exact hf
    · exact idxK_mem f l k x h
theorem src_use {es : List Ev} {f : List Int} (hx : es.length ≤ 12) (h : srcB (chcL es) f = true) : (idxB rdE es).length = f.length ∧
    ∀ i, i < (idxB rdE es).length → (0 ≤ f.getD i 0 ∧ f.getD i 0 < (es.length : Int)) ∧ (es.getD (f.getD i 0).toNat zE).2.2.2.1 = plE es ((idxB rdE es).getD i 0) := by
  unfold srcB at h
  rw [Bool.and_eq_true, decide_eq_true_eq] at h
  obtain ⟨h1, h2⟩ := h
  have hc : (chcL es).length = (idxB rdE es).length := chcK_len _ _ _
  refine ⟨by omega, fun i hi => ?_⟩
  have h3 := (srcK_iff (chcL es).length).1 h2 i (by omega)
  unfold chcL at h3
  rw [chcK_get _ _ _ _ hi] at h3
  have h4 := isB_mem h3
  unfold idxB at h4
  rw [if_pos hx] at h4
  have h5 := idxK_lt _ _ _ _ h4
  have h6 := idxK_mem _ _ _ _ h4
  refine ⟨h5, ?_⟩
  unfold toE at h6
  simp only [Bool.and_eq_true, beq_iff_eq] at h6
  rw [h6.2]
  unfold idxB
  rw [if_pos hx]
structure MI (dss : List (List Dd)) (b : Bd) (a : Ab) (τ : Nat → Nat) (T : Nat) (z : Int) : Prop where
  rep : Rep dss b a
  inv : AInv (sysW dss) (stA dss a τ) T z
  nxl : ∀ c, c < dss.length → a.nx c ≤ (dss.getD c []).length
  nt : ∀ c x, x ∈ a.N c → c < dss.length ∧ ∃ k, EvIs dss x c k 0 ∧ k < a.nx c ∧ (dAt dss c k).1 = 2 ∧ gAt dss c k = 0 ∧ ∀ k', k < k' → k' < a.nx c → (dAt dss c k').1 ≠ 4 ∧ wholeD (dAt dss c k') = false
theorem st_N (dss : List (List Dd)) (a : Ab) (τ : Nat → Nat) (c : Nat) : (stA dss a τ).N (c : Int) = a.N c := by
  show (if 0 ≤ (c : Int) then a.N (c : Int).toNat else []) = _
  rw [if_pos (by omega), Int.toNat_natCast]
theorem nx_at {dss : List (List Dd)} {b : Bd} {a : Ab} (h : Rep dss b a) {c : Nat} (hc : c < dss.length) : b.nxt.getD c 0 = (a.nx c : Int) ∧ nxN b c = a.nx c := by
  have e : b.nxt.getD c 0 = (a.nx c : Int) := by rw [h.nxt, map_at _ _ hc]
  exact ⟨e, by unfold nxN; rw [e, Int.toNat_natCast]⟩
theorem nts_at {dss : List (List Dd)} {b : Bd} {a : Ab} (h : Rep dss b a) {c : Nat} (hc : c < dss.length) : b.nts.getD c [] = (a.N c).map (ntE dss) := by rw [h.nts, map_at _ _ hc]
theorem lst_at {dss : List (List Dd)} {b : Bd} {a : Ab} (h : Rep dss b a) {p : Nat} (hp : p < 3) : b.lst.getD p 0 = (lastA a p : Int) ∧ b.plc.getD p 0 = vlN dss (lastA a p) ∧ b.rws.getD p [] = (a.R p).map Int.ofNat := by
  refine ⟨by rw [h.lst, map_at _ _ hp], by rw [h.plc, map_at _ _ hp], by rw [h.rws, map_at _ _ hp]⟩
theorem last_some {dss : List (List Dd)} {a : Ab} {τ : Nat → Nat} {T : Nat} {z : Int} (h : AInv (sysW dss) (stA dss a τ) T z) {p : Nat} (hp : p < 3) : (a.R p).getLast? = some (lastA a p) := by
  obtain ⟨h1, h2, h3, h4, _⟩ := h.beg p hp
  have hm : p ∈ a.R p := (h.rows p p).2 ⟨⟨h1, fun hn => by have := (h.note _ _ hn).2.1; omega⟩, h2, h3⟩
  unfold lastA
  cases hl : (a.R p).getLast? with
  | none => rw [List.getLast?_eq_none_iff.1 hl] at hm; cases hm
  | some y => rfl
theorem place_d {dss : List (List Dd)} (hb : workB dss = true) {c k : Nat} (hc : c < dss.length) (hk : k < (dss.getD c []).length) : ∃ p : Nat, p < 3 ∧ (dAt dss c k).2.1 = (p : Int) := by
  have hd := okD_restE (okC_of hb hc k hk)
  obtain ⟨p, hp⟩ := Int.eq_ofNat_of_zero_le hd.1
  exact ⟨p, by have := hd.2.1; omega, hp⟩
theorem rdg_at {dss : List (List Dd)} (hb : workB dss = true) {b : Bd} {a : Ab} {τ : Nat → Nat} {T : Nat} {z : Int} (M : MI dss b a τ T z) {c p : Nat} (hc : c < dss.length) (hp : p < 3) :
    ∃ f : Nat, ((stA dss a τ).L (sysW dss) (c : Int) p).getLast? = some f ∧ rdgM b c p = (vlN dss f, (f : Int)) := by
  have hl := last_some M.inv hp
  obtain ⟨e1, e2, _⟩ := lst_at M.rep hp
  have hfil : ((a.N c).map (ntE dss)).reverse.find? (fun x => x.1 == (p : Int)) = (((a.N c).filter (fun x => (sysW dss).pl x == p)).getLast?).map (ntE dss) := by
    rw [← List.head?_filter, List.filter_reverse, List.head?_reverse, List.filter_map, List.getLast?_map]
    have : (a.N c).filter ((fun x : Nt => x.1 == (p : Int)) ∘ ntE dss) = (a.N c).filter (fun x => (sysW dss).pl x == p) := by
      refine List.filter_congr (fun x hx => ?_)
      obtain ⟨_, k, E, _⟩ := M.nt c x hx
      obtain ⟨q, _, hq⟩ := place_d hb E.hc E.hk
      show (plN dss x == (p : Int)) = ((sysW dss).pl x == p)
      rw [(sys_at hb E).2.1]
      unfold plN
      rw [E.at hb]
      show ((dAt dss c k).2.1 == (p : Int)) = _
      rw [hq, Int.toNat_natCast]
      by_cases e : q = p
      · subst e; simp
      · have : ¬ ((q : Int) = (p : Int)) := by omega
        rw [beq_eq_false_iff_ne.2 this, beq_eq_false_iff_ne.2 e]
    rw [this]
  unfold rdgM
  rw [nts_at M.rep hc, hfil]
  unfold AbsSt.L
  rw [st_N]
  show ∃ f, (a.R p ++ (a.N c).filter (fun x => (sysW dss).pl x == p)).getLast? = some f ∧ _
  rw [List.getLast?_append]
  cases hq : ((a.N c).filter (fun x => (sysW dss).pl x == p)).getLast? with
  | none =>
    refine ⟨lastA a p, by rw [hl]; rfl, ?_⟩
    simp only [Option.map_none]
    rw [e1, e2]
  | some y =>
    exact ⟨y, rfl, rfl⟩
theorem st_bump {dss : List (List Dd)} (hb : workB dss = true) (a : Ab) (τ : Nat → Nat) {c : Nat} (hc : c < dss.length) (hk : a.nx c < (dss.getD c []).length) (h4 : (dAt dss c (a.nx c)).1 = 4) : stA dss (bumpA a c) τ = stA dss a τ := by
  unfold stA
  congr 1
  funext j
  apply propext
  constructor
  · rintro ⟨h1, h2⟩
    refine ⟨h1, ?_⟩
    rcases (ex_bump hb a hc hk h1).1 h2 with h | ⟨i, E⟩
    · exact h
    · exact absurd h4 E.kind
  · rintro ⟨h1, h2⟩
    exact ⟨h1, (ex_bump hb a hc hk h1).2 (.inl h2)⟩
theorem X_one {dss : List (List Dd)} (hb : workB dss = true) (a : Ab) {c : Nat} (hc : c < dss.length) (hk : a.nx c < (dss.getD c []).length) (h4 : (dAt dss c (a.nx c)).1 ≠ 4) (h3 : (dAt dss c (a.nx c)).1 ≠ 3) (j : Nat) :
    (j < (eventsB dss).length ∧ exA dss (bumpA a c) j = true) ↔ (j < (eventsB dss).length ∧ exA dss a j = true) ∨ j = offN dss c (a.nx c) := by
  constructor
  · rintro ⟨h1, h2⟩
    rcases (ex_bump hb a hc hk h1).1 h2 with h | ⟨i, E⟩
    · exact .inl ⟨h1, h⟩
    · exact .inr (ev_only E h3).1
  · rintro (⟨h1, h2⟩ | rfl)
    · exact ⟨h1, (ex_bump hb a hc hk h1).2 (.inl h2)⟩
    · have E := ev_first hc hk h4
      exact ⟨(E.lt hb).2, (ex_bump hb a hc hk (E.lt hb).2).2 (.inr ⟨0, E⟩)⟩
theorem X_two {dss : List (List Dd)} (hb : workB dss = true) (a : Ab) {c : Nat} (hc : c < dss.length) (hk : a.nx c < (dss.getD c []).length) (h3 : (dAt dss c (a.nx c)).1 = 3) (j : Nat) :
    (j < (eventsB dss).length ∧ exA dss (bumpA a c) j = true) ↔ ((j < (eventsB dss).length ∧ exA dss a j = true) ∨ j = offN dss c (a.nx c)) ∨ j = offN dss c (a.nx c) + 1 := by
  have E1 := ev_first hc hk (by omega : (dAt dss c (a.nx c)).1 ≠ 4)
  have E2 := ev_second hc hk h3
  constructor
  · rintro ⟨h1, h2⟩
    rcases (ex_bump hb a hc hk h1).1 h2 with h | ⟨i, E⟩
    · exact .inl (.inl ⟨h1, h⟩)
    · have hi := E.hi
      have hj := E.hj
      unfold numD at hi
      rw [if_neg (by omega), if_pos h3] at hi
      rcases (by omega : i = 0 ∨ i = 1) with rfl | rfl
      · exact .inl (.inr hj)
      · exact .inr hj
  · rintro ((⟨h1, h2⟩ | rfl) | rfl)
    · exact ⟨h1, (ex_bump hb a hc hk h1).2 (.inl h2)⟩
    · exact ⟨(E1.lt hb).2, (ex_bump hb a hc hk (E1.lt hb).2).2 (.inr ⟨0, E1⟩)⟩
    · exact ⟨(E2.lt hb).2, (ex_bump hb a hc hk (E2.lt hb).2).2 (.inr ⟨1, E2⟩)⟩
theorem rs_in {es : List Ev} (hx : es.length ≤ 12) {r : Int} (h : r ∈ idxB rdE es) : ∃ j : Nat, r = (j : Int) ∧ j < es.length ∧ (es.getD j zE).2.2.1 = true := by
  unfold idxB at h
  rw [if_pos hx] at h
  have h1 := idxK_lt _ _ _ _ h
  have h2 := idxK_mem _ _ _ _ h
  obtain ⟨j, hj⟩ := Int.eq_ofNat_of_zero_le h1.1
  rw [hj, Int.toNat_natCast] at h2
  exact ⟨j, hj, by omega, h2⟩
theorem nodup_get {l : List Int} (hn : l.Nodup) {p q : Nat} (hp : p < l.length) (hq : q < l.length) (e : l.getD p 0 = l.getD q 0) : p = q := by
  rw [List.getD_eq_getElem?_getD, List.getElem?_eq_getElem hp, List.getD_eq_getElem?_getD, List.getElem?_eq_getElem hq] at e
  exact (List.getElem_inj hn).1 e
def plcW (es : List Ev) (p : Nat) : List Int := idxB (toE (p : Int)) es
def okP (rows : List Int) (at0 : Nat) (p : List Int) (i : Nat) : Bool := decide (at0 + p.length ≤ rows.length) && (rows.getD at0 0 == (i : Int)) && p.all (fun x => isB ((rows.drop at0).take p.length) x)
def rowsL (es : List Ev) (rows : List Int) : Bool :=
  okP rows 0 (plcW es 0) 0 && okP rows (plcW es 0).length (plcW es 1) 1 && okP rows ((plcW es 0).length + (plcW es 1).length) (plcW es 2) 2 && decide ((plcW es 0).length + (plcW es 1).length + (plcW es 2).length = rows.length)
def rowsB (dss : List (List Dd)) (rows : List Int) : Bool := workB dss && rowsL (eventsB dss) rows
theorem perm_of : ∀ {p b : List Int}, p.Nodup → (∀ x ∈ p, x ∈ b) → b.length ≤ p.length → p.Perm b
  | [], b, _, _, hl => by
    have : b = [] := List.eq_nil_of_length_eq_zero (by simpa using hl)
    subst this
    exact List.Perm.refl _
  | x :: t, b, hn, hs, hl => by
    have hx := hs x (by simp)
    rw [List.nodup_cons] at hn
    have hb : (b.erase x).length = b.length - 1 := List.length_erase_of_mem hx
    have ih := perm_of (p := t) (b := b.erase x) hn.2 (fun y hy => by
      have h1 := hs y (by simp [hy])
      exact (List.mem_erase_of_ne (fun e => hn.1 (by rw [← e]; exact hy))).2 h1) (by rw [hb]; simp only [List.length_cons] at hl; omega)
    exact (List.Perm.cons x ih).trans (List.perm_cons_erase hx).symm
theorem mem_isB {l : List Int} {n : Int} (h : n ∈ l) : isB l n = true := by
  unfold isB
  rw [List.any_eq_true]
  exact ⟨n, h, by simp⟩
theorem okP_perm {rows p : List Int} {at0 i : Nat} (hn : p.Nodup) (h : okP rows at0 p i = true) : at0 + p.length ≤ rows.length ∧ p.Perm ((rows.drop at0).take p.length) := by
  unfold okP at h
  simp only [Bool.and_eq_true, decide_eq_true_eq, List.all_eq_true] at h
  refine ⟨h.1.1, perm_of hn (fun x hx => isB_mem (h.2 x hx)) ?_⟩
  rw [List.length_take]
  omega
theorem plcW_nodup {es : List Ev} (hx : es.length ≤ 12) (p : Nat) : (plcW es p).Nodup := by
  unfold plcW idxB
  rw [if_pos hx]
  exact (idxK_rises _ _ _).imp (fun h e => by omega)
theorem plcW_mem {es : List Ev} (hx : es.length ≤ 12) {p : Nat} {x : Int} (h : x ∈ plcW es p) : (0 ≤ x ∧ x < (es.length : Int)) ∧ (es.getD x.toNat zE).2.2.2.1 = (p : Int) := by
  unfold plcW idxB at h
  rw [if_pos hx] at h
  have h1 := idxK_lt _ _ _ _ h
  have h2 := idxK_mem _ _ _ _ h
  unfold toE at h2
  simp only [Bool.and_eq_true, beq_iff_eq] at h2
  exact ⟨h1, h2.2⟩
theorem plcW_len {es : List Ev} (hx : es.length ≤ 12) (p : Nat) : (plcW es p).length ≤ 12 := by
  unfold plcW idxB
  rw [if_pos hx]
  have := idxK_len (toE (p : Int)) es es.length
  omega
def allW (es : List Ev) : List Int := plcW es 0 ++ plcW es 1 ++ plcW es 2
theorem allW_nodup {es : List Ev} (hx : es.length ≤ 12) : (allW es).Nodup := by
  have dis : ∀ {p q : Nat}, p ≠ q → ∀ a ∈ plcW es p, ∀ b ∈ plcW es q, a ≠ b := fun {p q} hpq a ha b hb e => by
    have h1 := (plcW_mem hx ha).2
    have h2 := (plcW_mem hx hb).2
    rw [e, h2] at h1
    omega
  unfold allW
  rw [List.nodup_append, List.nodup_append]
  refine ⟨⟨plcW_nodup hx 0, plcW_nodup hx 1, dis (by decide)⟩, plcW_nodup hx 2, fun a ha b hb => ?_⟩
  rcases List.mem_append.1 ha with h | h
  · exact dis (p := 0) (q := 2) (by decide) a h b hb
  · exact dis (p := 1) (q := 2) (by decide) a h b hb
theorem rows_perm {es : List Ev} {rows : List Int} (hx : es.length ≤ 12) (h : rowsL es rows = true) : (allW es).Perm rows := by
  unfold rowsL at h
  simp only [Bool.and_eq_true, decide_eq_true_eq] at h
  obtain ⟨⟨⟨h0, h1⟩, h2⟩, hl⟩ := h
  obtain ⟨l0, p0⟩ := okP_perm (plcW_nodup hx 0) h0
  obtain ⟨l1, p1⟩ := okP_perm (plcW_nodup hx 1) h1
  obtain ⟨l2, p2⟩ := okP_perm (plcW_nodup hx 2) h2
  have e : rows = rows.take (plcW es 0).length ++ (rows.drop (plcW es 0).length).take (plcW es 1).length ++ (rows.drop ((plcW es 0).length + (plcW es 1).length)).take (plcW es 2).length := by
    have t2 : (rows.drop ((plcW es 0).length + (plcW es 1).length)).take (plcW es 2).length = rows.drop ((plcW es 0).length + (plcW es 1).length) := List.take_of_length_le (by rw [List.length_drop]; omega)
    rw [t2, List.append_assoc, ← List.drop_drop, List.take_append_drop, List.take_append_drop]
  rw [List.drop_zero] at p0
  unfold allW
  rw [e]
  exact (p0.append p1).append p2
theorem rows_use {es : List Ev} {rows : List Int} (hx : es.length ≤ 12) (h : rowsL es rows = true) : rows.Nodup ∧ rows.length ≤ 36 ∧ ∀ i, i < rows.length → 0 ≤ rows.getD i 0 ∧ rows.getD i 0 < (es.length : Int) := by
  have hp := rows_perm hx h
  refine ⟨hp.nodup_iff.1 (allW_nodup hx), ?_, fun i hi => ?_⟩
  · rw [← hp.length_eq]
    unfold allW
    rw [List.length_append, List.length_append]
    have := plcW_len hx 0
    have := plcW_len hx 1
    have := plcW_len hx 2
    omega
  · have hm : rows.getD i 0 ∈ rows := by
      rw [List.getD_eq_getElem?_getD, List.getElem?_eq_getElem hi]
      exact List.getElem_mem hi
    have hm := hp.mem_iff.2 hm
    unfold allW at hm
    rcases List.mem_append.1 hm with hm | hm
    · rcases List.mem_append.1 hm with hm | hm
      · exact (plcW_mem hx hm).1
      · exact (plcW_mem hx hm).1
    · exact (plcW_mem hx hm).1
theorem okP_mk {A P C p : List Int} {i : Nat} (hl : P.length = p.length) (hp : P.Perm p) (h0 : 0 < p.length) (hi : P.getD 0 0 = (i : Int)) : okP (A ++ P ++ C) A.length p i = true := by
  unfold okP
  simp only [Bool.and_eq_true, decide_eq_true_eq, beq_iff_eq, List.all_eq_true]
  refine ⟨⟨by rw [List.length_append, List.length_append]; omega, ?_⟩, fun x hx => ?_⟩
  · rw [List.append_assoc, List.getD_eq_getElem?_getD, List.getElem?_append_right (Nat.le_refl _), Nat.sub_self, List.getElem?_append_left (by omega), ← List.getD_eq_getElem?_getD]
    exact hi
  · refine mem_isB ?_
    rw [List.append_assoc, List.drop_left, ← hl, List.take_left]
    exact hp.mem_iff.2 hx
theorem plcW_first {dss : List (List Dd)} (hb : workB dss = true) (p : Nat) (hp : p < 3) : 0 < (plcW (eventsB dss) p).length ∧ (plcW (eventsB dss) p).getD 0 0 = (p : Int) := by
  obtain ⟨h12, _, _, hf, _⟩ := events_law hb
  obtain ⟨r, hr⟩ := hf p hp
  unfold plcW idxB
  rw [eventsB, if_pos hb, if_pos h12, hr]
  exact ⟨by simp, rfl⟩
theorem eventsB_12 (dss : List (List Dd)) : (eventsB dss).length ≤ 12 := by
  unfold eventsB
  split
  · rename_i hb
    exact (events_law hb).1
  · simp
theorem rdI_two {d : Dd} (h : d.1 = 2) (i : Nat) : rdI d i = false := by unfold rdI; simp [h]
theorem rdI_first {d : Dd} (h : d.1 ≠ 2) : rdI d 0 = true := by unfold rdI; simp [h]
theorem rdI_second (d : Dd) : rdI d 1 = false := by unfold rdI; simp
theorem rep_nxt {dss : List (List Dd)} {b : Bd} {a : Ab} (h : Rep dss b a) {c : Nat} (hc : c < dss.length) : b.nxt.set c (b.nxt.getD c 0 + 1) = (List.range dss.length).map (fun c' => ((bumpA a c).nx c' : Int)) := by
  rw [(nx_at h hc).1, h.nxt, map_set]
  refine List.map_congr_left (fun i _ => ?_)
  show _ = ((if i = c then a.nx c + 1 else a.nx i : Nat) : Int)
  split
  · rename_i e; subst e; omega
  · rfl
theorem nx_bump (a : Ab) (c c' : Nat) : (bumpA a c).nx c' = if c' = c then a.nx c + 1 else a.nx c' := rfl
theorem nxl_bump {dss : List (List Dd)} {a : Ab} (h : ∀ c, c < dss.length → a.nx c ≤ (dss.getD c []).length) {c : Nat} (hk : a.nx c < (dss.getD c []).length) : ∀ c', c' < dss.length → (bumpA a c).nx c' ≤ (dss.getD c' []).length := by
  intro c' hc'
  rw [nx_bump]
  split
  · rename_i e; subst e; omega
  · exact h c' hc'
theorem nt_bump {dss : List (List Dd)} {b : Bd} {a : Ab} {τ : Nat → Nat} {T : Nat} {z : Int} (M : MI dss b a τ T z) {c : Nat} (hp : a.N c ≠ [] → (dAt dss c (a.nx c)).1 ≠ 4 ∧ wholeD (dAt dss c (a.nx c)) = false) :
    ∀ c' x, x ∈ a.N c' → c' < dss.length ∧ ∃ k, EvIs dss x c' k 0 ∧ k < (bumpA a c).nx c' ∧ (dAt dss c' k).1 = 2 ∧ gAt dss c' k = 0 ∧ ∀ k', k < k' → k' < (bumpA a c).nx c' → (dAt dss c' k').1 ≠ 4 ∧ wholeD (dAt dss c' k') = false := by
  intro c' x hx
  obtain ⟨h1, k, E, h2, h3, h4, h5⟩ := M.nt c' x hx
  refine ⟨h1, k, E, ?_, h3, h4, fun k' hk hk' => ?_⟩
  · rw [nx_bump]; split
    · rename_i e; subst e; omega
    · exact h2
  · rw [nx_bump] at hk'
    split at hk'
    · rename_i e
      subst e
      by_cases e2 : k' = a.nx c'
      · subst e2
        exact hp (fun e => by rw [e] at hx; cases hx)
      · exact h5 k' hk (by omega)
    · exact h5 k' hk hk'
theorem oneM_wait {dss : List (List Dd)} (hb : workB dss = true) {b : Bd} {a : Ab} {τ : Nat → Nat} {T : Nat} {z : Int} (M : MI dss b a τ T z) {c : Nat} (hc : c < dss.length) (hk : a.nx c < (dss.getD c []).length) (h4 : (dAt dss c (a.nx c)).1 = 4) (hN : a.N c = []) :
    MI dss (oneM dss (eventsB dss) b c) (bumpA a c) τ T z := by
  have hd : deedM dss (eventsB dss) b c (nxN b c) = b := by
    rw [(nx_at M.rep hc).2]
    unfold deedM
    rw [if_neg (by omega), if_neg (by omega), if_neg (by omega), if_neg (by omega)]
  have hex : ∀ j, j < (eventsB dss).length → exA dss (bumpA a c) j = exA dss a j := by
    intro j hj
    have := ex_bump hb a hc hk hj
    cases h1 : exA dss a j with
    | true => exact this.2 (.inl h1)
    | false =>
      cases h2 : exA dss (bumpA a c) j with
      | false => rfl
      | true =>
        rcases this.1 h2 with h | ⟨i, E⟩
        · rw [h1] at h; cases h
        · exact absurd h4 E.kind
  have hx := eventsB_12 dss
  unfold oneM
  rw [hd]
  refine ⟨⟨rep_nxt M.rep hc, M.rep.nts, M.rep.rws, M.rep.lst, M.rep.plc, ?_, ?_⟩, by rw [st_bump hb a τ hc hk h4]; exact M.inv, nxl_bump M.nxl hk, nt_bump M (fun h => absurd hN h)⟩
  · show b.fr = _
    rw [M.rep.fr]
    refine List.map_congr_left (fun r hr => ?_)
    obtain ⟨j, rfl, hj, _⟩ := rs_in hx hr
    rw [Int.toNat_natCast, hex j hj]
    rfl
  · show b.sn = _
    rw [M.rep.sn]
    refine List.map_congr_left (fun r hr => ?_)
    obtain ⟨j, rfl, hj, _⟩ := rs_in hx hr
    rw [Int.toNat_natCast, hex j hj]
    rfl
theorem note_ex {dss : List (List Dd)} (hb : workB dss = true) {b : Bd} {a : Ab} {τ : Nat → Nat} {T : Nat} {z : Int} (M : MI dss b a τ T z) {c x : Nat} (hc : c < dss.length) (hk : a.nx c < (dss.getD c []).length) (h1 : (dAt dss c (a.nx c)).1 = 1) (hg : gAt dss c (a.nx c) = 0) (hx : x ∈ a.N c) :
    kepP dss (eventsB dss) x (offN dss c (a.nx c)) = true := by
  obtain ⟨_, k, E, h2, h3, h4, h5⟩ := M.nt c x hx
  have Ej := ev_first hc hk (by omega : (dAt dss c (a.nx c)).1 ≠ 4)
  have hlt : x < offN dss c (a.nx c) := (E.ord Ej).2 (.inr ⟨rfl, .inl h2⟩)
  have hx3 := (E.lt hb).1
  have hcls : clsD dss c k ≠ clsD dss c (a.nx c) := by
    intro e
    rcases ((cls_iff (okC_of hb hc) (okC_of hb hc) E.hk hk E.kind Ej.kind).1 e).2 with h | h
    · omega
    · exact h.1 h4
  have hb1 : behP (eventsB dss) x (offN dss c (a.nx c)) = true := by
    unfold behP
    rw [E.at hb, Ej.at hb]
    simp [hlt, hx3]
  have hw1 : wholeD (dAt dss c k) = false := by
    unfold wholeD
    rw [h3, show (dAt dss c k).2.2.2 = 0 from h4]; rfl
  have hw2 : wholeD (dAt dss c (a.nx c)) = false := by
    unfold wholeD
    rw [h1, show (dAt dss c (a.nx c)).2.2.2 = 0 from hg]; rfl
  have hwt : waitsD (dss.getD c []) k (a.nx c) = false := waitsD_no (fun j hj1 hj2 => (h5 j hj1 hj2).1)
  unfold kepP
  rw [hb1]
  unfold kepQ
  have e1 : dOf dss ((eventsB dss).getD x zE) = dAt dss c k := by unfold dOf; rw [E.at hb]; simp only [Int.toNat_natCast]
  have e2 : dOf dss ((eventsB dss).getD (offN dss c (a.nx c)) zE) = dAt dss c (a.nx c) := by unfold dOf; rw [Ej.at hb]; simp only [Int.toNat_natCast]
  rw [e1, e2, hw1, hw2]
  unfold rdE csE
  rw [E.at hb, Ej.at hb]
  simp only [Int.toNat_natCast]
  rw [hwt]
  have r1 : rdI (dAt dss c k) 0 = false := rdI_two h3 0
  have r2 : rdI (dAt dss c (a.nx c)) 0 = true := rdI_first (by omega)
  rw [r1, r2]
  simp [hx3, hcls]
abbrev readA (dss : List (List Dd)) (a : Ab) (c f : Nat) : Ab := { bumpA a c with F := fun i => if i = offN dss c (a.nx c) then f else a.F i }
theorem oneM_read_t {dss : List (List Dd)} (hb : workB dss = true) {b : Bd} {a : Ab} {τ : Nat → Nat} {T : Nat} {z : Int} (M : MI dss b a τ T z) (hT : 1 ≤ T) {c : Nat} (hc : c < dss.length) (hk : a.nx c < (dss.getD c []).length) (h1 : (dAt dss c (a.nx c)).1 = 1)
    (hz : clsD dss c (a.nx c) = z) (hcan : gAt dss c (a.nx c) = 0 ∨ a.N c = []) :
    ∃ f, ((stA dss a τ).L (sysW dss) (c : Int) (dAt dss c (a.nx c)).2.1.toNat).getLast? = some f ∧ MI dss (oneM dss (eventsB dss) b c) (readA dss a c f) (fun i => if i = offN dss c (a.nx c) then T else τ i) T z := by
  have h4 : (dAt dss c (a.nx c)).1 ≠ 4 := by omega
  have h3 : (dAt dss c (a.nx c)).1 ≠ 3 := by omega
  have E := ev_first hc hk h4
  obtain ⟨s1, s2, s3, s4⟩ := sys_at hb E
  obtain ⟨p, hp, ep⟩ := place_d hb hc hk
  obtain ⟨f, hf, er⟩ := rdg_at hb M hc hp
  have hN := nxt_first hb a τ hc hk h4
  have hrd : (sysW dss).rd (offN dss c (a.nx c)) = true := by rw [s3]; exact rdI_first (by omega)
  have hpl : (sysW dss).pl (offN dss c (a.nx c)) = p := by rw [s2, ep, Int.toNat_natCast]
  have I := M.inv.doRead hT hN hrd (by rw [s4]; exact hz) (fun x hx => by
    rw [s1, st_N] at hx
    rcases hcan with hg | hg
    · exact note_ex hb M hc hk h1 hg hx
    · rw [hg] at hx; cases hx) (f := f) (by rw [s1, hpl]; exact hf)
  have hx := eventsB_12 dss
  have hd : deedM dss (eventsB dss) b c (nxN b c) = seeM (idxB rdE (eventsB dss)) b (offN dss c (a.nx c) : Int) (vlN dss f) (f : Int) := by
    rw [(nx_at M.rep hc).2]
    unfold deedM
    rw [if_pos h1, evM_at hb hc hk h4, ep, Int.toNat_natCast, er]
  refine ⟨f, by rw [ep, Int.toNat_natCast]; exact hf, ?_⟩
  have hst : stA dss { bumpA a c with F := fun i => if i = offN dss c (a.nx c) then f else a.F i } (fun i => if i = offN dss c (a.nx c) then T else τ i) = (stA dss a τ).doRead T (offN dss c (a.nx c)) f := by
    unfold stA AbsSt.doRead
    congr 1
    funext j
    apply propext
    exact X_one hb a hc hk h4 h3 j
  have hexr : ∀ j, j < (eventsB dss).length → exA dss { bumpA a c with F := fun i => if i = offN dss c (a.nx c) then f else a.F i } j = (decide (j = offN dss c (a.nx c)) || exA dss a j) := by
    intro j hj
    show exA dss (bumpA a c) j = _
    have := X_one hb a hc hk h4 h3 j
    cases q : exA dss (bumpA a c) j with
    | true =>
      rcases this.1 ⟨hj, q⟩ with h | h
      · rw [h.2]; simp
      · simp [h]
    | false =>
      have n1 : ¬ j = offN dss c (a.nx c) := fun e => by have := (this.2 (.inr e)).2; rw [q] at this; cases this
      have n2 : exA dss a j = false := by
        cases q2 : exA dss a j with
        | false => rfl
        | true => have := (this.2 (.inl ⟨hj, q2⟩)).2; rw [q] at this; cases this
      simp [n1, n2]
  unfold oneM
  rw [hd]
  refine ⟨⟨rep_nxt M.rep hc, M.rep.nts, M.rep.rws, M.rep.lst, M.rep.plc, ?_, ?_⟩, by rw [hst]; exact I, nxl_bump M.nxl hk, nt_bump M (fun h => ⟨h4, ?_⟩)⟩
  · show setR (idxB rdE (eventsB dss)) _ _ b.fr = _
    rw [M.rep.fr, set_self]
    refine List.map_congr_left (fun r hr => ?_)
    obtain ⟨j, rfl, hj, _⟩ := rs_in hx hr
    rw [Int.toNat_natCast, hexr j hj]
    show _ = if _ then ((if j = offN dss c (a.nx c) then f else a.F j : Nat) : Int) else -1
    by_cases e : j = offN dss c (a.nx c)
    · simp [e]
    · simp [e, show ¬ ((j : Int) = (offN dss c (a.nx c) : Int)) by omega]
  · show setR (idxB rdE (eventsB dss)) _ _ b.sn = _
    rw [M.rep.sn, set_self]
    refine List.map_congr_left (fun r hr => ?_)
    obtain ⟨j, rfl, hj, _⟩ := rs_in hx hr
    rw [Int.toNat_natCast, hexr j hj]
    show _ = if _ then vlN dss (if j = offN dss c (a.nx c) then f else a.F j) else -1
    by_cases e : j = offN dss c (a.nx c)
    · simp [e]
    · simp [e, show ¬ ((j : Int) = (offN dss c (a.nx c) : Int)) by omega]
  · rcases hcan with hg | hg
    · unfold wholeD
      rw [h1, show (dAt dss c (a.nx c)).2.2.2 = 0 from hg]; rfl
    · exact absurd hg h
theorem oneM_read {dss : List (List Dd)} (hb : workB dss = true) {b : Bd} {a : Ab} {τ : Nat → Nat} {T : Nat} {z : Int} (M : MI dss b a τ T z) (hT : 1 ≤ T) {c : Nat} (hc : c < dss.length) (hk : a.nx c < (dss.getD c []).length) (h1 : (dAt dss c (a.nx c)).1 = 1)
    (hz : clsD dss c (a.nx c) = z) (hcan : gAt dss c (a.nx c) = 0 ∨ a.N c = []) :
    ∃ f τ', ((stA dss a τ).L (sysW dss) (c : Int) (dAt dss c (a.nx c)).2.1.toNat).getLast? = some f ∧ MI dss (oneM dss (eventsB dss) b c) (readA dss a c f) τ' T z := by
  obtain ⟨f, h, M'⟩ := oneM_read_t hb M hT hc hk h1 hz hcan
  exact ⟨f, _, h, M'⟩
end Go.Proofs.Ytgakfkjjkobpiaa
