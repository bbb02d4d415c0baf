/- Gathered texts. -/
import Derived.OpenShut
import Derived.Lib.SmallJoins
import Derived.Test.YtgakfkjjkobpiaaMD
set_option maxRecDepth 100000
set_option maxHeartbeats 8000000
namespace Go.Proofs.Ytgakfkjjkobpiaa
open Go.ChangeShapes Go.WideShapes Go.ChangeAt Go.RowKit
section
section
variable {H : Type} {enc : TypeId × Value → H} {w : World} {base : Nat} {held : Bool}
theorem open_num1 {n : Nat} {v : Value} {y : DataW H × List MemPlace} (h : DataW.trod enc Try.prog w base (fun _ => true) held n 25 [v] = some y) : ∃ f : List Int, Rd w v f ∧ f.length ≤ maxLen := by
  obtain ⟨d, p⟩ := y
  rcases open_ints Try.underlying25 Try.underlying2 (by kernel_rfl) h with ⟨hcs, _⟩ | ⟨x, l, c, zs, hcs, _, hl, hm, hz, _, hcell, hwz⟩
  · simp at hcs
    subst hcs
    exact ⟨[], ⟨none, 0, rfl, .inl rfl⟩, by simp⟩
  · simp at hcs
    subst hcs
    obtain ⟨f, hfl, hr⟩ := rd_of_row (w := w) (a := some x) (len := l) (cap := c) (ys := zs) (.inr ⟨x, rfl, hl, hm, by simpa using hz, hcell, hwz⟩)
    exact ⟨f, hr, by omega⟩
end
end
def canK (dss : List (List Dd)) (b : Bd) (k : Nat) : List Int := ((List.range k).filter (canM dss b)).map (fun c : Nat => (c : Int))
theorem canK_hit {dss : List (List Dd)} {b : Bd} {k : Nat} (h : canM dss b k = true) : canK dss b (k + 1) = canK dss b k ++ [(k : Int)] := by
  unfold canK
  rw [List.range_succ, List.filter_append, List.map_append]
  simp [h]
theorem canK_miss {dss : List (List Dd)} {b : Bd} {k : Nat} (h : canM dss b k = false) : canK dss b (k + 1) = canK dss b k := by
  unfold canK
  rw [List.range_succ, List.filter_append, List.map_append]
  simp [h]
def ntK (b : Bd) (k : Nat) : List Int := ((List.range k).filter (fun c => !(b.nts.getD c []).isEmpty)).map (fun c : Nat => 10 + (c : Int))
theorem ntK_hit {b : Bd} {k : Nat} (h : 0 < (b.nts.getD k []).length) : ntK b (k + 1) = ntK b k ++ [10 + (k : Int)] := by
  have : (b.nts.getD k []).isEmpty = false := by
    cases e : b.nts.getD k [] with
    | nil => rw [e] at h; simp at h
    | cons x l => rfl
  unfold ntK
  rw [List.range_succ, List.filter_append, List.map_append]
  simp only [List.filter_cons, this, Bool.not_false, if_true, List.filter_nil, List.map_cons, List.map_nil]
theorem ntK_miss {b : Bd} {k : Nat} (h : ¬ 0 < (b.nts.getD k []).length) : ntK b (k + 1) = ntK b k := by
  have : (b.nts.getD k []).isEmpty = true := by
    cases e : b.nts.getD k [] with
    | nil => rfl
    | cons x l => rw [e] at h; simp at h
  unfold ntK
  rw [List.range_succ, List.filter_append, List.map_append]
  simp only [List.filter_cons, this, Bool.not_true, Bool.false_eq_true, if_false, List.filter_nil, List.map_nil, List.append_nil]
theorem poss_same (dss : List (List Dd)) (b : Bd) : canK dss b dss.length ++ ntK b dss.length = possM dss b := rfl
theorem canK_len (dss : List (List Dd)) (b : Bd) (k : Nat) : (canK dss b k).length ≤ k := by
  unfold canK
  rw [List.length_map]
  exact Nat.le_trans (List.length_filter_le _ _) (by simp)
theorem ntK_len (b : Bd) (k : Nat) : (ntK b k).length ≤ k := by
  unfold ntK
  rw [List.length_map]
  exact Nat.le_trans (List.length_filter_le _ _) (by simp)
structure Shp (dss : List (List Dd)) (b : Bd) (n : Nat) : Prop where
  work : workB dss = true
  plc : b.plc.length = 3
  lst : b.lst.length = 3
  rws : b.rws.length = 3
  nts : b.nts.length = dss.length
  nxt : b.nxt.length = dss.length
  sn : b.sn.length = (idxB rdE (eventsB dss)).length
  fr : b.fr.length = (idxB rdE (eventsB dss)).length
  rl : ∀ p, (b.rws.getD p []).length ≤ n
  nl : ∀ c, (b.nts.getD c []).length ≤ n
theorem Shp.mono {dss : List (List Dd)} {b : Bd} {n m : Nat} (h : Shp dss b n) (hm : n ≤ m) : Shp dss b m :=
  ⟨h.work, h.plc, h.lst, h.rws, h.nts, h.nxt, h.sn, h.fr, fun p => Nat.le_trans (h.rl p) hm, fun c => Nat.le_trans (h.nl c) hm⟩
theorem set_len_le {α : Type} {l : List (List α)} {n : Nat} (h : ∀ i, (l.getD i []).length ≤ n) (k : Nat) (z : List α) (hz : z.length ≤ n) : ∀ i, ((l.set k z).getD i []).length ≤ n := fun i => by
  rw [List.getD_eq_getElem?_getD, List.getElem?_set]
  by_cases e : k = i
  · rw [if_pos e]
    by_cases hk : k < l.length
    · rw [if_pos hk]; exact hz
    · rw [if_neg hk]; simp
  · rw [if_neg e, ← List.getD_eq_getElem?_getD]; exact h i
theorem setR_len {rs : List Int} {ev v : Int} {l : List Int} (h : l.length = rs.length) : (setR rs ev v l).length = rs.length := by unfold setR; rw [List.length_zipWith]; omega
theorem Shp.see {dss : List (List Dd)} {b : Bd} {n : Nat} (h : Shp dss b n) (ev v f : Int) : Shp dss (seeM (idxB rdE (eventsB dss)) b ev v f) n :=
  ⟨h.work, h.plc, h.lst, h.rws, h.nts, h.nxt, setR_len h.sn, setR_len h.fr, h.rl, h.nl⟩
theorem Shp.ink {dss : List (List Dd)} {b : Bd} {n : Nat} (h : Shp dss b n) (p : Nat) (v ev : Int) : Shp dss (inkM b p v ev) (n + 1) :=
  ⟨h.work, by simp [inkM, h.plc], by simp [inkM, h.lst], by simp [inkM, h.rws], h.nts, h.nxt, h.sn, h.fr,
    set_len_le (fun i => Nat.le_succ_of_le (h.rl i)) p _ (by have := h.rl p; rw [List.length_append, List.length_singleton]; omega), fun c => Nat.le_succ_of_le (h.nl c)⟩
theorem Shp.note {dss : List (List Dd)} {b : Bd} {n : Nat} (h : Shp dss b n) (c : Nat) (x : Nt) : Shp dss { b with nts := b.nts.set c (b.nts.getD c [] ++ [x]) } (n + 1) :=
  ⟨h.work, h.plc, h.lst, h.rws, by simp [h.nts], h.nxt, h.sn, h.fr, fun p => Nat.le_succ_of_le (h.rl p),
    set_len_le (fun i => Nat.le_succ_of_le (h.nl i)) c _ (by have := h.nl c; rw [List.length_append, List.length_singleton]; omega)⟩
theorem Shp.less {dss : List (List Dd)} {b : Bd} {n : Nat} (h : Shp dss b n) (c : Nat) (l : List Nt) (hl : l.length ≤ n) : Shp dss { b with nts := b.nts.set c l } n :=
  ⟨h.work, h.plc, h.lst, h.rws, by simp [h.nts], h.nxt, h.sn, h.fr, h.rl, set_len_le h.nl c _ hl⟩
theorem Shp.deed {dss : List (List Dd)} {b : Bd} {n : Nat} (h : Shp dss b n) (c k : Nat) : Shp dss (deedM dss (eventsB dss) b c k) (n + 1) := by
  unfold deedM
  split
  · exact (h.see _ _ _).mono (Nat.le_succ n)
  · split
    · exact (h.see _ _ _).ink _ _ _
    · split
      · exact h.ink _ _ _
      · split
        · exact h.note c _
        · exact h.mono (Nat.le_succ n)
theorem Shp.next {dss : List (List Dd)} {b : Bd} {n : Nat} (h : Shp dss b n) (c : Nat) (x : Int) : Shp dss { b with nxt := b.nxt.set c x } n :=
  ⟨h.work, h.plc, h.lst, h.rws, h.nts, by simp [h.nxt], h.sn, h.fr, h.rl, h.nl⟩
theorem deed_nxt (dss : List (List Dd)) (es : List Ev) (b : Bd) (c k : Nat) : (deedM dss es b c k).nxt = b.nxt := by
  unfold deedM
  split
  · rfl
  · split
    · rfl
    · split
      · rfl
      · split <;> rfl
theorem Shp.one {dss : List (List Dd)} {b : Bd} {n : Nat} (h : Shp dss b n) (c : Nat) : Shp dss (oneM dss (eventsB dss) b c) (n + 1) := by
  have := (h.deed c (nxN b c)).next c (b.nxt.getD c 0 + 1)
  rw [deed_nxt] at this
  exact this
theorem Shp.of {dss : List (List Dd)} {b : Bd} (h : boardB dss b = true) : Shp dss b 20 := by
  simp only [boardB, shapeB, fillB, rowsBd, Bool.and_eq_true, decide_eq_true_eq] at h
  obtain ⟨⟨hw, h1, h2, h3, h4, h5⟩, ⟨h6, h7, -⟩, h8, h9⟩ := h
  refine ⟨hw, h1, h2, h3, h4, h5, h6, h7, fun p => ?_, fun c => ?_⟩
  · by_cases hp : p < 3
    · have := List.all_eq_true.1 h8 p (List.mem_range.2 hp)
      simp only [allB, Bool.and_eq_true, decide_eq_true_eq] at this
      exact this.2
    · rw [List.getD_eq_getElem?_getD, List.getElem?_eq_none (by omega)]; simp
  · by_cases hc : c < dss.length
    · have := List.all_eq_true.1 h9 c (List.mem_range.2 hc)
      simp only [ckB, Bool.and_eq_true, decide_eq_true_eq] at this
      omega
    · rw [List.getD_eq_getElem?_getD, List.getElem?_eq_none (by omega)]; simp
theorem board_clerk {dss : List (List Dd)} {b : Bd} (h : boardB dss b = true) {c : Nat} (hc : c < dss.length) : 0 ≤ b.nxt.getD c 0 ∧ b.nxt.getD c 0 ≤ ((dss.getD c []).length : Int) := by
  simp only [boardB, Bool.and_eq_true] at h
  have := List.all_eq_true.1 h.2.2.2 c (List.mem_range.2 hc)
  simp only [ckB, Bool.and_eq_true, decide_eq_true_eq] at this
  exact this.1
structure RB (dss : List (List Dd)) (b : Bd) (N : Nat → Nat) (m : Nat) : Prop where
  work : workB dss = true
  plc : b.plc.length = 3
  lst : b.lst.length = 3
  rws : b.rws.length = 3
  nts : b.nts.length = dss.length
  nxt : b.nxt.length = dss.length
  sn : b.sn.length = (idxB rdE (eventsB dss)).length
  fr : b.fr.length = (idxB rdE (eventsB dss)).length
  vp : ∀ x ∈ b.plc, 0 ≤ x ∧ x ≤ 9
  vl : ∀ x ∈ b.lst, 0 ≤ x ∧ x ≤ ((eventsB dss).length : Int) - 1
  vs : ∀ x ∈ b.sn, -1 ≤ x ∧ x ≤ 9
  vf : ∀ x ∈ b.fr, -1 ≤ x ∧ x ≤ ((eventsB dss).length : Int) - 1
  rl : ∀ p, (b.rws.getD p []).length ≤ m ∧ ∀ x ∈ b.rws.getD p [], 0 ≤ x ∧ x ≤ ((eventsB dss).length : Int) - 1
  nl : ∀ c, (b.nts.getD c []).length ≤ N c ∧ ∀ x ∈ b.nts.getD c [], (0 ≤ x.1 ∧ x.1 ≤ 2) ∧ (0 ≤ x.2.1 ∧ x.2.1 ≤ 9) ∧ 0 ≤ x.2.2 ∧ x.2.2 ≤ ((eventsB dss).length : Int) - 1
  nx : ∀ c, c < dss.length → 0 ≤ b.nxt.getD c 0 ∧ b.nxt.getD c 0 ≤ ((dss.getD c []).length : Int)
theorem getD_none {α : Type} {l : List α} {z : α} {i : Nat} (h : ¬ i < l.length) : l.getD i z = z := by rw [List.getD_eq_getElem?_getD, List.getElem?_eq_none (by omega)]; rfl
theorem getD_in {α : Type} {l : List α} {z : α} {i : Nat} (h : i < l.length) : l.getD i z ∈ l := by rw [List.getD_eq_getElem?_getD, List.getElem?_eq_getElem h]; exact List.getElem_mem h
theorem allB_use {l : List Int} {lo hi : Int} {most : Nat} (h : allB l lo hi most = true) : (∀ x ∈ l, lo ≤ x ∧ x ≤ hi) ∧ l.length ≤ most := by
  simp only [allB, Bool.and_eq_true, decide_eq_true_eq, List.all_eq_true] at h
  exact h
theorem RB.of {dss : List (List Dd)} {b : Bd} (h : boardB dss b = true) {N : Nat → Nat} {m : Nat} (hN : ∀ c, (b.nts.getD c []).length ≤ N c) (hm : ∀ p, (b.rws.getD p []).length ≤ m) : RB dss b N m := by
  simp only [boardB, shapeB, fillB, rowsBd, Bool.and_eq_true, decide_eq_true_eq] at h
  obtain ⟨⟨hw, h1, h2, h3, h4, h5⟩, ⟨h6, h7, p1, p2, p3, p4⟩, h8, h9⟩ := h
  refine ⟨hw, h1, h2, h3, h4, h5, h6, h7, (allB_use p1).1, (allB_use p2).1, (allB_use p3).1, (allB_use p4).1, fun p => ⟨hm p, ?_⟩, fun c => ⟨hN c, ?_⟩, fun c hc => ?_⟩
  · by_cases hp : p < 3
    · exact (allB_use (List.all_eq_true.1 h8 p (List.mem_range.2 hp))).1
    · rw [getD_none (by omega)]; simp
  · by_cases hc : c < dss.length
    · have := List.all_eq_true.1 h9 c (List.mem_range.2 hc)
      simp only [ckB, ntsB, ntB, Bool.and_eq_true, decide_eq_true_eq, List.all_eq_true] at this
      exact this.2.2
    · rw [getD_none (by omega)]; simp
  · have := List.all_eq_true.1 h9 c (List.mem_range.2 hc)
    simp only [ckB, Bool.and_eq_true, decide_eq_true_eq] at this
    exact this.1
theorem mem_set_of {α : Type} {l : List α} {i : Nat} {v x : α} (h : x ∈ l.set i v) : x ∈ l ∨ x = v := by
  rcases List.mem_or_eq_of_mem_set h with h | h
  · exact .inl h
  · exact .inr h
theorem mem_zip {rs : List Int} {ev v : Int} : ∀ {l : List Int} {x : Int}, x ∈ setR rs ev v l → x ∈ l ∨ x = v := by
  induction rs with
  | nil => intro l x h; simp [setR] at h
  | cons r t ih =>
    intro l x h
    cases l with
    | nil => simp [setR] at h
    | cons y z =>
      simp only [setR, List.zipWith_cons_cons, List.mem_cons] at h
      rcases h with h | h
      · split at h
        · exact .inr h
        · exact .inl (by rw [h]; simp)
      · rcases ih (l := z) (x := x) h with h | h
        · exact .inl (List.mem_cons_of_mem _ h)
        · exact .inr h
theorem RB.see {dss : List (List Dd)} {b : Bd} {N : Nat → Nat} {m : Nat} (h : RB dss b N m) (ev v f : Int) (hv : -1 ≤ v ∧ v ≤ 9) (hf : -1 ≤ f ∧ f ≤ ((eventsB dss).length : Int) - 1) : RB dss (seeM (idxB rdE (eventsB dss)) b ev v f) N m :=
  ⟨h.work, h.plc, h.lst, h.rws, h.nts, h.nxt, setR_len h.sn, setR_len h.fr, h.vp, h.vl, fun x hx => (mem_zip hx).elim (h.vs x) (fun e => e ▸ hv), fun x hx => (mem_zip hx).elim (h.vf x) (fun e => e ▸ hf), h.rl, h.nl, h.nx⟩
theorem RB.ink {dss : List (List Dd)} {b : Bd} {N : Nat → Nat} {m : Nat} (h : RB dss b N m) (p : Nat) (v ev : Int) (hv : 0 ≤ v ∧ v ≤ 9) (he : 0 ≤ ev ∧ ev ≤ ((eventsB dss).length : Int) - 1) : RB dss (inkM b p v ev) N (m + 1) := by
  refine ⟨h.work, by rw [← h.plc]; exact List.length_set, by rw [← h.lst]; exact List.length_set, by rw [← h.rws]; exact List.length_set, h.nts, h.nxt, h.sn, h.fr, fun x hx => (mem_set_of hx).elim (h.vp x) (fun e => e ▸ hv), fun x hx => (mem_set_of hx).elim (h.vl x) (fun e => e ▸ he), h.vs, h.vf, fun q => ?_, h.nl, h.nx⟩
  show ((b.rws.set p (b.rws.getD p [] ++ [ev])).getD q []).length ≤ m + 1 ∧ ∀ x ∈ (b.rws.set p (b.rws.getD p [] ++ [ev])).getD q [], _
  by_cases hp : p < b.rws.length
  · rw [getD_setL _ _ _ _ _ hp]
    by_cases e : p = q
    · rw [if_pos e]
      refine ⟨by have := (h.rl p).1; rw [List.length_append, List.length_singleton]; omega, fun x hx => ?_⟩
      rcases List.mem_append.1 hx with hx | hx
      · exact (h.rl p).2 x hx
      · rw [List.mem_singleton.1 hx]; exact he
    · rw [if_neg e]
      exact ⟨by have := (h.rl q).1; omega, (h.rl q).2⟩
  · rw [List.set_eq_of_length_le (by omega)]
    exact ⟨by have := (h.rl q).1; omega, (h.rl q).2⟩
theorem RB.note {dss : List (List Dd)} {b : Bd} {N N' : Nat → Nat} {m : Nat} (h : RB dss b N m) (c : Nat) (l : List Nt) (hl : ∀ x ∈ l, (0 ≤ x.1 ∧ x.1 ≤ 2) ∧ (0 ≤ x.2.1 ∧ x.2.1 ≤ 9) ∧ 0 ≤ x.2.2 ∧ x.2.2 ≤ ((eventsB dss).length : Int) - 1) (hn : l.length ≤ N' c) (hN : ∀ i, i ≠ c → N i ≤ N' i) (hc : c < dss.length) : RB dss { b with nts := b.nts.set c l } N' m := by
  refine ⟨h.work, h.plc, h.lst, h.rws, by rw [← h.nts]; exact List.length_set, h.nxt, h.sn, h.fr, h.vp, h.vl, h.vs, h.vf, h.rl, fun i => ?_, h.nx⟩
  show ((b.nts.set c l).getD i []).length ≤ N' i ∧ ∀ x ∈ (b.nts.set c l).getD i [], _
  rw [getD_setL _ _ _ _ _ (by rw [h.nts]; exact hc)]
  by_cases e : c = i
  · rw [if_pos e, ← e]
    exact ⟨hn, hl⟩
  · rw [if_neg e]
    exact ⟨Nat.le_trans (h.nl i).1 (hN i (Ne.symm e)), (h.nl i).2⟩
theorem RB.next {dss : List (List Dd)} {b : Bd} {N : Nat → Nat} {m : Nat} (h : RB dss b N m) (c : Nat) (x : Int) (hx : 0 ≤ x ∧ x ≤ ((dss.getD c []).length : Int)) : RB dss { b with nxt := b.nxt.set c x } N m := by
  refine ⟨h.work, h.plc, h.lst, h.rws, h.nts, by rw [← h.nxt]; exact List.length_set, h.sn, h.fr, h.vp, h.vl, h.vs, h.vf, h.rl, h.nl, fun i hi => ?_⟩
  show 0 ≤ (b.nxt.set c x).getD i 0 ∧ (b.nxt.set c x).getD i 0 ≤ _
  by_cases hc : c < b.nxt.length
  · rw [getD_setL _ _ _ _ _ hc]
    by_cases e : c = i
    · rw [if_pos e, ← e]; exact hx
    · rw [if_neg e]; exact h.nx i hi
  · rw [List.set_eq_of_length_le (by omega)]; exact h.nx i hi
theorem RB.more {dss : List (List Dd)} {b : Bd} {N N' : Nat → Nat} {m m' : Nat} (h : RB dss b N m) (hN : ∀ c, N c ≤ N' c) (hm : m ≤ m') : RB dss b N' m' :=
  ⟨h.work, h.plc, h.lst, h.rws, h.nts, h.nxt, h.sn, h.fr, h.vp, h.vl, h.vs, h.vf, fun p => ⟨Nat.le_trans (h.rl p).1 hm, (h.rl p).2⟩, fun c => ⟨Nat.le_trans (h.nl c).1 (hN c), (h.nl c).2⟩, h.nx⟩
theorem RB.rdg {dss : List (List Dd)} {b : Bd} {N : Nat → Nat} {m : Nat} (h : RB dss b N m) (c : Nat) {p : Nat} (hp : p < 3) : (0 ≤ (rdgM b c p).1 ∧ (rdgM b c p).1 ≤ 9) ∧ 0 ≤ (rdgM b c p).2 ∧ (rdgM b c p).2 ≤ ((eventsB dss).length : Int) - 1 := by
  unfold rdgM
  cases e : (b.nts.getD c []).reverse.find? (fun x => x.1 == (p : Int)) with
  | some x =>
    have hx := List.mem_reverse.1 (List.mem_of_find?_eq_some e)
    exact ((h.nl c).2 x hx).2
  | none => exact ⟨h.vp _ (getD_in (by rw [h.plc]; exact hp)), h.vl _ (getD_in (by rw [h.lst]; exact hp))⟩
theorem okD_vals {d : Dd} (h : okD d = true) : (0 ≤ d.2.2.1 ∧ d.2.2.1 ≤ 9) ∧ 0 ≤ d.2.2.2 := by
  obtain ⟨k, p, v, g⟩ := d
  simp only [okD, deedB, decide_eq_true_eq] at h
  show (0 ≤ v ∧ v ≤ 9) ∧ 0 ≤ g
  by_cases e : k = 2 ∨ k = 3
  · have := h.2.2.2.2.2.1 e; omega
  · have := h.2.2.2.2.2.2 e; omega
theorem deed_in {dss : List (List Dd)} (hb : workB dss = true) {c k : Nat} (hc : c < dss.length) (hk : k < (dss.getD c []).length) :
    (∃ p : Nat, p < 3 ∧ (dAt dss c k).2.1 = (p : Int)) ∧ (0 ≤ (dAt dss c k).2.2.1 ∧ (dAt dss c k).2.2.1 ≤ 9) ∧ ((dAt dss c k).1 = 1 ∨ (dAt dss c k).1 = 2 ∨ (dAt dss c k).1 = 3 ∨ (dAt dss c k).1 = 4) ∧ 0 ≤ gAt dss c k ∧
    ((dAt dss c k).1 ≠ 4 → 0 ≤ evM (eventsB dss) c k ∧ evM (eventsB dss) c k ≤ ((eventsB dss).length : Int) - 1) ∧ ((dAt dss c k).1 = 3 → evM (eventsB dss) c k + 1 ≤ ((eventsB dss).length : Int) - 1) := by
  have ho := okC_of hb hc k hk
  have hd := okD_kindE ho
  have hev : (dAt dss c k).1 ≠ 4 → ∀ i, i < numD (dAt dss c k) → 3 ≤ offN dss c k + i ∧ offN dss c k + i < (eventsB dss).length := fun h4 i hi => EvIs.lt hb ⟨hc, hk, hi, rfl⟩
  refine ⟨place_d hb hc hk, ?_, hd, ?_, fun h4 => ?_, fun h3 => ?_⟩
  · exact (okD_vals ho).1
  · exact (okD_vals ho).2
  · rw [evM_at hb hc hk h4]
    have := hev h4 0 (by unfold numD; rw [if_neg h4]; split <;> omega)
    omega
  · have h4 : (dAt dss c k).1 ≠ 4 := by omega
    rw [evM_at hb hc hk h4]
    have := hev h4 1 (by unfold numD; rw [if_neg h4, if_pos h3]; omega)
    omega
theorem RB.deed {dss : List (List Dd)} {b : Bd} {N : Nat → Nat} {m : Nat} (h : RB dss b N m) {c k : Nat} (hc : c < dss.length) (hk : k < (dss.getD c []).length) :
    RB dss (deedM dss (eventsB dss) b c k) (fun i => if i = c ∧ gAt dss c k = 0 then N i + 1 else N i) (m + 1) := by
  obtain ⟨⟨p, hp, ep⟩, hv, hd, hg, he, he3⟩ := deed_in h.work hc hk
  have hN : ∀ i, N i ≤ (fun i => if i = c ∧ gAt dss c k = 0 then N i + 1 else N i) i := fun i => by
    show N i ≤ if _ then _ else _
    split
    · exact Nat.le_succ _
    · exact Nat.le_refl _
  have hP : (dAt dss c k).2.1.toNat = p := by omega
  have hr := h.rdg c hp
  unfold deedM
  rw [hP]
  split
  · exact (h.see _ _ _ ⟨by omega, by omega⟩ ⟨by omega, by omega⟩).more hN (Nat.le_succ m)
  · rename_i h1
    split
    · rename_i h3
      have e1 := he (by omega)
      have e2 := he3 h3
      have q1 := h.vp _ (getD_in (z := 0) (show p < b.plc.length by rw [h.plc]; exact hp))
      have q2 := h.vl _ (getD_in (z := 0) (show p < b.lst.length by rw [h.lst]; exact hp))
      exact ((h.see _ _ _ ⟨by omega, by omega⟩ ⟨by omega, by omega⟩).ink p _ _ hv ⟨by omega, by omega⟩).more hN (Nat.le_refl _)
    · rename_i h3
      split
      · rename_i h2
        exact (h.ink p _ _ hv (he (by omega))).more hN (Nat.le_refl _)
      · rename_i h2
        split
        · rename_i h2'
          have g0 : gAt dss c k = 0 := by
            by_cases e : gAt dss c k = 0
            · exact e
            · exact absurd ⟨h2', by omega⟩ h2
          have e1 := he (by omega)
          refine (h.note (N' := fun i => if i = c ∧ gAt dss c k = 0 then N i + 1 else N i) c _ (fun x hx => ?_) ?_ (fun i _ => hN i) hc).more (fun _ => Nat.le_refl _) (Nat.le_succ m)
          · rcases List.mem_append.1 hx with hx | hx
            · exact (h.nl c).2 x hx
            · rw [List.mem_singleton.1 hx]
              exact ⟨⟨by show 0 ≤ (dAt dss c k).2.1; omega, by show (dAt dss c k).2.1 ≤ 2; omega⟩, hv, e1⟩
          · show _ ≤ if c = c ∧ gAt dss c k = 0 then N c + 1 else N c
            rw [if_pos ⟨rfl, g0⟩, List.length_append, List.length_singleton]
            have := (h.nl c).1
            omega
        · exact h.more hN (Nat.le_succ m)
theorem RB.one {dss : List (List Dd)} {b : Bd} {N : Nat → Nat} {m : Nat} (h : RB dss b N m) {c : Nat} (hc : c < dss.length) (hk : nxN b c < (dss.getD c []).length) :
    RB dss (oneM dss (eventsB dss) b c) (fun i => if i = c ∧ gAt dss c (nxN b c) = 0 then N i + 1 else N i) (m + 1) := by
  have h0 := h.nx c hc
  have hn : (nxN b c : Int) = b.nxt.getD c 0 := by unfold nxN; omega
  have := (h.deed hc hk).next c (b.nxt.getD c 0 + 1) ⟨by omega, by omega⟩
  rw [deed_nxt] at this
  exact this
theorem RB.go {dss : List (List Dd)} {c : Nat} (hc : c < dss.length) {g : Int} (hg : g ≠ 0) {N : Nat → Nat} : ∀ (k m : Nat) (b : Bd), RB dss b N m → nxN b c < (dss.getD c []).length → gAt dss c (nxN b c) = g → RB dss (goM dss (eventsB dss) g c k b) N (m + k)
  | 0, m, b, h, _, _ => by rw [goM]; exact h
  | k + 1, m, b, h, hk, e => by
    have h1 := h.one hc hk
    have hs : (fun i => if i = c ∧ gAt dss c (nxN b c) = 0 then N i + 1 else N i) = N := by
      funext i
      rw [if_neg (fun hh => hg (by rw [← e]; exact hh.2))]
    rw [hs] at h1
    rw [goM]
    split
    · exact h1.more (fun _ => Nat.le_refl _) (by omega)
    · rename_i hn
      have hx := h1.nx c hc
      have hz : ((nxN (oneM dss (eventsB dss) b c) c : Nat) : Int) = (oneM dss (eventsB dss) b c).nxt.getD c 0 := by unfold nxN; omega
      have := RB.go hc hg k (m + 1) _ h1 (by omega) (by
        by_cases e' : gAt dss c (nxN (oneM dss (eventsB dss) b c) c) = g
        · exact e'
        · exact absurd (.inr (.inr e')) hn)
      exact this.more (fun _ => Nat.le_refl _) (by omega)
theorem work_five {dss : List (List Dd)} (h : workB dss = true) {c : Nat} (hc : c < dss.length) : (dss.getD c []).length ≤ 5 := by
  simp only [workB, Bool.and_eq_true, List.all_eq_true] at h
  have := h.1.1.1.2 _ (getD_in (z := []) hc)
  simp only [okL, Bool.and_eq_true, decide_eq_true_eq] at this
  exact this.2
def plnD (d : Dd) : Bool := decide (d.2.2.2 = 0) && (decide (d.1 = 1) || decide (d.1 = 2))
end Go.Proofs.Ytgakfkjjkobpiaa
