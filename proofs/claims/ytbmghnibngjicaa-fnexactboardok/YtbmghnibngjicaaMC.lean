/- Gathered texts. -/
import Derived.Test.YtbmghnibngjicaaMB
set_option maxRecDepth 100000
set_option maxHeartbeats 8000000
namespace Go.Proofs.Ytbmghnibngjicaa
open Go.RowKit
theorem perm_of : ∀ {p b : List Int}, p.Nodup → (∀ x ∈ p, x ∈ b) → b.length ≤ p.length → p.Perm b
  | [], b, _, _, hl => by
    have : b = [] := List.eq_nil_of_length_eq_zero (by simpa using hl)
    subst this
    exact List.Perm.refl _
  | x :: t, b, hn, hs, hl => by
    have hx := hs x (by simp)
    rw [List.nodup_cons] at hn
    have hb : (b.erase x).length = b.length - 1 := List.length_erase_of_mem hx
    have ih := perm_of (p := t) (b := b.erase x) hn.2 (fun y hy => by
      have h1 := hs y (by simp [hy])
      exact (List.mem_erase_of_ne (fun e => hn.1 (by rw [← e]; exact hy))).2 h1) (by rw [hb]; simp only [List.length_cons] at hl; omega)
    exact (List.Perm.cons x ih).trans (List.perm_cons_erase hx).symm
theorem mem_isB {l : List Int} {n : Int} (h : n ∈ l) : isB l n = true := by
  unfold isB
  rw [List.any_eq_true]
  exact ⟨n, h, by simp⟩
theorem okP_perm {rows p : List Int} {at0 i : Nat} (hn : p.Nodup) (h : okP rows at0 p i = true) : at0 + p.length ≤ rows.length ∧ p.Perm ((rows.drop at0).take p.length) := by
  unfold okP at h
  simp only [Bool.and_eq_true, decide_eq_true_eq, List.all_eq_true] at h
  refine ⟨h.1.1, perm_of hn (fun x hx => isB_mem (h.2 x hx)) ?_⟩
  rw [List.length_take]
  omega
theorem plcW_nodup {es : List Ev} (hx : es.length ≤ 12) (p : Nat) : (plcW es p).Nodup := by
  unfold plcW idxB
  rw [if_pos hx]
  exact (idxK_rises _ _ _).imp (fun h e => by omega)
theorem plcW_mem {es : List Ev} (hx : es.length ≤ 12) {p : Nat} {x : Int} (h : x ∈ plcW es p) : (0 ≤ x ∧ x < (es.length : Int)) ∧ (es.getD x.toNat zE).2.2.2.1 = (p : Int) := by
  unfold plcW idxB at h
  rw [if_pos hx] at h
  have h1 := idxK_lt _ _ _ _ h
  have h2 := idxK_mem _ _ _ _ h
  unfold toE at h2
  simp only [Bool.and_eq_true, beq_iff_eq] at h2
  exact ⟨h1, h2.2⟩
theorem plcW_len {es : List Ev} (hx : es.length ≤ 12) (p : Nat) : (plcW es p).length ≤ 12 := by
  unfold plcW idxB
  rw [if_pos hx]
  have := idxK_len (toE (p : Int)) es es.length
  omega
def allW (es : List Ev) : List Int := plcW es 0 ++ plcW es 1 ++ plcW es 2
theorem allW_nodup {es : List Ev} (hx : es.length ≤ 12) : (allW es).Nodup := by
  have dis : ∀ {p q : Nat}, p ≠ q → ∀ a ∈ plcW es p, ∀ b ∈ plcW es q, a ≠ b := fun {p q} hpq a ha b hb e => by
    have h1 := (plcW_mem hx ha).2
    have h2 := (plcW_mem hx hb).2
    rw [e, h2] at h1
    omega
  unfold allW
  rw [List.nodup_append, List.nodup_append]
  refine ⟨⟨plcW_nodup hx 0, plcW_nodup hx 1, dis (by decide)⟩, plcW_nodup hx 2, fun a ha b hb => ?_⟩
  rcases List.mem_append.1 ha with h | h
  · exact dis (p := 0) (q := 2) (by decide) a h b hb
  · exact dis (p := 1) (q := 2) (by decide) a h b hb
theorem rows_perm {es : List Ev} {rows : List Int} (hx : es.length ≤ 12) (h : rowsL es rows = true) : (allW es).Perm rows := by
  unfold rowsL at h
  simp only [Bool.and_eq_true, decide_eq_true_eq] at h
  obtain ⟨⟨⟨h0, h1⟩, h2⟩, hl⟩ := h
  obtain ⟨l0, p0⟩ := okP_perm (plcW_nodup hx 0) h0
  obtain ⟨l1, p1⟩ := okP_perm (plcW_nodup hx 1) h1
  obtain ⟨l2, p2⟩ := okP_perm (plcW_nodup hx 2) h2
  have e : rows = rows.take (plcW es 0).length ++ (rows.drop (plcW es 0).length).take (plcW es 1).length ++ (rows.drop ((plcW es 0).length + (plcW es 1).length)).take (plcW es 2).length := by
    have t2 : (rows.drop ((plcW es 0).length + (plcW es 1).length)).take (plcW es 2).length = rows.drop ((plcW es 0).length + (plcW es 1).length) := List.take_of_length_le (by rw [List.length_drop]; omega)
    rw [t2, List.append_assoc, ← List.drop_drop, List.take_append_drop, List.take_append_drop]
  rw [List.drop_zero] at p0
  unfold allW
  rw [e]
  exact (p0.append p1).append p2
theorem rows_use {es : List Ev} {rows : List Int} (hx : es.length ≤ 12) (h : rowsL es rows = true) : rows.Nodup ∧ rows.length ≤ 36 ∧ ∀ i, i < rows.length → 0 ≤ rows.getD i 0 ∧ rows.getD i 0 < (es.length : Int) := by
  have hp := rows_perm hx h
  refine ⟨hp.nodup_iff.1 (allW_nodup hx), ?_, fun i hi => ?_⟩
  · rw [← hp.length_eq]
    unfold allW
    rw [List.length_append, List.length_append]
    have := plcW_len hx 0
    have := plcW_len hx 1
    have := plcW_len hx 2
    omega
  · have hm : rows.getD i 0 ∈ rows := by
      rw [List.getD_eq_getElem?_getD, List.getElem?_eq_getElem hi]
      exact List.getElem_mem hi
    have hm := hp.mem_iff.2 hm
    unfold allW at hm
    rcases List.mem_append.1 hm with hm | hm
    · rcases List.mem_append.1 hm with hm | hm
      · exact (plcW_mem hx hm).1
      · exact (plcW_mem hx hm).1
    · exact (plcW_mem hx hm).1
theorem okP_mk {A P C p : List Int} {i : Nat} (hl : P.length = p.length) (hp : P.Perm p) (h0 : 0 < p.length) (hi : P.getD 0 0 = (i : Int)) : okP (A ++ P ++ C) A.length p i = true := by
  unfold okP
  simp only [Bool.and_eq_true, decide_eq_true_eq, beq_iff_eq, List.all_eq_true]
  refine ⟨⟨by rw [List.length_append, List.length_append]; omega, ?_⟩, fun x hx => ?_⟩
  · rw [List.append_assoc, List.getD_eq_getElem?_getD, List.getElem?_append_right (Nat.le_refl _), Nat.sub_self, List.getElem?_append_left (by omega), ← List.getD_eq_getElem?_getD]
    exact hi
  · refine mem_isB ?_
    rw [List.append_assoc, List.drop_left, ← hl, List.take_left]
    exact hp.mem_iff.2 hx
theorem plcW_first {dss : List (List Dd)} (hb : workB dss = true) (p : Nat) (hp : p < 3) : 0 < (plcW (eventsB dss) p).length ∧ (plcW (eventsB dss) p).getD 0 0 = (p : Int) := by
  obtain ⟨h12, _, _, hf, _⟩ := events_law hb
  obtain ⟨r, hr⟩ := hf p hp
  unfold plcW idxB
  rw [eventsB, if_pos hb, if_pos h12, hr]
  exact ⟨by simp, rfl⟩
theorem eventsB_12 (dss : List (List Dd)) : (eventsB dss).length ≤ 12 := by
  unfold eventsB
  split
  · rename_i hb
    exact (events_law hb).1
  · simp
theorem workB_useR {dss : List (List Dd)} (h : workB dss = true) : dss.length ≤ 3 ∧ ∀ i, i < dss.length → okL (dss.getD i []) = true := by
  simp only [workB, Bool.and_eq_true, decide_eq_true_eq] at h
  obtain ⟨⟨⟨⟨h1, h2⟩, _⟩, _⟩, _⟩ := h
  exact ⟨h1.2, fun i hi => all_get [] h2 i hi⟩
theorem evsW_9 {dss : List (List Dd)} (h : workB dss = true) : (evsW dss dss.length).length ≤ 9 := by
  simp only [workB, Bool.and_eq_true, decide_eq_true_eq] at h
  obtain ⟨⟨⟨⟨_, h2⟩, _⟩, h4⟩, _⟩ := h
  have := evsW_len (fun i hi => all_get [] h2 i hi) dss.length (Nat.le_refl _)
  omega
def lenG {α : Type} : List (List α) → Nat
  | [] => 0
  | d :: r => d.length + lenG r
theorem lenG_app {α : Type} : ∀ (l r : List (List α)), lenG (l ++ r) = lenG l + lenG r
  | [], r => by simp [lenG]
  | d :: l, r => by rw [List.cons_append, lenG, lenG, lenG_app l r]; omega
theorem lenG_take {α : Type} (dss : List (List α)) (k : Nat) (h : k < dss.length) : lenG (dss.take (k + 1)) = lenG (dss.take k) + (dss.getD k []).length := by
  rw [List.take_add_one, List.getElem?_eq_getElem h, lenG_app, List.getD_eq_getElem?_getD, List.getElem?_eq_getElem h]
  simp [lenG]
theorem lenG_get {α : Type} : ∀ (dss : List (List α)) (i : Nat), i < dss.length → (dss.getD i []).length ≤ lenG dss
  | [], i, h => by simp at h
  | d :: r, 0, _ => by simp [lenG]
  | d :: r, i + 1, h => by
    have := lenG_get r i (by simpa using h)
    rw [lenG]
    simp only [List.getD_cons_succ]
    omega
def SumBd (dss : List (List Dd)) (b : Bd) : Prop := lenW dss ≤ 1048576 ∧ lenG b.nts ≤ 1048576 ∧ lenG b.rws ≤ 1048576
end Go.Proofs.Ytbmghnibngjicaa
