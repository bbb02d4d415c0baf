/- Gathered texts. -/
import Derived.Test.YtgakfkjjkobpiaaGreatMB
import Derived.Orders
set_option maxRecDepth 100000
set_option maxHeartbeats 8000000
namespace Go.Proofs.YtgakfkjjkobpiaaGreat
open Go.ChangeShapes Go.WideShapes Go.ChangeAt Go.RowKit
open Go.RowKit
structure LP (w0 wr : World) (x : Value) (es : List Ev) (P : List (Nat × Obj)) : Prop where
  app : AppE wr w0.heap.size x es
  keep : Keep w0 wr
  held : ∀ n o, (n, o) ∈ P → x.ownBlock ≠ some n ∧ wr.heap[n]? = some o
theorem LP.more {w0 wr wr' : World} {x : Value} {es : List Ev} {P : List (Nat × Obj)} (h : LP w0 wr x es P) (k : Keep wr wr') : LP w0 wr' x es P :=
  ⟨h.app.keep k, h.keep.trans k, fun n o hn => ⟨(h.held n o hn).1, (Below.block k n (Array.getElem?_eq_some_iff.1 (h.held n o hn).2).1).trans (h.held n o hn).2⟩⟩
theorem LP.add {w0 wr : World} {x : Value} {es : List Ev} {P : List (Nat × Obj)} (h : LP w0 wr x es P) (n : Nat) (o : Obj) (hx : x.ownBlock ≠ some n) (ho : wr.heap[n]? = some o) : LP w0 wr x es ((n, o) :: P) :=
  ⟨h.app, h.keep, fun m q hm => by
    rcases List.mem_cons.1 hm with e | e
    · injection e with e1 e2; subst e1 e2; exact ⟨hx, ho⟩
    · exact h.held m q e⟩
theorem LP.new {w0 wr : World} {x : Value} {es : List Ev} {P : List (Nat × Obj)} (h : LP w0 wr x es P) (o : Obj) : LP w0 (wr.alloc o) x es ((wr.heap.size, o) :: P) :=
  (h.more ((Keep.refl wr).alloc o)).add _ _ (fun e => by have := (h.app.lt _ e).2; omega) (heap_alloc_new wr o)
theorem LP.later {w0 wr wr' : World} {x : Value} {es : List Ev} {P : List (Nat × Obj)} (h : LP w0 wr x es P) (k : Keep wr wr') {B : Nat} {o : Obj} (hB : wr.heap.size ≤ B) (ho : wr'.heap[B]? = some o) : LP w0 wr' x es ((B, o) :: P) :=
  (h.more k).add _ _ (fun e => by have := (h.app.lt _ e).2; omega) ho
theorem LP.less {w0 wr : World} {x : Value} {es : List Ev} {P Q : List (Nat × Obj)} (h : LP w0 wr x es P) (hs : ∀ y, y ∈ Q → y ∈ P) : LP w0 wr x es Q :=
  ⟨h.app, h.keep, fun n o hn => h.held n o (hs _ hn)⟩
theorem LP.hit {w0 wr w' : World} {x v' : Value} {es : List Ev} {P : List (Nat × Obj)} (h : LP w0 wr x es P) (e : Ev)
    (ho : w'.ownsRow w0.heap.size 89 6 v' (es.length + 1) (es.flatMap cE ++ cE e)) (hg : wr.grownBy w' x.ownBlock) (hb : v'.ownBlock = x.ownBlock ∨ v'.ownBlock = some wr.heap.size) : LP w0 w' v' (es ++ [e]) P := by
  refine ⟨appT_hit ho, h.keep.grown hg h.app.ge, fun n o hn => ?_⟩
  obtain ⟨h1, h2⟩ := h.held n o hn
  have hlt := (Array.getElem?_eq_some_iff.1 h2).1
  refine ⟨fun e => ?_, (hg.block n hlt (fun e => h1 e.symm)).trans h2⟩
  rcases hb with hb | hb
  · exact h1 (hb ▸ e)
  · rw [hb] at e; have := Option.some.inj e; omega
theorem LP.lt {w0 wr : World} {x : Value} {es : List Ev} {P : List (Nat × Obj)} (h : LP w0 wr x es P) {n : Nat} {o : Obj} (hn : (n, o) ∈ P) : n < wr.heap.size := (Array.getElem?_eq_some_iff.1 (h.held n o hn).2).1
theorem LP.cell {w0 wr : World} {x : Value} {es : List Ev} {P : List (Nat × Obj)} (h : LP w0 wr x es P) {n : Nat} {cs : Array Value} {t : TypeId} (hn : (n, .cells cs t) ∈ P) (i : Nat) : wr.cell? ⟨n, i, none⟩ = cs[i]? :=
  cell_of_row wr n i cs t (0, 0) (h.held n _ hn).2
theorem app_base {w : World} {base base' : Nat} {v : Value} {es : List Ev} (h : AppE w base v es) (hb : base' ≤ base) : AppE w base' v es := by
  refine ⟨h.1, ?_⟩
  rcases h.2 with h | ⟨g, cap, cur, hv, hg, rest⟩
  · exact .inl h
  · exact .inr ⟨g, cap, cur, hv, Nat.le_trans hb hg, rest⟩
abbrev eO (i k : Int) (r : Bool) (p v c : Int) : Obj := .cells #[.int .i64 i, .int .i64 k, .bool r, .int .i64 p, .int .i64 v, .int .i64 c] 89
theorem cE_oneP (e : Ev) : ∀ u ∈ cE e, u.oneCell' = true := by
  intro u hu
  simp only [cE, List.mem_cons, List.not_mem_nil, or_false] at hu
  rcases hu with rfl | rfl | rfl | rfl | rfl | rfl <;> rfl
theorem cE_newP (w : World) (n : Nat) (hn : w.heap.size = n) (i q : Int) (r : Bool) (pl vl c : Int) : ∀ j u, (cE (i, q, r, pl, vl, c))[j]? = some u → (w.alloc (eO i q r pl vl c)).cell? ((⟨n, 0, none⟩ : Addr).add j) = some u := by
  subst hn
  intro j u hj
  match j, hj with
  | 0, hj => simp [cE] at hj; subst hj; simp [Addr.add]
  | 1, hj => simp [cE] at hj; subst hj; simp [Addr.add]
  | 2, hj => simp [cE] at hj; subst hj; simp [Addr.add]
  | 3, hj => simp [cE] at hj; subst hj; simp [Addr.add]
  | 4, hj => simp [cE] at hj; subst hj; simp [Addr.add]
  | 5, hj => simp [cE] at hj; subst hj; simp [Addr.add]
def tstE (f : Ev → Bool) (es : List Ev) (k : Nat) : Bool := decide (k < es.length) && f (es.getD k zE)
def chK (f : Ev → Bool) (es : List Ev) : Nat → List Int
  | 0 => []
  | k + 1 => if tstE f es k = true then chK f es k ++ [(k : Int)] else chK f es k
theorem chK_min (f : Ev → Bool) (es : List Ev) : ∀ k, chK f es k = idxK f es (min k es.length)
  | 0 => by simp [chK, idxK]
  | k + 1 => by
    rw [chK, chK_min f es k]
    by_cases h : k < es.length
    · rw [show min (k + 1) es.length = k + 1 by omega, show min k es.length = k by omega, idxK]
      simp [tstE, h]
    · rw [show min (k + 1) es.length = min k es.length by omega]
      simp [tstE, h]
theorem chK_all (f : Ev → Bool) (es : List Ev) (k : Nat) (h : es.length ≤ k) : chK f es k = idxK f es es.length := by
  rw [chK_min, Nat.min_eq_right h]
theorem chK_len (f : Ev → Bool) (es : List Ev) (k : Nat) : (chK f es k).length ≤ k := by
  rw [chK_min]
  have := idxK_len f es (min k es.length)
  omega
theorem idxB_len (f : Ev → Bool) (es : List Ev) : (idxB f es).length ≤ 12 := by
  unfold idxB
  split
  · have := idxK_len f es es.length; omega
  · simp
theorem nodup_get {l : List Int} (hn : l.Nodup) {p q : Nat} (hp : p < l.length) (hq : q < l.length) (e : l.getD p 0 = l.getD q 0) : p = q := by
  rw [List.getD_eq_getElem?_getD, List.getElem?_eq_getElem hp, List.getD_eq_getElem?_getD, List.getElem?_eq_getElem hq] at e
  exact (List.getElem_inj hn).1 e
def plcW (es : List Ev) (p : Nat) : List Int := idxB (toE (p : Int)) es
def okP (rows : List Int) (at0 : Nat) (p : List Int) (i : Nat) : Bool := decide (at0 + p.length ≤ rows.length) && (rows.getD at0 0 == (i : Int)) && p.all (fun x => isB ((rows.drop at0).take p.length) x)
def rowsL (es : List Ev) (rows : List Int) : Bool :=
  okP rows 0 (plcW es 0) 0 && okP rows (plcW es 0).length (plcW es 1) 1 && okP rows ((plcW es 0).length + (plcW es 1).length) (plcW es 2) 2 && decide ((plcW es 0).length + (plcW es 1).length + (plcW es 2).length = rows.length)
def rowsB (dss : List (List Dd)) (rows : List Int) : Bool := workB dss && rowsL (eventsB dss) rows
theorem place_in {dss : List (List Dd)} (h : workB dss = true) (j : Nat) (hj : j < (evsW dss dss.length).length) : 0 ≤ ((evsW dss dss.length).getD j zE).2.2.2.1 ∧ ((evsW dss dss.length).getD j zE).2.2.2.1 ≤ 2 := by
  simp only [workB, Bool.and_eq_true, decide_eq_true_eq] at h
  obtain ⟨⟨⟨⟨_, h2⟩, _⟩, _⟩, _⟩ := h
  have hok : ∀ i, i < dss.length → okL (dss.getD i []) = true := fun i hi => all_get [] h2 i hi
  obtain ⟨⟨t, ht⟩, hg⟩ := evs_good hok dss.length (Nat.le_refl _)
  by_cases hj3 : 3 ≤ j
  · exact good_place hok (hg j hj3 hj)
  · obtain ⟨b0, b1, b2⟩ := beg_get ht
    have : j = 0 ∨ j = 1 ∨ j = 2 := by omega
    rcases this with rfl | rfl | rfl
    · rw [b0]; decide
    · rw [b1]; decide
    · rw [b2]; decide
def fwK (n : Nat) (rs f : List Int) : Nat → List Int
  | 0 => List.replicate n 0
  | k + 1 => (fwK n rs f k).set (f.getD k 0).toNat (gAdd ((fwK n rs f k).getD (f.getD k 0).toNat 0) (rs.getD k 0))
def fwL (es : List Ev) (f : List Int) : List Int := fwK es.length (idxB rdE es) f (idxB rdE es).length
theorem fw_line {n : Nat} {rs f : List Int} (hn : n ≤ 12) : ∀ k : Nat, (∀ i, i < k → 0 ≤ rs.getD i 0 ∧ rs.getD i 0 < (n : Int)) → (∀ i, i < k → 0 ≤ f.getD i 0 ∧ f.getD i 0 < (n : Int)) →
    Web n (fwK n rs f k) ∧ ∀ a j : Nat, a < n → (line (fwK n rs f k) a j = true ↔ ∃ i, i < k ∧ f.getD i 0 = (a : Int) ∧ rs.getD i 0 = (j : Int))
  | 0, _, _ => ⟨Web.zero hn, fun a j _ => by rw [fwK, line_zero]; simp⟩
  | k + 1, hr, hf => by
    obtain ⟨h1, h2⟩ := fw_line hn k (fun i hi => hr i (by omega)) (fun i hi => hf i (by omega))
    obtain ⟨a0, ha0⟩ := Int.eq_ofNat_of_zero_le (hf k (by omega)).1
    obtain ⟨j0, hj0⟩ := Int.eq_ofNat_of_zero_le (hr k (by omega)).1
    have ha : a0 < n := by have := (hf k (by omega)).2; omega
    have hj : j0 < n := by have := (hr k (by omega)).2; omega
    rw [fwK, ha0, hj0, Int.toNat_natCast]
    have hg := ok_add (h1.2.2 a0 ha) hj
    refine ⟨h1.set hg.1, fun a j haa => ?_⟩
    unfold line
    rw [getD_set _ _ _ _ (by rw [h1.2.1]; exact ha)]
    by_cases e : a0 = a
    · subst e
      rw [if_pos rfl, hg.2 j, Bool.or_eq_true, decide_eq_true_eq]
      have := h2 a0 j haa
      unfold line at this
      rw [this]
      constructor
      · rintro (⟨i, hi, h⟩ | rfl)
        · exact ⟨i, by omega, h⟩
        · exact ⟨k, by omega, ha0, hj0⟩
      · rintro ⟨i, hi, h3, h4⟩
        by_cases e2 : i = k
        · subst e2; right; rw [hj0] at h4; omega
        · exact .inl ⟨i, by omega, h3, h4⟩
    · rw [if_neg e]
      have := h2 a j haa
      unfold line at this
      rw [this]
      constructor
      · rintro ⟨i, hi, h⟩
        exact ⟨i, by omega, h⟩
      · rintro ⟨i, hi, h3, h4⟩
        by_cases e2 : i = k
        · subst e2; rw [ha0] at h3; omega
        · exact ⟨i, by omega, h3, h4⟩
theorem isB_mem {l : List Int} {n : Int} (h : isB l n = true) : n ∈ l := by
  unfold isB at h
  rw [List.any_eq_true] at h
  obtain ⟨x, hx, e⟩ := h
  rw [beq_iff_eq] at e
  rw [← e]; exact hx
theorem idxK_mem (f : Ev → Bool) (l : List Ev) : ∀ (k : Nat) (x : Int), x ∈ idxK f l k → f (l.getD x.toNat zE) = true
  | 0, x, h => by simp [idxK] at h
  | k + 1, x, h => by
    rw [idxK] at h
    split at h
    · rename_i hf
      rcases List.mem_append.1 h with h | h
      · exact idxK_mem f l k x h
      · simp only [List.mem_cons, List.not_mem_nil, or_false] at h
        rw [h, Int.toNat_natCast]; exact hf
    · exact idxK_mem f l k x h
theorem src_use {es : List Ev} {f : List Int} (hx : es.length ≤ 12) (h : srcB (chcL es) f = true) : (idxB rdE es).length = f.length ∧
    ∀ i, i < (idxB rdE es).length → (0 ≤ f.getD i 0 ∧ f.getD i 0 < (es.length : Int)) ∧ (es.getD (f.getD i 0).toNat zE).2.2.2.1 = plE es ((idxB rdE es).getD i 0) := by
  unfold srcB at h
  rw [Bool.and_eq_true, decide_eq_true_eq] at h
  obtain ⟨h1, h2⟩ := h
  have hc : (chcL es).length = (idxB rdE es).length := chcK_len _ _ _
  refine ⟨by omega, fun i hi => ?_⟩
  have h3 := (srcK_iff (chcL es).length).1 h2 i (by omega)
  unfold chcL at h3
  rw [chcK_get _ _ _ _ hi] at h3
  have h4 := isB_mem h3
  unfold idxB at h4
  rw [if_pos hx] at h4
  have h5 := idxK_lt _ _ _ _ h4
  have h6 := idxK_mem _ _ _ _ h4
  refine ⟨h5, ?_⟩
  unfold toE at h6
  simp only [Bool.and_eq_true, beq_iff_eq] at h6
  rw [h6.2]
  unfold idxB
  rw [if_pos hx]
theorem perm_of : ∀ {p b : List Int}, p.Nodup → (∀ x ∈ p, x ∈ b) → b.length ≤ p.length → p.Perm b
  | [], b, _, _, hl => by
    have : b = [] := List.eq_nil_of_length_eq_zero (by simpa using hl)
    subst this
    exact List.Perm.refl _
  | x :: t, b, hn, hs, hl => by
    have hx := hs x (by simp)
    rw [List.nodup_cons] at hn
    have hb : (b.erase x).length = b.length - 1 := List.length_erase_of_mem hx
    have ih := perm_of (p := t) (b := b.erase x) hn.2 (fun y hy => by
      have h1 := hs y (by simp [hy])
      exact (List.mem_erase_of_ne (fun e => hn.1 (by rw [← e]; exact hy))).2 h1) (by rw [hb]; simp only [List.length_cons] at hl; omega)
    exact (List.Perm.cons x ih).trans (List.perm_cons_erase hx).symm
theorem mem_isB {l : List Int} {n : Int} (h : n ∈ l) : isB l n = true := by
  unfold isB
  rw [List.any_eq_true]
  exact ⟨n, h, by simp⟩
theorem okP_perm {rows p : List Int} {at0 i : Nat} (hn : p.Nodup) (h : okP rows at0 p i = true) : at0 + p.length ≤ rows.length ∧ p.Perm ((rows.drop at0).take p.length) := by
  unfold okP at h
  simp only [Bool.and_eq_true, decide_eq_true_eq, List.all_eq_true] at h
  refine ⟨h.1.1, perm_of hn (fun x hx => isB_mem (h.2 x hx)) ?_⟩
  rw [List.length_take]
  omega
theorem plcW_nodup {es : List Ev} (hx : es.length ≤ 12) (p : Nat) : (plcW es p).Nodup := by
  unfold plcW idxB
  rw [if_pos hx]
  exact (idxK_rises _ _ _).imp (fun h e => by omega)
theorem plcW_mem {es : List Ev} (hx : es.length ≤ 12) {p : Nat} {x : Int} (h : x ∈ plcW es p) : (0 ≤ x ∧ x < (es.length : Int)) ∧ (es.getD x.toNat zE).2.2.2.1 = (p : Int) := by
  unfold plcW idxB at h
  rw [if_pos hx] at h
  have h1 := idxK_lt _ _ _ _ h
  have h2 := idxK_mem _ _ _ _ h
  unfold toE at h2
  simp only [Bool.and_eq_true, beq_iff_eq] at h2
  exact ⟨h1, h2.2⟩
theorem plcW_len {es : List Ev} (hx : es.length ≤ 12) (p : Nat) : (plcW es p).length ≤ 12 := by
  unfold plcW idxB
  rw [if_pos hx]
  have := idxK_len (toE (p : Int)) es es.length
  omega
def allW (es : List Ev) : List Int := plcW es 0 ++ plcW es 1 ++ plcW es 2
theorem allW_nodup {es : List Ev} (hx : es.length ≤ 12) : (allW es).Nodup := by
  have dis : ∀ {p q : Nat}, p ≠ q → ∀ a ∈ plcW es p, ∀ b ∈ plcW es q, a ≠ b := fun {p q} hpq a ha b hb e => by
    have h1 := (plcW_mem hx ha).2
    have h2 := (plcW_mem hx hb).2
    rw [e, h2] at h1
    omega
  unfold allW
  rw [List.nodup_append, List.nodup_append]
  refine ⟨⟨plcW_nodup hx 0, plcW_nodup hx 1, dis (by decide)⟩, plcW_nodup hx 2, fun a ha b hb => ?_⟩
  rcases List.mem_append.1 ha with h | h
  · exact dis (p := 0) (q := 2) (by decide) a h b hb
  · exact dis (p := 1) (q := 2) (by decide) a h b hb
theorem rows_perm {es : List Ev} {rows : List Int} (hx : es.length ≤ 12) (h : rowsL es rows = true) : (allW es).Perm rows := by
  unfold rowsL at h
  simp only [Bool.and_eq_true, decide_eq_true_eq] at h
  obtain ⟨⟨⟨h0, h1⟩, h2⟩, hl⟩ := h
  obtain ⟨l0, p0⟩ := okP_perm (plcW_nodup hx 0) h0
  obtain ⟨l1, p1⟩ := okP_perm (plcW_nodup hx 1) h1
  obtain ⟨l2, p2⟩ := okP_perm (plcW_nodup hx 2) h2
  have e : rows = rows.take (plcW es 0).length ++ (rows.drop (plcW es 0).length).take (plcW es 1).length ++ (rows.drop ((plcW es 0).length + (plcW es 1).length)).take (plcW es 2).length := by
    have t2 : (rows.drop ((plcW es 0).length + (plcW es 1).length)).take (plcW es 2).length = rows.drop ((plcW es 0).length + (plcW es 1).length) := List.take_of_length_le (by rw [List.length_drop]; omega)
    rw [t2, List.append_assoc, ← List.drop_drop, List.take_append_drop, List.take_append_drop]
  rw [List.drop_zero] at p0
  unfold allW
  rw [e]
  exact (p0.append p1).append p2
theorem rows_use {es : List Ev} {rows : List Int} (hx : es.length ≤ 12) (h : rowsL es rows = true) : rows.Nodup ∧ rows.length ≤ 36 ∧ ∀ i, i < rows.length → 0 ≤ rows.getD i 0 ∧ rows.getD i 0 < (es.length : Int) := by
  have hp := rows_perm hx h
  refine ⟨hp.nodup_iff.1 (allW_nodup hx), ?_, fun i hi => ?_⟩
  · rw [← hp.length_eq]
    unfold allW
    rw [List.length_append, List.length_append]
    have := plcW_len hx 0
    have := plcW_len hx 1
    have := plcW_len hx 2
    omega
  · have hm : rows.getD i 0 ∈ rows := by
      rw [List.getD_eq_getElem?_getD, List.getElem?_eq_getElem hi]
      exact List.getElem_mem hi
    have hm := hp.mem_iff.2 hm
    unfold allW at hm
    rcases List.mem_append.1 hm with hm | hm
    · rcases List.mem_append.1 hm with hm | hm
      · exact (plcW_mem hx hm).1
      · exact (plcW_mem hx hm).1
    · exact (plcW_mem hx hm).1
theorem okP_mk {A P C p : List Int} {i : Nat} (hl : P.length = p.length) (hp : P.Perm p) (h0 : 0 < p.length) (hi : P.getD 0 0 = (i : Int)) : okP (A ++ P ++ C) A.length p i = true := by
  unfold okP
  simp only [Bool.and_eq_true, decide_eq_true_eq, beq_iff_eq, List.all_eq_true]
  refine ⟨⟨by rw [List.length_append, List.length_append]; omega, ?_⟩, fun x hx => ?_⟩
  · rw [List.append_assoc, List.getD_eq_getElem?_getD, List.getElem?_append_right (Nat.le_refl _), Nat.sub_self, List.getElem?_append_left (by omega), ← List.getD_eq_getElem?_getD]
    exact hi
  · refine mem_isB ?_
    rw [List.append_assoc, List.drop_left, ← hl, List.take_left]
    exact hp.mem_iff.2 hx
theorem plcW_first {dss : List (List Dd)} (hb : workB dss = true) (p : Nat) (hp : p < 3) : 0 < (plcW (eventsB dss) p).length ∧ (plcW (eventsB dss) p).getD 0 0 = (p : Int) := by
  obtain ⟨h12, _, _, hf, _⟩ := events_law hb
  obtain ⟨r, hr⟩ := hf p hp
  unfold plcW idxB
  rw [eventsB, if_pos hb, if_pos h12, hr]
  exact ⟨by simp, rfl⟩
theorem eventsB_12 (dss : List (List Dd)) : (eventsB dss).length ≤ 12 := by
  unfold eventsB
  split
  · rename_i hb
    exact (events_law hb).1
  · simp
theorem workB_useR {dss : List (List Dd)} (h : workB dss = true) : dss.length ≤ 3 ∧ ∀ i, i < dss.length → okL (dss.getD i []) = true := by
  simp only [workB, Bool.and_eq_true, decide_eq_true_eq] at h
  obtain ⟨⟨⟨⟨h1, h2⟩, _⟩, _⟩, _⟩ := h
  exact ⟨h1.2, fun i hi => all_get [] h2 i hi⟩
theorem evsW_9 {dss : List (List Dd)} (h : workB dss = true) : (evsW dss dss.length).length ≤ 9 := by
  simp only [workB, Bool.and_eq_true, decide_eq_true_eq] at h
  obtain ⟨⟨⟨⟨_, h2⟩, _⟩, h4⟩, _⟩ := h
  have := evsW_len (fun i hi => all_get [] h2 i hi) dss.length (Nat.le_refl _)
  omega
theorem board_all {dss : List (List Dd)} {b : Bd} (h : boardB dss b = true) : workB dss = true ∧ b.plc.length = 3 ∧ b.lst.length = 3 ∧ b.rws.length = 3 ∧ b.nts.length = dss.length ∧ b.nxt.length = dss.length ∧ b.sn.length ≤ 12 ∧ b.fr.length ≤ 12 ∧ (∀ i, i < 3 → (b.rws.getD i []).length ≤ 20) ∧ ∀ i, i < dss.length → (b.nts.getD i []).length ≤ 8 := by
  unfold boardB shapeB fillB rowsBd at h
  simp only [Bool.and_eq_true, decide_eq_true_eq] at h
  obtain ⟨⟨h1, h2, h3, h4, h5, h6⟩, ⟨_, _, _, _, h7, h8⟩, h9, h10⟩ := h
  unfold allB at h7 h8
  simp only [Bool.and_eq_true, decide_eq_true_eq] at h7 h8
  refine ⟨h1, h2, h3, h4, h5, h6, h7.2, h8.2, fun i hi => ?_, fun i hi => ?_⟩
  · have := List.all_eq_true.1 h9 i (List.mem_range.2 hi)
    unfold allB at this
    simp only [Bool.and_eq_true, decide_eq_true_eq] at this
    exact this.2
  · have := List.all_eq_true.1 h10 i (List.mem_range.2 hi)
    unfold ckB at this
    simp only [Bool.and_eq_true, decide_eq_true_eq] at this
    exact this.2.1
theorem work_small {dss : List (List Dd)} (h : workB dss = true) : dss.length ≤ 3 ∧ ∀ i, i < dss.length → (dss.getD i []).length ≤ 1048576 := by
  obtain ⟨h1, h2⟩ := workB_useR h
  refine ⟨h1, fun i hi => ?_⟩
  have hq := h2 i hi
  unfold okL at hq
  rw [Bool.and_eq_true, decide_eq_true_eq] at hq
  omega
def rdgB (dss : List (List Dd)) (b : Bd) (c p : Int) : Int × Int :=
  if boardB dss b = true ∧ 0 ≤ c ∧ c < (dss.length : Int) ∧ 0 ≤ p ∧ p ≤ 2 then rdgM b c.toNat p.toNat else (-1, -1)
def seenK (ns : List Nt) (p : Int) (y : Nt) (k : Nat) : Nt := ((ns.take k).reverse.find? (fun x => x.1 == p)).getD y
theorem seenK_more (ns : List Nt) (p : Int) (y : Nt) (k : Nat) (h : k < ns.length) : seenK ns p y (k + 1) = if (ns.getD k (0, 0, 0)).1 = p then ns.getD k (0, 0, 0) else seenK ns p y k := by
  have e : ns.take (k + 1) = ns.take k ++ [ns.getD k (0, 0, 0)] := by
    rw [List.take_add_one, List.getD_eq_getElem?_getD, List.getElem?_eq_getElem h]; rfl
  unfold seenK
  rw [e, List.reverse_append]
  simp only [List.reverse_cons, List.reverse_nil, List.nil_append, List.cons_append, List.find?_cons]
  by_cases q : (ns.getD k (0, 0, 0)).1 = p
  · rw [if_pos q]
    have : ((ns.getD k (0, 0, 0)).1 == p) = true := by simpa using q
    rw [this]; rfl
  · rw [if_neg q]
    have : ((ns.getD k (0, 0, 0)).1 == p) = false := by simpa using q
    rw [this]
theorem seenK_all (b : Bd) (c p : Nat) : (seenK (b.nts.getD c []) (p : Int) ((p : Int), b.plc.getD p 0, b.lst.getD p 0) (b.nts.getD c []).length).2 = rdgM b c p := by
  unfold seenK rdgM
  rw [List.take_length]
  cases (b.nts.getD c []).reverse.find? (fun x => x.1 == (p : Int)) <;> rfl
def shownB (dss : List (List Dd)) (b : Bd) : List Int := if boardB dss b = true then b.sn ++ b.plc else []
def endZ (dss : List (List Dd)) (b : Bd) : Bool := (List.range dss.length).all (fun c => decide (((dss.getD c []).length : Int) ≤ b.nxt.getD c 0) && (b.nts.getD c []).isEmpty)
def endedB (dss : List (List Dd)) (b : Bd) : Bool := boardB dss b && endZ dss b
section
section
variable {P : Program} {ops : Array Oper} {Q : Exit → Act → World → Prop} {md : Region.Mode}
def leftN (listed : Array Bool) : Nat := listed.toList.countP (fun b => !b)
theorem count_set : ∀ (l : List Bool) (i : Nat), l[i]? = some false → (l.set i true).countP (fun b => !b) + 1 = l.countP (fun b => !b)
  | [], i, h => by simp at h
  | x :: r, 0, h => by
    simp at h
    subst h
    simp
  | x :: r, i + 1, h => by
    have ih := count_set r i (by simpa using h)
    rw [List.set_cons_succ, List.countP_cons, List.countP_cons]
    omega
theorem leftN_set {listed : Array Bool} {i : Nat} (h : listed[i]? = some false) : leftN (listed.setIfInBounds i true) + 1 = leftN listed := by
  unfold leftN
  rw [Array.toList_setIfInBounds]
  exact count_set _ _ (by rw [Array.getElem?_toList]; exact h)
theorem ready_use {listed : Array Bool} {i : Nat} (h : i ∈ Region.ready md ops listed) : i < ops.size ∧ listed[i]? = some false ∧ ∀ o, ops[i]? = some o → o.after.all (fun e => !Region.binds md e || listed.getD e.on false) = true := by
  unfold Region.ready at h
  rw [List.mem_filter, List.mem_range] at h
  obtain ⟨h1, h2⟩ := h
  simp only [Bool.and_eq_true, Bool.not_eq_true'] at h2
  refine ⟨h1, ?_, fun o ho => ?_⟩
  · have h3 := h2.1
    rw [Array.getD_eq_getD_getElem?] at h3
    cases e : listed[i]? with
    | none => rw [e] at h3; cases h3
    | some b => rw [e] at h3; simp at h3; rw [h3]
  · have h3 := h2.2
    rw [ho] at h3
    simpa using h3
theorem wpAny_inv (J : Array Bool → Act → World → Prop)
    (step : ∀ listed a w, J listed a w → ∀ i, i ∈ Region.ready md ops listed → wpOp P ops Q i (fun a' w' => J (listed.setIfInBounds i true) a' w') a w)
    (done : ∀ listed a w, J listed a w → Region.ready md ops listed = [] → Q .normal a w) :
    ∀ (fuel : Nat) (listed : Array Bool) (a : Act) (w : World), leftN listed ≤ fuel → J listed a w → wpAny P md ops Q fuel listed a w
  | 0, listed, a, w, hl, hJ => by
    have hr : Region.ready md ops listed = [] := by
      cases h : Region.ready md ops listed with
      | nil => rfl
      | cons i r =>
        exfalso
        have h2 := (ready_use (md := md) (ops := ops) (listed := listed) (i := i) (by rw [h]; simp)).2.1
        have := leftN_set h2
        omega
    exact ⟨hr, done listed a w hJ hr⟩
  | fuel + 1, listed, a, w, hl, hJ => by
    refine ⟨fun hr => done listed a w hJ hr, fun i hi => ?_⟩
    refine wpOp_mono (fun a' w' hJ' => wpAny_inv J step done fuel _ a' w' ?_ hJ') (step listed a w hJ i hi)
    have := leftN_set (ready_use hi).2.1
    omega
theorem leftN_none (n : Nat) : leftN (Array.replicate n false) = n := by
  unfold leftN
  rw [Array.toList_replicate]
  simp [List.countP_replicate]
theorem wp_region_inv {id : Nat} {a : Act} {w : World} (hm : P.follows .mixedOrders = true) (J : Array Bool → Act → World → Prop)
    (start : J (Array.replicate ops.size false) a w.drew)
    (step : ∀ listed a w, J listed a w → ∀ i, i ∈ Region.ready .any ops listed → wpOp P ops Q i (fun a' w' => J (listed.setIfInBounds i true) a' w') a w)
    (done : ∀ listed a w, J listed a w → Region.ready .any ops listed = [] → Q .normal a w) : (Code.region id ops true).wp P Q a w :=
  wp_region_any hm (wpAny_inv J step done ops.size _ a _ (by rw [leftN_none]; exact Nat.le_refl _) start)
end
end
def rwP (es : List Ev) (rows : List Int) (i k : Nat) : Bool := decide (i < k) && (plE es (rows.getD i 0) == plE es (rows.getD k 0))
def rwIn (es : List Ev) (rows : List Int) (i : Nat) (st : List Int) : Nat → List Int
  | 0 => st
  | k + 1 => if rwP es rows i k = true then (rwIn es rows i st k).set (rows.getD i 0).toNat (gAdd ((rwIn es rows i st k).getD (rows.getD i 0).toNat 0) (rows.getD k 0)) else rwIn es rows i st k
def rwAll (es : List Ev) (rows : List Int) : Nat → List Int
  | 0 => List.replicate es.length 0
  | i + 1 => rwIn es rows i (rwAll es rows i) rows.length
def rwL (es : List Ev) (rows : List Int) : List Int := rwAll es rows rows.length
theorem rwIn_hit {es : List Ev} {rows : List Int} {i k : Nat} (st : List Int) (h : rwP es rows i k = true) : rwIn es rows i st (k + 1) = (rwIn es rows i st k).set (rows.getD i 0).toNat (gAdd ((rwIn es rows i st k).getD (rows.getD i 0).toNat 0) (rows.getD k 0)) := if_pos h
theorem rwIn_miss {es : List Ev} {rows : List Int} {i k : Nat} (st : List Int) (h : rwP es rows i k = false) : rwIn es rows i st (k + 1) = rwIn es rows i st k := if_neg (by simp [h])
theorem web_rwIn {es : List Ev} {rows : List Int} {n i : Nat} {st : List Int} (hr : ∀ j, j < rows.length → 0 ≤ rows.getD j 0 ∧ rows.getD j 0 < (n : Int)) (hi : i < rows.length) (hst : Web n st) : ∀ m : Nat, m ≤ rows.length →
    Web n (rwIn es rows i st m) ∧ ∀ a b : Nat, a < n → (line (rwIn es rows i st m) a b = true ↔ line st a b = true ∨ ∃ q, q < m ∧ rwP es rows i q = true ∧ rows.getD i 0 = (a : Int) ∧ rows.getD q 0 = (b : Int))
  | 0, _ => ⟨hst, fun a b _ => by simp [rwIn]⟩
  | m + 1, hm => by
    obtain ⟨h1, h2⟩ := web_rwIn (es := es) hr hi hst m (by omega)
    cases hp : rwP es rows i m with
    | false =>
      rw [rwIn_miss st hp]
      refine ⟨h1, fun a b ha => ?_⟩
      rw [h2 a b ha]
      constructor
      · rintro (h | ⟨q, hq, r⟩)
        · exact .inl h
        · exact .inr ⟨q, by omega, r⟩
      · rintro (h | ⟨q, hq, r⟩)
        · exact .inl h
        · by_cases e : q = m
          · subst e; rw [hp] at r; cases r.1
          · exact .inr ⟨q, by omega, r⟩
    | true =>
      obtain ⟨a0, ha0⟩ := Int.eq_ofNat_of_zero_le (hr i hi).1
      obtain ⟨b0, hb0⟩ := Int.eq_ofNat_of_zero_le (hr m (by omega)).1
      have ha : a0 < n := by have := (hr i hi).2; omega
      have hb : b0 < n := by have := (hr m (by omega)).2; omega
      have e0 : rwIn es rows i st (m + 1) = (rwIn es rows i st m).set a0 (gAdd ((rwIn es rows i st m).getD a0 0) (b0 : Int)) := by rw [rwIn_hit st hp, ha0, hb0, Int.toNat_natCast]
      rw [e0]
      have hadd := ok_add (h1.2.2 a0 ha) hb
      refine ⟨h1.set hadd.1, fun a b haa => ?_⟩
      have e1 := h2 a b haa
      unfold line at e1 ⊢
      rw [getD_set _ _ _ _ (by rw [h1.2.1]; exact ha)]
      by_cases e : a0 = a
      · subst e
        simp only [if_true]
        rw [hadd.2 b, Bool.or_eq_true, e1, decide_eq_true_eq]
        constructor
        · rintro ((h | ⟨q, hq, r1, r2, r3⟩) | h)
          · exact .inl h
          · exact .inr ⟨q, by omega, r1, r2, r3⟩
          · exact .inr ⟨m, by omega, hp, ha0, by rw [hb0, h]⟩
        · rintro (h | ⟨q, hq, r1, r2, r3⟩)
          · exact .inl (.inl h)
          · by_cases eq : q = m
            · subst eq
              right
              rw [hb0] at r3
              omega
            · exact .inl (.inr ⟨q, by omega, r1, r2, r3⟩)
      · simp only [e, if_false]
        rw [e1]
        constructor
        · rintro (h | ⟨q, hq, r1, r2, r3⟩)
          · exact .inl h
          · exact .inr ⟨q, by omega, r1, r2, r3⟩
        · rintro (h | ⟨q, hq, r1, r2, r3⟩)
          · exact .inl h
          · exfalso; rw [ha0] at r2; omega
theorem web_rwAll {es : List Ev} {rows : List Int} (hx : es.length ≤ 12) (hr : ∀ j, j < rows.length → 0 ≤ rows.getD j 0 ∧ rows.getD j 0 < (es.length : Int)) : ∀ m : Nat, m ≤ rows.length →
    Web es.length (rwAll es rows m) ∧ ∀ a b : Nat, a < es.length → (line (rwAll es rows m) a b = true ↔ ∃ i q, i < m ∧ q < rows.length ∧ rwP es rows i q = true ∧ rows.getD i 0 = (a : Int) ∧ rows.getD q 0 = (b : Int))
  | 0, _ => ⟨Web.zero hx, fun a b _ => by unfold rwAll; rw [line_zero]; simp⟩
  | m + 1, hm => by
    obtain ⟨h1, h2⟩ := web_rwAll hx hr m (by omega)
    obtain ⟨g1, g2⟩ := web_rwIn (es := es) hr (show m < rows.length by omega) h1 rows.length (Nat.le_refl _)
    refine ⟨g1, fun a b ha => ?_⟩
    show line (rwIn es rows m (rwAll es rows m) rows.length) a b = true ↔ _
    rw [g2 a b ha, h2 a b ha]
    constructor
    · rintro (⟨i, q, hi, r⟩ | ⟨q, hq, r⟩)
      · exact ⟨i, q, by omega, r⟩
      · exact ⟨m, q, by omega, hq, r⟩
    · rintro ⟨i, q, hi, hq, r⟩
      by_cases e : i = m
      · subst e; exact .inr ⟨q, hq, r⟩
      · exact .inl ⟨i, q, by omega, hq, r⟩
theorem getD_zip (f : Int → Int → Int) {n : Nat} {a b : List Int} (ha : a.length = n) (hb : b.length = n) {i : Nat} (hi : i < n) : (List.zipWith f a b).getD i 0 = f (a.getD i 0) (b.getD i 0) := by
  rw [List.getD_eq_getElem?_getD, List.getElem?_zipWith, List.getD_eq_getElem?_getD, List.getD_eq_getElem?_getD, List.getElem?_eq_getElem (show i < a.length by omega), List.getElem?_eq_getElem (show i < b.length by omega)]
  rfl
theorem web_mix (f : Int → Int → Int) (hf : ∀ {n : Nat} {s t : Int}, okB n s = true → okB n t = true → okB n (f s t) = true) {n : Nat} {a b : List Int} (ha : Web n a) (hb : Web n b) : Web n (List.zipWith f a b) := by
  refine ⟨ha.1, by rw [List.length_zipWith, ha.2.1, hb.2.1]; omega, fun i hi => ?_⟩
  rw [getD_zip f ha.2.1 hb.2.1 hi]
  exact hf (ha.2.2 i hi) (hb.2.2 i hi)
theorem mixL_web (f : Int → Int → Int) {n : Nat} {a b : List Int} (ha : Web n a) (hb : Web n b) : mixL f a b = List.zipWith f a b := by
  unfold mixL
  rw [if_pos (twoB_iff.2 ⟨by rw [ha.2.1, hb.2.1], ha.b, hb.b⟩)]
theorem web_join {n : Nat} {a b : List Int} (ha : Web n a) (hb : Web n b) : Web n (mixL orI a b) ∧ ∀ i j, i < n → line (mixL orI a b) i j = (line a i j || line b i j) := by
  rw [mixL_web _ ha hb]
  refine ⟨web_mix orI (fun h k => (ok_or h k).1) ha hb, fun i j hi => ?_⟩
  unfold line
  rw [getD_zip orI ha.2.1 hb.2.1 hi]
  exact (ok_or (ha.2.2 i hi) (hb.2.2 i hi)).2 j
def inL (a b : List Int) : Bool := decide (a.length = b.length) && (List.range a.length).all fun i => notI (a.getD i 0) (b.getD i 0) == 0
inductive Way (zs : List Int) : Nat → Nat → Prop
  | one {i j : Nat} (h : line zs i j = true) : Way zs i j
  | more {i k j : Nat} (h : Way zs i k) (g : line zs k j = true) : Way zs i j
theorem Way.trans {zs : List Int} {i k j : Nat} (h : Way zs i k) (g : Way zs k j) : Way zs i j := by
  induction g with
  | one g => exact .more h g
  | more _ g ih => exact .more ih g
theorem Way.lt {n : Nat} {zs : List Int} (hz : Web n zs) {i j : Nat} (hi : i < n) (h : Way zs i j) : j < n := by
  induction h with
  | one g => exact hz.lt hi g
  | more _ g ih => exact hz.lt ih g
theorem wayAll_sound {n : Nat} {zs : List Int} (hz : Web n zs) (m : Nat) (hm : m ≤ n) {i : Nat} (hi : i < n) {j : Nat} (h : line (wayAll zs m) i j = true) : Way zs i j := by
  induction m generalizing i j with
  | zero => exact .one h
  | succ m ih =>
    rw [line_wayAll hz m (by omega) hi, Bool.or_eq_true, Bool.and_eq_true] at h
    rcases h with h | ⟨h1, h2⟩
    · exact ih (by omega) hi h
    · exact (ih (by omega) hi h1).trans (ih (by omega) (by omega) h2)
theorem wayAll_mono {n : Nat} {zs : List Int} (hz : Web n zs) (m : Nat) (hm : m < n) {i : Nat} (hi : i < n) {j : Nat} (h : line (wayAll zs m) i j = true) : line (wayAll zs (m + 1)) i j = true := by
  rw [line_wayAll hz m hm hi, h]; rfl
theorem wayAll_meet {n : Nat} {zs : List Int} (hz : Web n zs) (m : Nat) (hm : m ≤ n) {i k j : Nat} (hi : i < n) (hk : k < m) (h1 : line (wayAll zs m) i k = true) (h2 : line (wayAll zs m) k j = true) : line (wayAll zs m) i j = true := by
  induction m generalizing i k j with
  | zero => omega
  | succ m ih =>
    have hmn : m < n := by omega
    have ihm := @ih (by omega)
    rw [line_wayAll hz m hmn hi, Bool.or_eq_true, Bool.and_eq_true] at h1
    rw [line_wayAll hz m hmn (show k < n by omega), Bool.or_eq_true, Bool.and_eq_true] at h2
    rw [line_wayAll hz m hmn hi, Bool.or_eq_true, Bool.and_eq_true]
    by_cases e : k = m
    · subst e
      have h1' : line (wayAll zs k) i k = true := by
        rcases h1 with h | h
        · exact h
        · exact h.1
      have h2' : line (wayAll zs k) k j = true := by
        rcases h2 with h | h
        · exact h
        · exact h.2
      exact .inr ⟨h1', h2'⟩
    · have hkm : k < m := by omega
      rcases h1 with h1 | ⟨h1, h1'⟩ <;> rcases h2 with h2 | ⟨h2, h2'⟩
      · exact .inl (ihm hi hkm h1 h2)
      · exact .inr ⟨ihm hi hkm h1 h2, h2'⟩
      · exact .inr ⟨h1, ihm hmn hkm h1' h2⟩
      · exact .inr ⟨h1, h2'⟩
theorem ways_eq {n : Nat} {zs : List Int} (hz : Web n zs) : waysL zs = wayAll zs n := by
  unfold waysL
  rw [if_pos hz.b, hz.2.1]
theorem wayAll_old {n : Nat} {zs : List Int} (hz : Web n zs) (m : Nat) (hm : m ≤ n) {i : Nat} (hi : i < n) {j : Nat} (h : line zs i j = true) : line (wayAll zs m) i j = true := by
  induction m with
  | zero => exact h
  | succ m ih => exact wayAll_mono hz m (by omega) hi (ih (by omega))
theorem ways_line {n : Nat} {zs : List Int} (hz : Web n zs) {i : Nat} (hi : i < n) {j : Nat} : line (waysL zs) i j = true ↔ Way zs i j := by
  rw [ways_eq hz]
  constructor
  · exact wayAll_sound hz n (Nat.le_refl _) hi
  · intro h
    induction h with
    | one g => exact wayAll_old hz n (Nat.le_refl _) hi g
    | more h g ih =>
      have hk := h.lt hz hi
      exact wayAll_meet hz n (Nat.le_refl _) hi hk ih (wayAll_old hz n (Nat.le_refl _) hk g)
def roundB (zs : List Int) : Bool := webB zs && (List.range zs.length).any fun i => line (waysL zs) i i
theorem round_iff {n : Nat} {zs : List Int} (hz : Web n zs) : roundB zs = true ↔ ∃ i, i < n ∧ Way zs i i := by
  unfold roundB
  rw [hz.b, Bool.true_and, List.any_eq_true, hz.2.1]
  constructor
  · rintro ⟨i, hi, h⟩; exact ⟨i, List.mem_range.1 hi, (ways_line hz (List.mem_range.1 hi)).1 h⟩
  · rintro ⟨i, hi, h⟩; exact ⟨i, List.mem_range.2 hi, (ways_line hz hi).2 h⟩
theorem nodup_sub_len {a b : List Int} (h : a.Nodup) (hs : ∀ x ∈ a, x ∈ b) : a.length ≤ b.length := by
  induction a generalizing b with
  | nil => simp
  | cons x a ih =>
    rw [List.nodup_cons] at h
    have hx := hs x (by simp)
    have := ih (b := b.erase x) h.2 (fun y hy => (List.mem_erase_of_ne (fun e => h.1 (by rw [← e]; exact hy))).2 (hs y (by simp [hy])))
    rw [List.length_erase_of_mem hx] at this
    have := List.length_pos_of_mem hx
    simp; omega
def leads (zs : List Int) (n i : Nat) : Nat := (List.range n).countP fun j => line (waysL zs) j i
theorem idxB_range {f : Ev → Bool} {es : List Ev} (hx : es.length ≤ 12) {i : Nat} (hi : i < (idxB f es).length) : 0 ≤ (idxB f es).getD i 0 ∧ (idxB f es).getD i 0 < (es.length : Int) := by
  have hm : (idxB f es).getD i 0 ∈ idxB f es := by
    rw [List.getD_eq_getElem?_getD, List.getElem?_eq_getElem hi]
    exact List.getElem_mem hi
  unfold idxB at hm ⊢
  rw [if_pos hx] at hm ⊢
  exact idxK_lt f es _ _ hm
theorem rises_nodup : ∀ l : List Int, l.Pairwise (· < ·) → l.Nodup := fun l h => h.imp (fun h e => by omega)
def taleB (dss : List (List Dd)) (f rows : List Int) : Bool := sourceB dss f && rowsB dss rows
def agK (n : Nat) (rs f row : List Int) : Nat → List Int
  | 0 => List.replicate n 0
  | k + 1 => (agK n rs f row k).set (rs.getD k 0).toNat (row.getD (f.getD k 0).toNat 0)
def agL (es : List Ev) (f rows : List Int) : List Int := agK es.length (idxB rdE es) f (rwL es rows) (idxB rdE es).length
theorem web_ag {n : Nat} {rs f row : List Int} (hn : n ≤ 12) (hd : rs.Nodup) (hrow : Web n row) : ∀ k : Nat, k ≤ rs.length → (∀ i, i < k → 0 ≤ rs.getD i 0 ∧ rs.getD i 0 < (n : Int)) → (∀ i, i < k → 0 ≤ f.getD i 0 ∧ f.getD i 0 < (n : Int)) →
    Web n (agK n rs f row k) ∧ ∀ a j : Nat, a < n → (line (agK n rs f row k) a j = true ↔ ∃ i, i < k ∧ rs.getD i 0 = (a : Int) ∧ line row (f.getD i 0).toNat j = true)
  | 0, _, _, _ => ⟨Web.zero hn, fun a j _ => by unfold agK; rw [line_zero]; simp⟩
  | k + 1, hk, hr, hf => by
    obtain ⟨h1, h2⟩ := web_ag hn hd hrow k (by omega) (fun i hi => hr i (by omega)) (fun i hi => hf i (by omega))
    obtain ⟨a0, ha0⟩ := Int.eq_ofNat_of_zero_le (hr k (by omega)).1
    obtain ⟨b0, hb0⟩ := Int.eq_ofNat_of_zero_le (hf k (by omega)).1
    have ha : a0 < n := by have := (hr k (by omega)).2; omega
    have hb : b0 < n := by have := (hf k (by omega)).2; omega
    have e0 : agK n rs f row (k + 1) = (agK n rs f row k).set a0 (row.getD b0 0) := by rw [agK, ha0, hb0, Int.toNat_natCast, Int.toNat_natCast]
    rw [e0]
    refine ⟨h1.set (hrow.2.2 b0 hb), fun a j haa => ?_⟩
    have e1 := h2 a j haa
    unfold line at e1 ⊢
    rw [getD_set _ _ _ _ (by rw [h1.2.1]; exact ha)]
    by_cases e : a0 = a
    · subst e
      simp only [if_true]
      constructor
      · intro h
        refine ⟨k, by omega, ha0, ?_⟩
        rw [hb0, Int.toNat_natCast]
        exact h
      · rintro ⟨i, hi, r1, r2⟩
        have : i = k := nodup_get hd (by omega) (by omega) (by rw [r1, ha0])
        subst this
        rw [hb0, Int.toNat_natCast] at r2
        exact r2
    · simp only [e, if_false]
      rw [e1]
      constructor
      · rintro ⟨i, hi, r⟩
        exact ⟨i, by omega, r⟩
      · rintro ⟨i, hi, r1, r2⟩
        by_cases ei : i = k
        · subst ei; rw [ha0] at r1; omega
        · exact ⟨i, by omega, r1, r2⟩
theorem idxK_has (f : Ev → Bool) (l : List Ev) {i : Nat} (hf : f (l.getD i zE) = true) : ∀ k : Nat, i < k → (i : Int) ∈ idxK f l k
  | 0, h => by omega
  | k + 1, h => by
    rw [idxK]
    by_cases e : i = k
    · subst e
      rw [if_pos hf]
      exact List.mem_append.2 (.inr (by simp))
    · have ih := idxK_has f l hf k (by omega)
      split
      · exact List.mem_append.2 (.inl ih)
      · exact ih
theorem tale_use {dss : List (List Dd)} {f rows : List Int} (h : taleB dss f rows = true) : workB dss = true ∧ srcB (chcL (eventsB dss)) f = true ∧ rowsL (eventsB dss) rows = true := by
  unfold taleB sourceB rowsB at h
  simp only [Bool.and_eq_true] at h
  exact ⟨h.1.1, h.1.2, h.2.2⟩
theorem behP_lt {es : List Ev} {i j : Nat} (h : behP es i j = true) : i < j := by
  apply Classical.byContradiction
  intro hn
  rw [behP_up (by omega)] at h
  cases h
theorem up_way {n : Nat} {zs : List Int} (hz : Web n zs) (μ : Nat → Nat) (h : ∀ i j, i < n → j < n → line zs i j = true → μ i < μ j) {i j : Nat} (hi : i < n) (hw : Way zs i j) : μ i < μ j := by
  induction hw with
  | one g => exact h _ _ hi (hz.lt hi g) g
  | more g l ih => exact Nat.lt_trans ih (h _ _ (g.lt hz hi) (hz.lt (g.lt hz hi) l) l)
theorem up_round {n : Nat} {zs : List Int} (hz : Web n zs) (μ : Nat → Nat) (h : ∀ i j, i < n → j < n → line zs i j = true → μ i < μ j) : roundB zs = false := by
  cases hr : roundB zs with
  | false => rfl
  | true =>
    obtain ⟨i, hi, hw⟩ := (round_iff hz).1 hr
    exact absurd (up_way hz μ h hi hw) (Nat.lt_irrefl _)
def pwL (es : List Ev) (f rows : List Int) : List Int := mixL orI (mixL orI (plcL es) (fwL es f)) (mixL orI (rwL es rows) (agL es f rows))
def owP (es : List Ev) (i k : Nat) : Bool := decide (3 ≤ i) && decide (3 ≤ k) && ((es.getD i zE).1 == (es.getD k zE).1)
def owL (es : List Ev) (f : List Int) : List Int := offAll (owP es) es.length (fwL es f) es.length
def swL (dss : List (List Dd)) (es : List Ev) (f rows : List Int) : List Int := mixL orI (mixL orI (kepL dss es) (owL es f)) (mixL orI (rwL es rows) (agL es f rows))
def xwL (es : List Ev) (f rows : List Int) : List Int := mixL orI (mixL orI (behL es) (fwL es f)) (mixL orI (rwL es rows) (agL es f rows))
theorem rd_in {es : List Ev} (hx : es.length ≤ 12) {i : Nat} (hi : i < (idxB rdE es).length) : 0 ≤ (idxB rdE es).getD i 0 ∧ (idxB rdE es).getD i 0 < (es.length : Int) := idxB_range hx hi
theorem rd_nodup {es : List Ev} (hx : es.length ≤ 12) : (idxB rdE es).Nodup := by
  unfold idxB
  rw [if_pos hx]
  exact rises_nodup _ (idxK_rises rdE es _)
structure Webs (es : List Ev) (f rows : List Int) : Prop where
  fw : Web es.length (fwL es f)
  rw' : Web es.length (rwL es rows)
  ag : Web es.length (agL es f rows)
  fwl : ∀ a j : Nat, a < es.length → (line (fwL es f) a j = true ↔ ∃ i, i < (idxB rdE es).length ∧ f.getD i 0 = (a : Int) ∧ (idxB rdE es).getD i 0 = (j : Int))
  rwl : ∀ a b : Nat, a < es.length → (line (rwL es rows) a b = true ↔ ∃ i q, i < rows.length ∧ q < rows.length ∧ rwP es rows i q = true ∧ rows.getD i 0 = (a : Int) ∧ rows.getD q 0 = (b : Int))
  agl : ∀ a j : Nat, a < es.length → (line (agL es f rows) a j = true ↔ ∃ i, i < (idxB rdE es).length ∧ (idxB rdE es).getD i 0 = (a : Int) ∧ line (rwL es rows) (f.getD i 0).toNat j = true)
theorem webs_of {es : List Ev} {f rows : List Int} (hx : es.length ≤ 12) (hs : srcB (chcL es) f = true) (hr : rowsL es rows = true) : Webs es f rows := by
  obtain ⟨sl, su⟩ := src_use hx hs
  obtain ⟨rn, _, ru⟩ := rows_use hx hr
  have w1 := web_rwAll hx ru rows.length (Nat.le_refl _)
  have w2 := fw_line (n := es.length) (rs := idxB rdE es) (f := f) hx (idxB rdE es).length (fun i hi => rd_in hx hi) (fun i hi => (su i hi).1)
  have w3 := web_ag (n := es.length) (rs := idxB rdE es) (f := f) (row := rwL es rows) hx (rd_nodup hx) w1.1 (idxB rdE es).length (Nat.le_refl _) (fun i hi => rd_in hx hi) (fun i hi => (su i hi).1)
  exact ⟨w2.1, w1.1, w3.1, w2.2, w1.2, w3.2⟩
theorem web_four {n : Nat} {a b c d : List Int} (ha : Web n a) (hb : Web n b) (hc : Web n c) (hd : Web n d) : Web n (mixL orI (mixL orI a b) (mixL orI c d)) ∧
    ∀ i j, i < n → line (mixL orI (mixL orI a b) (mixL orI c d)) i j = (line a i j || line b i j || (line c i j || line d i j)) := by
  obtain ⟨h1, l1⟩ := web_join ha hb
  obtain ⟨h2, l2⟩ := web_join hc hd
  obtain ⟨h3, l3⟩ := web_join h1 h2
  exact ⟨h3, fun i j hi => by rw [l3 i j hi, l1 i j hi, l2 i j hi]⟩
theorem ow_line {es : List Ev} {f rows : List Int} (W : Webs es f rows) : Web es.length (owL es f) ∧ ∀ a j : Nat, a < es.length → line (owL es f) a j = (line (fwL es f) a j && !owP es a j) := by
  obtain ⟨h1, h2⟩ := web_offAll (p := owP es) W.fw es.length (Nat.le_refl _)
  refine ⟨h1, fun a j ha => ?_⟩
  unfold owL
  rw [h2 a j ha]
  cases hl : line (fwL es f) a j with
  | false => rfl
  | true =>
    have hj := W.fw.lt ha hl
    simp [ha, hj]
theorem place_ev {dss : List (List Dd)} (hb : workB dss = true) {j : Nat} (hj : j < (eventsB dss).length) : 0 ≤ ((eventsB dss).getD j zE).2.2.2.1 ∧ ((eventsB dss).getD j zE).2.2.2.1 ≤ 2 := by
  have e1 : eventsB dss = evsW dss dss.length := by rw [eventsB, if_pos hb]
  rw [e1] at hj ⊢
  exact place_in hb j hj
theorem beg_ev {dss : List (List Dd)} (hb : workB dss = true) : 3 ≤ (eventsB dss).length ∧ (eventsB dss).getD 0 zE = (-1, -1, false, 0, 0, 0) ∧ (eventsB dss).getD 1 zE = (-1, -1, false, 1, 0, 1) ∧ (eventsB dss).getD 2 zE = (-1, -1, false, 2, 0, 2) := by
  have e1 : eventsB dss = evsW dss dss.length := by rw [eventsB, if_pos hb]
  obtain ⟨t, ht⟩ := evs_pre dss 0 dss.length (Nat.zero_le _)
  have ht' : evsW dss dss.length = evBeg ++ t := ht
  rw [e1]
  refine ⟨by rw [ht']; simp [evBeg], beg_get ht'⟩
theorem beg_place {dss : List (List Dd)} (hb : workB dss = true) {i : Nat} (hi : i < 3) : ((eventsB dss).getD i zE).2.2.2.1 = (i : Int) ∧ ((eventsB dss).getD i zE).2.2.1 = false ∧ csE ((eventsB dss).getD i zE) = (i : Int) ∧ ((eventsB dss).getD i zE).1 = -1 := by
  obtain ⟨_, h0, h1, h2⟩ := beg_ev hb
  rcases (by omega : i = 0 ∨ i = 1 ∨ i = 2) with rfl | rfl | rfl
  · rw [h0]; exact ⟨rfl, rfl, rfl, rfl⟩
  · rw [h1]; exact ⟨rfl, rfl, rfl, rfl⟩
  · rw [h2]; exact ⟨rfl, rfl, rfl, rfl⟩
structure Told (dss : List (List Dd)) (f rows : List Int) : Prop where
  work : workB dss = true
  twelve : (eventsB dss).length ≤ 12
  webs : Webs (eventsB dss) f rows
  src : srcB (chcL (eventsB dss)) f = true
  rws : rowsL (eventsB dss) rows = true
  pw : Web (eventsB dss).length (pwL (eventsB dss) f rows)
  pwl : ∀ i j, i < (eventsB dss).length → line (pwL (eventsB dss) f rows) i j = (line (plcL (eventsB dss)) i j || line (fwL (eventsB dss) f) i j || (line (rwL (eventsB dss) rows) i j || line (agL (eventsB dss) f rows) i j))
  sw : Web (eventsB dss).length (swL dss (eventsB dss) f rows)
  swl : ∀ i j, i < (eventsB dss).length → line (swL dss (eventsB dss) f rows) i j = (line (kepL dss (eventsB dss)) i j || line (owL (eventsB dss) f) i j || (line (rwL (eventsB dss) rows) i j || line (agL (eventsB dss) f rows) i j))
  xw : Web (eventsB dss).length (xwL (eventsB dss) f rows)
  xwl : ∀ i j, i < (eventsB dss).length → line (xwL (eventsB dss) f rows) i j = (line (behL (eventsB dss)) i j || line (fwL (eventsB dss) f) i j || (line (rwL (eventsB dss) rows) i j || line (agL (eventsB dss) f rows) i j))
  cls : (clsB (eventsB dss)).length = (eventsB dss).length
theorem told_of {dss : List (List Dd)} {f rows : List Int} (h : taleB dss f rows = true) : Told dss f rows := by
  obtain ⟨hb, hs, hr⟩ := tale_use h
  have hx := eventsB_12 dss
  have W := webs_of hx hs hr
  have p := web_four (plc_line hx).1 W.fw W.rw' W.ag
  have s := web_four (kep_line (dss := dss) hx).1 (ow_line W).1 W.rw' W.ag
  have x := web_four (beh_line hx).1 W.fw W.rw' W.ag
  exact ⟨hb, hx, W, hs, hr, p.1, p.2, s.1, s.2, x.1, x.2, by unfold clsB; rw [if_pos hx, List.length_map]⟩
structure Sys where
  n : Nat
  ck : Nat → Int
  pl : Nat → Nat
  rd : Nat → Bool
  cs : Nat → Int
  ex : Nat → Nat → Bool
structure AbsSt where
  X : Nat → Prop
  N : Int → List Nat
  R : Nat → List Nat
  F : Nat → Nat
  τ : Nat → Nat
def AbsSt.L (S : Sys) (s : AbsSt) (c : Int) (p : Nat) : List Nat := s.R p ++ (s.N c).filter (fun x => S.pl x == p)
def AbsSt.D (S : Sys) (s : AbsSt) (j : Nat) : Prop := s.X j ∧ j ∉ s.N (S.ck j)
def AbsSt.v (S : Sys) (s : AbsSt) (i : Nat) : Nat := if S.rd i = true then s.F i else i
abbrev Bef (L : List Nat) (x y : Nat) : Prop := [x, y].Sublist L
structure AInv (S : Sys) (s : AbsSt) (T : Nat) (z : Int) : Prop where
  beg : ∀ j, j < 3 → s.X j ∧ S.rd j = false ∧ S.pl j = j ∧ S.ck j = -1 ∧ s.τ j = 0 ∧ S.cs j = j
  lt : ∀ j, s.X j → j < S.n
  down : ∀ i j, s.X j → 3 ≤ i → i < j → S.ck i = S.ck j → s.X i
  note : ∀ c x, x ∈ s.N c → s.X x ∧ 3 ≤ x ∧ S.ck x = c ∧ S.rd x = false
  nord : ∀ c, (s.N c).Pairwise (· < ·)
  pend : ∀ c x j, x ∈ s.N c → s.X j → x < j → S.ck j = c → (S.rd j = true ∧ S.ex x j = true) ∨ j ∈ s.N c
  rows : ∀ p x, x ∈ s.R p ↔ s.D S x ∧ S.rd x = false ∧ S.pl x = p
  rnod : ∀ p, (s.R p).Nodup
  rord : ∀ p, (s.R p).Pairwise (fun x y => s.τ x ≤ s.τ y)
  tle : ∀ j, s.D S j → s.τ j ≤ T
  tpos : ∀ j, s.D S j → 3 ≤ j → 1 ≤ s.τ j
  same : ∀ i j, s.D S i → s.D S j → 3 ≤ i → 3 ≤ j → s.τ i = s.τ j → S.cs i = S.cs j
  mate : ∀ i j, s.D S i → s.D S j → 3 ≤ i → 3 ≤ j → S.cs i = S.cs j → s.τ i = s.τ j
  now : ∀ i, s.D S i → 3 ≤ i → (s.τ i = T ↔ S.cs i = z)
  kept : ∀ i j, s.D S i → s.D S j → 3 ≤ i → i < j → S.ck i = S.ck j → S.cs i ≠ S.cs j → S.ex i j = false → s.τ i < s.τ j
  src : ∀ r, s.X r → S.rd r = true → s.X (s.F r) ∧ S.rd (s.F r) = false ∧ S.pl (s.F r) = S.pl r ∧ ((3 ≤ s.F r ∧ S.ck (s.F r) = S.ck r) ∨ (s.D S (s.F r) ∧ s.τ (s.F r) ≤ s.τ r))
  agst : ∀ r w p, s.X r → S.rd r = true → Bef (s.R p) (s.F r) w → s.τ r ≤ s.τ w
  inL : ∀ i, s.X i → 3 ≤ i → s.v S i ∈ s.L S (S.ck i) (S.pl i)
  coh : ∀ i j, s.X i → s.X j → 3 ≤ i → i < j → S.ck i = S.ck j → S.pl i = S.pl j → s.v S i = s.v S j ∨ Bef (s.L S (S.ck i) (S.pl i)) (s.v S i) (s.v S j)
  cohw : ∀ i j, s.X i → s.X j → 3 ≤ i → i < j → S.ck i = S.ck j → S.pl i = S.pl j → S.rd i = true → S.rd j = false → s.F i ≠ j
structure Nxt (S : Sys) (s : AbsSt) (j : Nat) : Prop where
  three : 3 ≤ j
  lt : j < S.n
  new : ¬ s.X j
  all : ∀ i, 3 ≤ i → i < j → S.ck i = S.ck j → s.X i
  last : ∀ i, s.X i → 3 ≤ i → S.ck i = S.ck j → i < j
theorem bef_mem {L : List Nat} {x y : Nat} (h : Bef L x y) : x ∈ L ∧ y ∈ L := ⟨h.subset (by simp), h.subset (by simp)⟩
theorem bef_snoc {L : List Nat} {x w : Nat} (h : x ∈ L) : Bef (L ++ [w]) x w := by
  have h1 : [x].Sublist L := List.singleton_sublist.2 h
  exact h1.append (List.Sublist.refl [w])
theorem bef_last {L : List Nat} {x y : Nat} (hn : (L ++ [x]).Nodup) (h : Bef (L ++ [x]) x y) : False := by
  have h2 : ¬ x ∈ L := by
    rw [List.nodup_append] at hn
    intro hx
    exact hn.2.2 x hx x (by simp) rfl
  obtain ⟨l1, l2, e, s1, s2⟩ := List.sublist_append_iff.1 h
  cases l1 with
  | nil =>
    simp only [List.nil_append] at e
    rw [← e] at s2
    have := s2.length_le
    simp at this
  | cons a l1 =>
    simp only [List.cons_append, List.cons.injEq] at e
    rw [← e.1] at s1
    exact h2 (s1.subset (by simp))
theorem bef_snoc_old {L : List Nat} {x y w : Nat} (h : Bef (L ++ [w]) x y) (hy : y ≠ w) : Bef L x y := by
  obtain ⟨l1, l2, e, s1, s2⟩ := List.sublist_append_iff.1 h
  have hl2 : l2 = [] := by
    cases l2 with
    | nil => rfl
    | cons a l2 =>
      have hl := s2.length_le
      simp at hl
      subst hl
      have ha : a = w := by simpa using s2
      have : y = a := by
        have := congrArg List.getLast? e
        simpa using this
      exact absurd (this.trans ha) hy
  subst hl2
  rw [List.append_nil] at e
  rw [← e] at s1
  exact s1
theorem bef_of_last {L : List Nat} {x : Nat} (hx : x ∈ L) {l : Nat} (hl : L.getLast? = some l) : x = l ∨ Bef L x l := by
  obtain ⟨L', rfl⟩ := List.getLast?_eq_some_iff.1 hl
  rw [List.mem_append] at hx
  rcases hx with hx | hx
  · exact .inr (bef_snoc hx)
  · exact .inl (by simpa using hx)
theorem AInv.read_done {S : Sys} {s : AbsSt} {T : Nat} {z : Int} (h : AInv S s T z) {r : Nat} (hx : s.X r) (hr : S.rd r = true) : s.D S r :=
  ⟨hx, fun hn => by have := (h.note _ _ hn).2.2.2; rw [hr] at this; cases this⟩
theorem AInv.tick {S : Sys} {s : AbsSt} {T : Nat} {z : Int} (h : AInv S s T z) (z' : Int) (hz : ∀ i, s.D S i → 3 ≤ i → S.cs i ≠ z') : AInv S s (T + 1) z' :=
  { h with
    tle := fun j hj => Nat.le_succ_of_le (h.tle j hj)
    now := fun i hi h3 => ⟨fun e => by have := h.tle i hi; omega, fun e => absurd e (hz i hi h3)⟩ }
def AbsSt.doNote (S : Sys) (s : AbsSt) (j : Nat) : AbsSt := { s with X := fun i => s.X i ∨ i = j, N := fun c => if c = S.ck j then s.N c ++ [j] else s.N c }
def AbsSt.doRead (s : AbsSt) (T j f : Nat) : AbsSt := { s with X := fun i => s.X i ∨ i = j, F := fun i => if i = j then f else s.F i, τ := fun i => if i = j then T else s.τ i }
def AbsSt.doInk (S : Sys) (s : AbsSt) (T j : Nat) : AbsSt := { s with X := fun i => s.X i ∨ i = j, R := fun p => if p = S.pl j then s.R p ++ [j] else s.R p, τ := fun i => if i = j then T else s.τ i }
def AbsSt.doFlush (S : Sys) (s : AbsSt) (T : Nat) (c : Int) (x : Nat) (rest : List Nat) : AbsSt := { s with N := fun c' => if c' = c then rest else s.N c', R := fun p => if p = S.pl x then s.R p ++ [x] else s.R p, τ := fun i => if i = x then T else s.τ i }
theorem AInv.doNote {S : Sys} {s : AbsSt} {T : Nat} {z : Int} (h : AInv S s T z) {j : Nat} (hn : Nxt S s j) (hr : S.rd j = false) : AInv S (s.doNote S j) T z := by
  have hne : ∀ i, s.X i → i ≠ j := fun i hi e => hn.new (by rw [← e]; exact hi)
  have nmem : ∀ c x, x ∈ (s.doNote S j).N c ↔ x ∈ s.N c ∨ (c = S.ck j ∧ x = j) := by
    intro c x
    show x ∈ (if c = S.ck j then s.N c ++ [j] else s.N c) ↔ _
    split
    · rename_i e; simp [e]
    · rename_i e; simp [e]
  have hD : ∀ i, (s.doNote S j).D S i ↔ s.D S i := by
    intro i
    unfold AbsSt.D
    rw [nmem]
    show ((s.X i ∨ i = j) ∧ _) ↔ _
    constructor
    · rintro ⟨h1 | rfl, h2⟩
      · exact ⟨h1, fun hm => h2 (.inl hm)⟩
      · exact absurd (.inr ⟨rfl, rfl⟩) h2
    · rintro ⟨h1, h2⟩
      refine ⟨.inl h1, ?_⟩
      rintro (hm | ⟨_, e⟩)
      · exact h2 hm
      · exact hne i h1 e
  have hsub : ∀ c p, (s.L S c p).Sublist ((s.doNote S j).L S c p) := by
    intro c p
    refine List.Sublist.append (List.Sublist.refl _) ?_
    show List.Sublist _ ((if c = S.ck j then s.N c ++ [j] else s.N c).filter _)
    split
    · rw [List.filter_append]; exact List.sublist_append_left _ _
    · exact List.Sublist.refl _
  have hlast : (s.doNote S j).L S (S.ck j) (S.pl j) = s.L S (S.ck j) (S.pl j) ++ [j] := by
    unfold AbsSt.L AbsSt.doNote
    simp [List.filter_append]
  have hv : ∀ i, (s.doNote S j).v S i = s.v S i := fun i => rfl
  have hvj : s.v S j = j := by unfold AbsSt.v; rw [hr]; rfl
  refine { h with beg := fun i hi => ⟨.inl (h.beg i hi).1, (h.beg i hi).2⟩, lt := ?_, down := ?_, note := ?_, nord := ?_, pend := ?_, rows := ?_, tle := ?_, tpos := ?_, same := ?_, mate := ?_, now := ?_, kept := ?_, src := ?_, agst := ?_, inL := ?_, coh := ?_, cohw := ?_ }
  · rintro i (hi | rfl)
    · exact h.lt i hi
    · exact hn.lt
  · rintro i k (hk | rfl) h3 hik hc
    · exact .inl (h.down i k hk h3 hik hc)
    · exact .inl (hn.all i h3 hik hc)
  · intro c x hx
    rcases (nmem c x).1 hx with hx | ⟨rfl, rfl⟩
    · exact ⟨.inl (h.note c x hx).1, (h.note c x hx).2⟩
    · exact ⟨.inr rfl, hn.three, rfl, hr⟩
  · intro c
    show (if c = S.ck j then s.N c ++ [j] else s.N c).Pairwise _
    split
    · rename_i e
      rw [List.pairwise_append]
      refine ⟨h.nord c, by simp, fun x hx y hy => ?_⟩
      have hy' : y = j := by simpa using hy
      subst hy'
      have hq := h.note c x hx
      exact hn.last x hq.1 hq.2.1 (by rw [hq.2.2.1, e])
    · exact h.nord c
  · intro c x k hx hk hxk hc
    rcases (nmem c x).1 hx with hx | ⟨rfl, rfl⟩
    · rcases hk with hk | rfl
      · rcases h.pend c x k hx hk hxk hc with hp | hp
        · exact .inl hp
        · exact .inr ((nmem c k).2 (.inl hp))
      · exact .inr ((nmem c k).2 (.inr ⟨hc.symm, rfl⟩))
    · rcases hk with hk | rfl
      · have := hn.last k hk (by have := hn.three; omega) hc; omega
      · omega
  · intro p x; rw [hD]; exact h.rows p x
  · intro i hi; exact h.tle i ((hD i).1 hi)
  · intro i hi; exact h.tpos i ((hD i).1 hi)
  · intro i k hi hk; exact h.same i k ((hD i).1 hi) ((hD k).1 hk)
  · intro i k hi hk; exact h.mate i k ((hD i).1 hi) ((hD k).1 hk)
  · intro i hi; exact h.now i ((hD i).1 hi)
  · intro i k hi hk; exact h.kept i k ((hD i).1 hi) ((hD k).1 hk)
  · rintro r (hx | rfl) hrd
    · obtain ⟨a, b, c, d⟩ := h.src r hx hrd
      exact ⟨.inl a, b, c, d.imp id (fun d => ⟨(hD _).2 d.1, d.2⟩)⟩
    · rw [hr] at hrd; cases hrd
  · rintro r w p (hx | rfl) hrd hb
    · exact h.agst r w p hx hrd hb
    · rw [hr] at hrd; cases hrd
  · rintro i (hi | rfl) h3
    · exact (hsub _ _).subset (h.inL i hi h3)
    · rw [hlast, hv, hvj]; simp
  · rintro i k (hi | rfl) (hk | rfl) h3 hik hc hp
    · exact (h.coh i k hi hk h3 hik hc hp).imp id (fun hb => hb.trans (hsub _ _))
    · refine .inr ?_
      rw [hc, hp, hlast, hv, hv, hvj, ← hc, ← hp]
      exact bef_snoc (h.inL i hi h3)
    · have := hn.last k hk (by omega) hc.symm; omega
    · omega
  · rintro i k (hi | rfl) (hk | rfl) h3 hik hc hp h1 h2
    · exact h.cohw i k hi hk h3 hik hc hp h1 h2
    · exact hne _ (h.src i hi h1).1
    · have := hn.last k hk (by omega) hc.symm; omega
    · omega
theorem AInv.doRead {S : Sys} {s : AbsSt} {T : Nat} {z : Int} (h : AInv S s T z) (hT : 1 ≤ T) {j f : Nat} (hn : Nxt S s j) (hr : S.rd j = true) (hz : S.cs j = z) (hex : ∀ x, x ∈ s.N (S.ck j) → S.ex x j = true)
    (hf : (s.L S (S.ck j) (S.pl j)).getLast? = some f) : AInv S (s.doRead T j f) T z := by
  have hne : ∀ i, s.X i → i ≠ j := fun i hi e => hn.new (by rw [← e]; exact hi)
  have hD : ∀ i, (s.doRead T j f).D S i ↔ s.D S i ∨ i = j := by
    intro i
    show ((s.X i ∨ i = j) ∧ i ∉ s.N (S.ck i)) ↔ _
    constructor
    · rintro ⟨h1 | rfl, h2⟩
      · exact .inl ⟨h1, h2⟩
      · exact .inr rfl
    · rintro (⟨h1, h2⟩ | rfl)
      · exact ⟨.inl h1, h2⟩
      · exact ⟨.inr rfl, fun hm => hn.new (h.note _ _ hm).1⟩
  have hτ : ∀ i, i ≠ j → (s.doRead T j f).τ i = s.τ i := fun i hi => by show (if i = j then T else s.τ i) = _; rw [if_neg hi]
  have hτj : (s.doRead T j f).τ j = T := by show (if j = j then T else s.τ j) = T; rw [if_pos rfl]
  have hF : ∀ i, i ≠ j → (s.doRead T j f).F i = s.F i := fun i hi => by show (if i = j then f else s.F i) = _; rw [if_neg hi]
  have hFj : (s.doRead T j f).F j = f := by show (if j = j then f else s.F j) = f; rw [if_pos rfl]
  have hv : ∀ i, i ≠ j → (s.doRead T j f).v S i = s.v S i := fun i hi => by unfold AbsSt.v; rw [hF i hi]
  have hvj : (s.doRead T j f).v S j = f := by unfold AbsSt.v; rw [hr, hFj]; rfl
  have hfm : f ∈ s.L S (S.ck j) (S.pl j) := List.mem_of_getLast? hf
  have hfX : s.X f ∧ S.rd f = false ∧ S.pl f = S.pl j ∧ ((3 ≤ f ∧ S.ck f = S.ck j ∧ f ∈ s.N (S.ck j)) ∨ s.D S f) := by
    unfold AbsSt.L at hfm
    rw [List.mem_append, List.mem_filter] at hfm
    rcases hfm with hm | ⟨hm, hp⟩
    · obtain ⟨a, b, c⟩ := (h.rows _ _).1 hm
      exact ⟨a.1, b, c, .inr a⟩
    · obtain ⟨a, b, c, d⟩ := h.note _ _ hm
      exact ⟨a, d, by simpa using hp, .inl ⟨b, c, hm⟩⟩
  refine { h with beg := fun i hi => ⟨.inl (h.beg i hi).1, (h.beg i hi).2.1, (h.beg i hi).2.2.1, (h.beg i hi).2.2.2.1, by rw [hτ i (hne i (h.beg i hi).1)]; exact (h.beg i hi).2.2.2.2.1, (h.beg i hi).2.2.2.2.2⟩, lt := ?_, down := ?_, note := ?_, pend := ?_, rows := ?_, rord := ?_, tle := ?_, tpos := ?_, same := ?_, mate := ?_, now := ?_, kept := ?_, src := ?_, agst := ?_, inL := ?_, coh := ?_, cohw := ?_ }
  · rintro i (hi | rfl)
    · exact h.lt i hi
    · exact hn.lt
  · rintro i k (hk | rfl) h3 hik hc
    · exact .inl (h.down i k hk h3 hik hc)
    · exact .inl (hn.all i h3 hik hc)
  · intro c x hx
    exact ⟨.inl (h.note c x hx).1, (h.note c x hx).2⟩
  · rintro c x k hx (hk | rfl) hxk hc
    · exact h.pend c x k hx hk hxk hc
    · exact .inl ⟨hr, hex x (by rw [hc]; exact hx)⟩
  · intro p x
    rw [hD]
    refine (h.rows p x).trans ⟨fun ⟨a, b⟩ => ⟨.inl a, b⟩, fun ⟨a, b⟩ => ⟨a.resolve_right (fun e => ?_), b⟩⟩
    rw [e, hr] at b
    cases b.1
  · intro p
    refine (h.rord p).imp_of_mem (fun {x y} hx hy hxy => ?_)
    rw [hτ x (hne x ((h.rows p x).1 hx).1.1), hτ y (hne y ((h.rows p y).1 hy).1.1)]
    exact hxy
  · intro i hi
    rcases (hD i).1 hi with hi | rfl
    · rw [hτ i (hne i hi.1)]; exact h.tle i hi
    · rw [hτj]; exact Nat.le_refl _
  · intro i hi h3
    rcases (hD i).1 hi with hi | rfl
    · rw [hτ i (hne i hi.1)]; exact h.tpos i hi h3
    · rw [hτj]; exact hT
  · intro i k hi hk h3 h3' e
    rcases (hD i).1 hi with ai | rfl <;> rcases (hD k).1 hk with ak | rfl
    · rw [hτ i (hne i ai.1), hτ k (hne k ak.1)] at e; exact h.same i k ai ak h3 h3' e
    · rw [hτ i (hne i ai.1), hτj] at e; rw [hz]; exact (h.now i ai h3).1 e
    · rw [hτ k (hne k ak.1), hτj] at e; rw [hz]; exact ((h.now k ak h3').1 e.symm).symm
    · rfl
  · intro i k hi hk h3 h3' e
    rcases (hD i).1 hi with ai | rfl <;> rcases (hD k).1 hk with ak | rfl
    · rw [hτ i (hne i ai.1), hτ k (hne k ak.1)]; exact h.mate i k ai ak h3 h3' e
    · rw [hτ i (hne i ai.1), hτj]; exact (h.now i ai h3).2 (by rw [e, hz])
    · rw [hτ k (hne k ak.1), hτj]; exact ((h.now k ak h3').2 (by rw [← e, hz])).symm
    · rfl
  · intro i hi h3
    rcases (hD i).1 hi with hi | rfl
    · rw [hτ i (hne i hi.1)]; exact h.now i hi h3
    · rw [hτj, hz]; simp
  · intro i k hi hk h3 hik hc hcs hx
    rcases (hD i).1 hi with ai | rfl <;> rcases (hD k).1 hk with ak | rfl
    · rw [hτ i (hne i ai.1), hτ k (hne k ak.1)]; exact h.kept i k ai ak h3 hik hc hcs hx
    · rw [hτ i (hne i ai.1), hτj]
      have h1 := h.tle i ai
      have h2 : s.τ i ≠ T := fun e => hcs (by rw [hz]; exact (h.now i ai h3).1 e)
      omega
    · have := hn.last k ak.1 (by omega) hc.symm; omega
    · omega
  · rintro r (hx | rfl) hrd
    · rw [hF r (hne r hx), hτ r (hne r hx)]
      obtain ⟨a, b, c, d⟩ := h.src r hx hrd
      exact ⟨.inl a, b, c, d.imp id (fun d => ⟨(hD _).2 (.inl d.1), by rw [hτ _ (hne _ d.1.1)]; exact d.2⟩)⟩
    · rw [hFj, hτj]
      obtain ⟨a, b, c, d⟩ := hfX
      exact ⟨.inl a, b, c, d.imp (fun d => ⟨d.1, d.2.1⟩) (fun d => ⟨(hD _).2 (.inl d), by rw [hτ _ (hne _ a)]; exact h.tle _ d⟩)⟩
  · rintro r w p (hx | rfl) hrd hb
    · rw [hF r (hne r hx)] at hb
      have hw := (h.rows p w).1 (bef_mem hb).2
      rw [hτ r (hne r hx), hτ w (hne w hw.1.1)]
      exact h.agst r w p hx hrd hb
    · rw [hFj] at hb
      exfalso
      have hm : f ∈ s.R p := (bef_mem hb).1
      obtain ⟨q1, q2, q3⟩ := (h.rows p f).1 hm
      have hp : p = S.pl r := by rw [← q3]; exact hfX.2.2.1
      subst hp
      have he : (s.N (S.ck r)).filter (fun x => S.pl x == S.pl r) = [] := by
        apply Classical.byContradiction
        intro hne'
        unfold AbsSt.L at hf
        have hf2 : ((s.N (S.ck r)).filter (fun x => S.pl x == S.pl r)).getLast? = some f := by
          rw [List.getLast?_append] at hf
          cases hq : ((s.N (S.ck r)).filter (fun x => S.pl x == S.pl r)).getLast? with
          | none => exact absurd (List.getLast?_eq_none_iff.1 hq) hne'
          | some y => rw [hq] at hf; exact hf
        have := List.mem_of_getLast? hf2
        rw [List.mem_filter] at this
        have hq := h.note _ _ this.1
        exact q1.2 (by rw [hq.2.2.1]; exact this.1)
      unfold AbsSt.L at hf
      rw [he, List.append_nil] at hf
      obtain ⟨L', e⟩ := List.getLast?_eq_some_iff.1 hf
      have hnd := h.rnod (S.pl r)
      change Bef (s.R (S.pl r)) f w at hb
      rw [e] at hb hnd
      exact bef_last hnd hb
  · rintro i (hi | rfl) h3
    · rw [hv i (hne i hi)]; exact h.inL i hi h3
    · rw [hvj]; exact hfm
  · rintro i k (hi | rfl) (hk | rfl) h3 hik hc hp
    · rw [hv i (hne i hi), hv k (hne k hk)]; exact h.coh i k hi hk h3 hik hc hp
    · rw [hv i (hne i hi), hvj]
      have hm := h.inL i hi h3
      rw [hc, hp] at hm ⊢
      exact bef_of_last hm hf
    · have := hn.last k hk (by omega) hc.symm; omega
    · omega
  · rintro i k (hi | rfl) (hk | rfl) h3 hik hc hp h1 h2
    · rw [hF i (hne i hi)]; exact h.cohw i k hi hk h3 hik hc hp h1 h2
    · rw [hr] at h2; cases h2
    · have := hn.last k hk (by omega) hc.symm; omega
    · omega
theorem AInv.doInk {S : Sys} {s : AbsSt} {T : Nat} {z : Int} (h : AInv S s T z) (hT : 1 ≤ T) {j : Nat} (hn : Nxt S s j) (hr : S.rd j = false) (hz : S.cs j = z) (hN : s.N (S.ck j) = []) : AInv S (s.doInk S T j) T z := by
  have hne : ∀ i, s.X i → i ≠ j := fun i hi e => hn.new (by rw [← e]; exact hi)
  have hD : ∀ i, (s.doInk S T j).D S i ↔ s.D S i ∨ i = j := by
    intro i
    show ((s.X i ∨ i = j) ∧ i ∉ s.N (S.ck i)) ↔ _
    constructor
    · rintro ⟨h1 | rfl, h2⟩
      · exact .inl ⟨h1, h2⟩
      · exact .inr rfl
    · rintro (⟨h1, h2⟩ | rfl)
      · exact ⟨.inl h1, h2⟩
      · exact ⟨.inr rfl, fun hm => hn.new (h.note _ _ hm).1⟩
  have hτ : ∀ i, i ≠ j → (s.doInk S T j).τ i = s.τ i := fun i hi => by show (if i = j then T else s.τ i) = _; rw [if_neg hi]
  have hτj : (s.doInk S T j).τ j = T := by show (if j = j then T else s.τ j) = T; rw [if_pos rfl]
  have hR : ∀ p, (s.doInk S T j).R p = if p = S.pl j then s.R p ++ [j] else s.R p := fun p => rfl
  have hv : ∀ i, (s.doInk S T j).v S i = s.v S i := fun i => rfl
  have hvj : s.v S j = j := by unfold AbsSt.v; rw [hr]; rfl
  have hjR : ∀ p, j ∉ s.R p := fun p hm => hn.new ((h.rows p j).1 hm).1.1
  have hRs : ∀ p, (s.R p).Sublist ((s.doInk S T j).R p) := fun p => by
    rw [hR]
    split
    · exact List.sublist_append_left _ _
    · exact List.Sublist.refl _
  have hsub : ∀ c p, (s.L S c p).Sublist ((s.doInk S T j).L S c p) := fun c p => List.Sublist.append (hRs p) (List.Sublist.refl _)
  have hlast : (s.doInk S T j).L S (S.ck j) (S.pl j) = s.L S (S.ck j) (S.pl j) ++ [j] := by
    unfold AbsSt.L
    rw [hR, if_pos rfl]
    show s.R (S.pl j) ++ [j] ++ (s.N (S.ck j)).filter _ = s.R (S.pl j) ++ (s.N (S.ck j)).filter _ ++ [j]
    rw [hN]
    simp
  refine { h with beg := fun i hi => ⟨.inl (h.beg i hi).1, (h.beg i hi).2.1, (h.beg i hi).2.2.1, (h.beg i hi).2.2.2.1, by rw [hτ i (hne i (h.beg i hi).1)]; exact (h.beg i hi).2.2.2.2.1, (h.beg i hi).2.2.2.2.2⟩, lt := ?_, down := ?_, note := ?_, pend := ?_, rows := ?_, rnod := ?_, rord := ?_, tle := ?_, tpos := ?_, same := ?_, mate := ?_, now := ?_, kept := ?_, src := ?_, agst := ?_, inL := ?_, coh := ?_, cohw := ?_ }
  · rintro i (hi | rfl)
    · exact h.lt i hi
    · exact hn.lt
  · rintro i k (hk | rfl) h3 hik hc
    · exact .inl (h.down i k hk h3 hik hc)
    · exact .inl (hn.all i h3 hik hc)
  · intro c x hx
    exact ⟨.inl (h.note c x hx).1, (h.note c x hx).2⟩
  · rintro c x k hx (hk | rfl) hxk hc
    · exact h.pend c x k hx hk hxk hc
    · change x ∈ s.N c at hx
      rw [← hc, hN] at hx
      cases hx
  · intro p x
    rw [hD, hR]
    by_cases hp : p = S.pl j
    · rw [if_pos hp, List.mem_append, h.rows p x]
      constructor
      · rintro (⟨a, b⟩ | hx)
        · exact ⟨.inl a, b⟩
        · have e : x = j := by simpa using hx
          exact ⟨.inr e, by rw [e]; exact hr, by rw [e, hp]⟩
      · rintro ⟨a | rfl, b⟩
        · exact .inl ⟨a, b⟩
        · exact .inr (by simp)
    · rw [if_neg hp, h.rows p x]
      constructor
      · rintro ⟨a, b⟩; exact ⟨.inl a, b⟩
      · rintro ⟨a | rfl, b⟩
        · exact ⟨a, b⟩
        · exact absurd b.2.symm hp
  · intro p
    rw [hR]
    split
    · rw [List.nodup_append]
      refine ⟨h.rnod p, by simp, fun x hx y hy e => ?_⟩
      have : y = j := by simpa using hy
      exact hjR p (by rw [← this, ← e]; exact hx)
    · exact h.rnod p
  · intro p
    have old : (s.R p).Pairwise (fun x y => (s.doInk S T j).τ x ≤ (s.doInk S T j).τ y) := (h.rord p).imp_of_mem (fun {x y} hx hy hxy => by
      rw [hτ x (hne x ((h.rows p x).1 hx).1.1), hτ y (hne y ((h.rows p y).1 hy).1.1)]
      exact hxy)
    rw [hR]
    split
    · rw [List.pairwise_append]
      refine ⟨old, by simp, fun x hx y hy => ?_⟩
      have : y = j := by simpa using hy
      have hx' := ((h.rows p x).1 hx).1
      rw [this, hτj, hτ x (hne x hx'.1)]
      exact h.tle x hx'
    · exact old
  · intro i hi
    rcases (hD i).1 hi with ai | rfl
    · rw [hτ i (hne i ai.1)]; exact h.tle i ai
    · rw [hτj]; exact Nat.le_refl _
  · intro i hi h3
    rcases (hD i).1 hi with ai | rfl
    · rw [hτ i (hne i ai.1)]; exact h.tpos i ai h3
    · rw [hτj]; exact hT
  · intro i k hi hk h3 h3' e
    rcases (hD i).1 hi with ai | rfl <;> rcases (hD k).1 hk with ak | rfl
    · rw [hτ i (hne i ai.1), hτ k (hne k ak.1)] at e; exact h.same i k ai ak h3 h3' e
    · rw [hτ i (hne i ai.1), hτj] at e; rw [hz]; exact (h.now i ai h3).1 e
    · rw [hτ k (hne k ak.1), hτj] at e; rw [hz]; exact ((h.now k ak h3').1 e.symm).symm
    · rfl
  · intro i k hi hk h3 h3' e
    rcases (hD i).1 hi with ai | rfl <;> rcases (hD k).1 hk with ak | rfl
    · rw [hτ i (hne i ai.1), hτ k (hne k ak.1)]; exact h.mate i k ai ak h3 h3' e
    · rw [hτ i (hne i ai.1), hτj]; exact (h.now i ai h3).2 (by rw [e, hz])
    · rw [hτ k (hne k ak.1), hτj]; exact ((h.now k ak h3').2 (by rw [← e, hz])).symm
    · rfl
  · intro i hi h3
    rcases (hD i).1 hi with ai | rfl
    · rw [hτ i (hne i ai.1)]; exact h.now i ai h3
    · rw [hτj, hz]; simp
  · intro i k hi hk h3 hik hc hcs hx
    rcases (hD i).1 hi with ai | rfl <;> rcases (hD k).1 hk with ak | rfl
    · rw [hτ i (hne i ai.1), hτ k (hne k ak.1)]; exact h.kept i k ai ak h3 hik hc hcs hx
    · rw [hτ i (hne i ai.1), hτj]
      have h1 := h.tle i ai
      have h2 : s.τ i ≠ T := fun e => hcs (by rw [hz]; exact (h.now i ai h3).1 e)
      omega
    · have := hn.last k ak.1 (by omega) hc.symm; omega
    · omega
  · rintro r (hx | rfl) hrd
    · rw [hτ r (hne r hx)]
      obtain ⟨a, b, c, d⟩ := h.src r hx hrd
      exact ⟨.inl a, b, c, d.imp id (fun d => ⟨(hD _).2 (.inl d.1), by show (s.doInk S T j).τ (s.F r) ≤ _; rw [hτ _ (hne _ d.1.1)]; exact d.2⟩)⟩
    · rw [hr] at hrd; cases hrd
  · rintro r w p (hx | rfl) hrd hb
    · rw [hτ r (hne r hx)]
      by_cases hw : w = j
      · rw [hw, hτj]; exact h.tle r (h.read_done hx hrd)
      · rw [hτ w hw]
        rw [hR] at hb
        by_cases hp : p = S.pl j
        · rw [if_pos hp] at hb
          exact h.agst r w p hx hrd (bef_snoc_old hb hw)
        · rw [if_neg hp] at hb
          exact h.agst r w p hx hrd hb
    · rw [hr] at hrd; cases hrd
  · rintro i (hi | rfl) h3
    · exact (hsub _ _).subset (h.inL i hi h3)
    · rw [hlast, hv, hvj]; simp
  · rintro i k (hi | rfl) (hk | rfl) h3 hik hc hp
    · exact (h.coh i k hi hk h3 hik hc hp).imp id (fun hb => hb.trans (hsub _ _))
    · refine .inr ?_
      rw [hc, hp, hlast, hv, hv, hvj, ← hc, ← hp]
      exact bef_snoc (h.inL i hi h3)
    · have := hn.last k hk (by omega) hc.symm; omega
    · omega
  · rintro i k (hi | rfl) (hk | rfl) h3 hik hc hp h1 h2
    · exact h.cohw i k hi hk h3 hik hc hp h1 h2
    · exact hne _ (h.src i hi h1).1
    · have := hn.last k hk (by omega) hc.symm; omega
    · omega
theorem AInv.doFlush {S : Sys} {s : AbsSt} {T : Nat} {z : Int} (h : AInv S s T z) (hT : 1 ≤ T) {c : Int} {x : Nat} {rest : List Nat} (hN : s.N c = x :: rest) (hz : S.cs x = z) : AInv S (s.doFlush S T c x rest) T z := by
  have hx0 := h.note c x (by rw [hN]; simp)
  obtain ⟨hxX, hx3, hxc, hxr⟩ := hx0
  have hord := h.nord c
  rw [hN, List.pairwise_cons] at hord
  have hxrest : x ∉ rest := fun hm => by have := hord.1 x hm; omega
  have hxN : x ∈ s.N (S.ck x) := by rw [hxc, hN]; simp
  have hxD : ¬ s.D S x := fun hd => hd.2 hxN
  have hne : ∀ i, s.D S i → i ≠ x := fun i hi e => hxD (by rw [← e]; exact hi)
  have nmem : ∀ c' y, y ∈ (s.doFlush S T c x rest).N c' ↔ y ∈ s.N c' ∧ ¬ (c' = c ∧ y = x) := by
    intro c' y
    show y ∈ (if c' = c then rest else s.N c') ↔ _
    by_cases e : c' = c
    · subst e
      rw [if_pos rfl, hN]
      constructor
      · intro hm
        exact ⟨List.mem_cons_of_mem _ hm, fun hq => hxrest (by rw [← hq.2]; exact hm)⟩
      · rintro ⟨hm, hq⟩
        rcases List.mem_cons.1 hm with rfl | hm
        · exact absurd ⟨rfl, rfl⟩ hq
        · exact hm
    · rw [if_neg e]
      exact ⟨fun hm => ⟨hm, fun hq => e hq.1⟩, fun hm => hm.1⟩
  have hD : ∀ i, (s.doFlush S T c x rest).D S i ↔ s.D S i ∨ i = x := by
    intro i
    unfold AbsSt.D
    rw [nmem]
    show (s.X i ∧ _) ↔ _
    constructor
    · rintro ⟨h1, h2⟩
      by_cases e : i = x
      · exact .inr e
      · exact .inl ⟨h1, fun hm => h2 ⟨hm, fun hq => e hq.2⟩⟩
    · rintro (⟨h1, h2⟩ | rfl)
      · exact ⟨h1, fun hm => h2 hm.1⟩
      · exact ⟨hxX, fun hm => hm.2 ⟨hxc, rfl⟩⟩
  have hτ : ∀ i, i ≠ x → (s.doFlush S T c x rest).τ i = s.τ i := fun i hi => by show (if i = x then T else s.τ i) = _; rw [if_neg hi]
  have hτx : (s.doFlush S T c x rest).τ x = T := by show (if x = x then T else s.τ x) = T; rw [if_pos rfl]
  have hR : ∀ p, (s.doFlush S T c x rest).R p = if p = S.pl x then s.R p ++ [x] else s.R p := fun p => rfl
  have hxR : ∀ p, x ∉ s.R p := fun p hm => hxD ((h.rows p x).1 hm).1
  have hRs : ∀ p, (s.R p).Sublist ((s.doFlush S T c x rest).R p) := fun p => by
    rw [hR]
    split
    · exact List.sublist_append_left _ _
    · exact List.Sublist.refl _
  have hrne : ∀ r, S.rd r = true → r ≠ x := fun r hr e => by rw [e, hxr] at hr; cases hr
  have hsub : ∀ c' p, (s.L S c' p).Sublist ((s.doFlush S T c x rest).L S c' p) := by
    intro c' p
    by_cases e : c' = c
    · subst e
      have : (s.doFlush S T c' x rest).L S c' p = s.L S c' p := by
        unfold AbsSt.L
        rw [hR]
        show _ ++ (if c' = c' then rest else s.N c').filter _ = _
        rw [if_pos rfl, hN]
        by_cases hp : p = S.pl x
        · rw [if_pos hp, List.filter_cons_of_pos (by simp [hp]), List.append_assoc]
          rfl
        · rw [if_neg hp, List.filter_cons_of_neg (by simp; exact fun e => hp e.symm)]
      rw [this]
      exact List.Sublist.refl _
    · refine List.Sublist.append (hRs p) ?_
      show List.Sublist _ ((if c' = c then rest else s.N c').filter _)
      rw [if_neg e]
      exact List.Sublist.refl _
  refine { h with beg := fun i hi => ⟨(h.beg i hi).1, (h.beg i hi).2.1, (h.beg i hi).2.2.1, (h.beg i hi).2.2.2.1, by rw [hτ i (by omega)]; exact (h.beg i hi).2.2.2.2.1, (h.beg i hi).2.2.2.2.2⟩, note := ?_, nord := ?_, pend := ?_, rows := ?_, rnod := ?_, rord := ?_, tle := ?_, tpos := ?_, same := ?_, mate := ?_, now := ?_, kept := ?_, src := ?_, agst := ?_, inL := ?_, coh := ?_ }
  · intro c' y hy
    exact h.note c' y ((nmem c' y).1 hy).1
  · intro c'
    show (if c' = c then rest else s.N c').Pairwise _
    split
    · exact hord.2
    · exact h.nord c'
  · intro c' y k hy hk hyk hc
    obtain ⟨hy1, hy2⟩ := (nmem c' y).1 hy
    rcases h.pend c' y k hy1 hk hyk hc with hp | hp
    · exact .inl hp
    · refine .inr ((nmem c' k).2 ⟨hp, ?_⟩)
      rintro ⟨rfl, rfl⟩
      rw [hN] at hy1
      rcases List.mem_cons.1 hy1 with rfl | hm
      · exact hy2 ⟨rfl, rfl⟩
      · have := hord.1 y hm; omega
  · intro p y
    rw [hD, hR]
    by_cases hp : p = S.pl x
    · rw [if_pos hp, List.mem_append, h.rows p y]
      constructor
      · rintro (⟨a, b⟩ | hy)
        · exact ⟨.inl a, b⟩
        · have e : y = x := by simpa using hy
          exact ⟨.inr e, by rw [e]; exact hxr, by rw [e, hp]⟩
      · rintro ⟨a | rfl, b⟩
        · exact .inl ⟨a, b⟩
        · exact .inr (by simp)
    · rw [if_neg hp, h.rows p y]
      constructor
      · rintro ⟨a, b⟩; exact ⟨.inl a, b⟩
      · rintro ⟨a | rfl, b⟩
        · exact ⟨a, b⟩
        · exact absurd b.2.symm hp
  · intro p
    rw [hR]
    split
    · rw [List.nodup_append]
      refine ⟨h.rnod p, by simp, fun y hy w hw e => ?_⟩
      have : w = x := by simpa using hw
      exact hxR p (by rw [← this, ← e]; exact hy)
    · exact h.rnod p
  · intro p
    have old : (s.R p).Pairwise (fun y w => (s.doFlush S T c x rest).τ y ≤ (s.doFlush S T c x rest).τ w) := (h.rord p).imp_of_mem (fun {y w} hy hw hyw => by
      rw [hτ y (hne y ((h.rows p y).1 hy).1), hτ w (hne w ((h.rows p w).1 hw).1)]
      exact hyw)
    rw [hR]
    split
    · rw [List.pairwise_append]
      refine ⟨old, by simp, fun y hy w hw => ?_⟩
      have : w = x := by simpa using hw
      have hy' := ((h.rows p y).1 hy).1
      rw [this, hτx, hτ y (hne y hy')]
      exact h.tle y hy'
    · exact old
  · intro i hi
    rcases (hD i).1 hi with ai | rfl
    · rw [hτ i (hne i ai)]; exact h.tle i ai
    · rw [hτx]; exact Nat.le_refl _
  · intro i hi h3
    rcases (hD i).1 hi with ai | rfl
    · rw [hτ i (hne i ai)]; exact h.tpos i ai h3
    · rw [hτx]; exact hT
  · intro i k hi hk h3 h3' e
    rcases (hD i).1 hi with ai | rfl <;> rcases (hD k).1 hk with ak | rfl
    · rw [hτ i (hne i ai), hτ k (hne k ak)] at e; exact h.same i k ai ak h3 h3' e
    · rw [hτ i (hne i ai), hτx] at e; rw [hz]; exact (h.now i ai h3).1 e
    · rw [hτ k (hne k ak), hτx] at e; rw [hz]; exact ((h.now k ak h3').1 e.symm).symm
    · rfl
  · intro i k hi hk h3 h3' e
    rcases (hD i).1 hi with ai | rfl <;> rcases (hD k).1 hk with ak | rfl
    · rw [hτ i (hne i ai), hτ k (hne k ak)]; exact h.mate i k ai ak h3 h3' e
    · rw [hτ i (hne i ai), hτx]; exact (h.now i ai h3).2 (by rw [e, hz])
    · rw [hτ k (hne k ak), hτx]; exact ((h.now k ak h3').2 (by rw [← e, hz])).symm
    · rfl
  · intro i hi h3
    rcases (hD i).1 hi with ai | rfl
    · rw [hτ i (hne i ai)]; exact h.now i ai h3
    · rw [hτx, hz]; simp
  · intro i k hi hk h3 hik hc hcs hx
    rcases (hD i).1 hi with ai | rfl <;> rcases (hD k).1 hk with ak | rfl
    · rw [hτ i (hne i ai), hτ k (hne k ak)]; exact h.kept i k ai ak h3 hik hc hcs hx
    · rw [hτ i (hne i ai), hτx]
      have h1 := h.tle i ai
      have h2 : s.τ i ≠ T := fun e => hcs (by rw [hz]; exact (h.now i ai h3).1 e)
      omega
    · rcases h.pend _ _ _ hxN ak.1 hik hc.symm with hp | hp
      · rw [hx] at hp; cases hp.2
      · exact absurd (by rw [← hc]; exact hp) ak.2
    · omega
  · intro r hx hrd
    rw [hτ r (hrne r hrd)]
    obtain ⟨a, b, e, d⟩ := h.src r hx hrd
    exact ⟨a, b, e, d.imp id (fun d => ⟨(hD _).2 (.inl d.1), by show (s.doFlush S T c x rest).τ (s.F r) ≤ _; rw [hτ _ (hne _ d.1)]; exact d.2⟩)⟩
  · intro r w p hx hrd hb
    rw [hτ r (hrne r hrd)]
    by_cases hw : w = x
    · rw [hw, hτx]; exact h.tle r (h.read_done hx hrd)
    · rw [hτ w hw]
      rw [hR] at hb
      by_cases hp : p = S.pl x
      · rw [if_pos hp] at hb
        exact h.agst r w p hx hrd (bef_snoc_old hb hw)
      · rw [if_neg hp] at hb
        exact h.agst r w p hx hrd hb
  · intro i hi h3
    exact (hsub _ _).subset (h.inL i hi h3)
  · intro i k hi hk h3 hik hc hp
    exact (h.coh i k hi hk h3 hik hc hp).imp id (fun hb => hb.trans (hsub _ _))
end Go.Proofs.YtgakfkjjkobpiaaGreat
