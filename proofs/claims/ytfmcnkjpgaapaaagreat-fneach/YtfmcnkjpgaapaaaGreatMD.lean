/- Several texts in one. -/
import Derived.Test.YtfmcnkjpgaapaaaGreatMC
import Derived.Test.YtfmcnkjpgaapaaaGreatMA
import Derived.Deep.QuietTactic
import Derived.BigQuiet
import Derived.Test.YtfmcnkjpgaapaaaGreatMB
import Derived.BigRegion
import Derived.RegionTactic
import Derived.Deep.RegionHeld3
import Derived.Laws.Tables
import Derived.ChangeKeysEq
import Derived.Lib.Hide
/- What the walk over the seats finds is just all rows, in their order; whoever has a seat that he may have, and no other, has right rows. -/
namespace Go.Proofs.YtfmcnkjpgaapaaaGreat

theorem all_app : ∀ (s1 s2 : List (List Int)) (a : List Int), allS (s1 ++ s2) a = (allS s1 a).flatMap (allS s2)
  | [], s2, a => by simp [allS]
  | s :: r, s2, a => by
    rw [List.cons_append, allS, allS, List.flatMap_assoc]
    congr 1
    funext x
    exact all_app r s2 _
theorem flat_congr {α β : Type} {l : List α} {f g : α → List β} (h : ∀ x ∈ l, f x = g x) : l.flatMap f = l.flatMap g := by
  induction l with
  | nil => rfl
  | cons x r ih => rw [List.flatMap_cons, List.flatMap_cons, h x (by simp), ih (fun y hy => h y (by simp [hy]))]
theorem range_flat {β : Type} (b : Nat) (hb : 0 < b) (g : Nat → Nat → β) : ∀ a : Nat, (List.range a).flatMap (fun i => (List.range b).map (g i)) = (List.range (a * b)).map (fun n => g (n / b) (n % b))
  | 0 => by simp
  | a + 1 => by
    rw [List.range_succ, List.flatMap_append, range_flat b hb g a, Nat.succ_mul, List.range_add, List.map_append, List.map_map]
    congr 1
    simp only [List.flatMap_cons, List.flatMap_nil, List.append_nil]
    refine List.map_congr_left (fun j hj => ?_)
    rw [List.mem_range] at hj
    have h1 : (a * b + j) / b = a := by rw [Nat.mul_comm, Nat.mul_add_div hb, Nat.div_eq_of_lt hj]; omega
    have h2 : (a * b + j) % b = j := by rw [Nat.mul_comm, Nat.mul_add_mod, Nat.mod_eq_of_lt hj]
    simp only [Function.comp, h1, h2]
def facN (m : Nat) : Nat := (fac m).toNat
theorem facN_cast (m : Nat) : ((facN m : Nat) : Int) = fac m := by
  have := fac_pos m
  unfold facN
  omega
theorem facN_pos (m : Nat) : 0 < facN m := by
  have := fac_pos m
  unfold facN
  omega
theorem facN_more (m : Nat) : facN (m + 1) = (m + 1) * facN m := by
  have h := facN_cast (m + 1)
  rw [fac, ← facN_cast m] at h
  have : ((facN m : Nat) : Int) * ((m : Int) + 1) = (((m + 1) * facN m : Nat) : Int) := by
    rw [Int.natCast_mul, Int.mul_comm]; rfl
  rw [this] at h
  exact Int.ofNat.inj h
theorem filter_erase : ∀ (l : List Int) (k : Nat), l.Nodup → k < l.length → l.filter (fun y => !(l.getD k 0 == y)) = l.eraseIdx k
  | [], k, _, h => by simp at h
  | x :: r, 0, hn, _ => by
    rw [List.nodup_cons] at hn
    rw [List.getD_cons_zero, List.eraseIdx_cons_zero, List.filter_cons, if_neg (by simp), List.filter_eq_self]
    intro y hy
    have : x ≠ y := fun e => hn.1 (by rw [e]; exact hy)
    simpa using this
  | x :: r, k + 1, hn, h => by
    rw [List.nodup_cons] at hn
    have hk : k < r.length := by simpa using h
    have hm : r.getD k 0 ∈ r := by
      rw [List.getD_eq_getElem?_getD, List.getElem?_eq_getElem hk]
      exact List.getElem_mem hk
    have hne : r.getD k 0 ≠ x := fun e => hn.1 (by rw [← e]; exact hm)
    rw [List.getD_cons_succ, List.eraseIdx_cons_succ, List.filter_cons, if_pos (by simpa using hne), filter_erase r k hn.2 hk]
theorem isB_snoc (a : List Int) (x y : Int) : isB (a ++ [x]) y = (isB a y || (x == y)) := by
  unfold isB
  rw [List.any_append]
  simp
theorem next_snoc (l a : List Int) (x : Int) : nextL l (a ++ [x]) (-1) = (nextL l a (-1)).filter (fun y => !(x == y)) := by
  unfold nextL
  rw [List.filter_filter]
  refine List.filter_congr (fun y _ => ?_)
  rw [isB_snoc]
  cases isB a y <;> cases (x == y) <;> simp
theorem list_range (l : List Int) : l = (List.range l.length).map (fun k => l.getD k 0) := by
  refine List.ext_getElem (by simp) (fun i h1 h2 => ?_)
  simp [List.getElem?_eq_getElem h1]
/-- All orders of those that are left. -/
theorem ord_all : ∀ (m : Nat) (l a : List Int), (nextL l a (-1)).Nodup → (nextL l a (-1)).length = m → allS (List.replicate m l) a = (List.range (facN m)).map (fun n : Nat => a ++ ordL m (nextL l a (-1)) (n : Int))
  | 0, l, a, _, _ => by
    have : facN 0 = 1 := by decide
    rw [this]
    simp [allS, ordL]
  | m + 1, l, a, hn, hl => by
    rw [List.replicate_succ, allS]
    have e1 : (nextL l a (-1)).flatMap (fun x => allS (List.replicate m l) (a ++ [x])) = (List.range (m + 1)).flatMap (fun k => (List.range (facN m)).map (fun n : Nat => a ++ [(nextL l a (-1)).getD k 0] ++ ordL m ((nextL l a (-1)).eraseIdx k) (n : Int))) := by
      have e0 := list_range (nextL l a (-1))
      rw [hl] at e0
      conv => lhs; rw [e0, List.flatMap_map]
      refine flat_congr (fun k hk => ?_)
      rw [List.mem_range] at hk
      have hx := next_snoc l a ((nextL l a (-1)).getD k 0)
      rw [filter_erase _ k hn (by omega)] at hx
      have ih := ord_all m l (a ++ [(nextL l a (-1)).getD k 0]) (by rw [hx]; exact erase_nodup hn k) (by rw [hx]; exact erase_len hl hk)
      rw [hx] at ih
      exact ih
    rw [e1, range_flat _ (facN_pos m) (fun k n => a ++ [(nextL l a (-1)).getD k 0] ++ ordL m ((nextL l a (-1)).eraseIdx k) (n : Int)), facN_more]
    refine List.map_congr_left (fun n _ => ?_)
    rw [ordL, ← facN_cast m, ← Int.natCast_ediv, ← Int.natCast_emod, Int.toNat_natCast, List.append_assoc]
    rfl
theorem next_all {l a : List Int} (h0 : ∀ x ∈ l, 0 ≤ x) (hd : ∀ x ∈ l, isB a x = false) : nextL l a (-1) = l := by
  unfold nextL
  rw [List.filter_eq_self]
  intro x hx
  have := h0 x hx
  rw [hd x hx]
  simp
  omega
theorem isB_false {l : List Int} {x : Int} : isB l x = false ↔ x ∉ l := by
  constructor
  · intro h hm
    rw [mem_isB hm] at h
    cases h
  · intro h
    cases hb : isB l x
    · rfl
    · exact absurd (isB_mem hb) h
/-- All orders of the writes at one place. -/
theorem place_all {l a : List Int} (hl : 0 < l.length) (hn : l.Nodup) (h0 : ∀ x ∈ l, 0 ≤ x) (hd : ∀ x ∈ l, x ∉ a) : allS (seatP l) a = (List.range (facN (l.length - 1))).map (fun n : Nat => a ++ partL l (n : Int)) := by
  match l, hl with
  | x :: r, _ =>
    rw [List.nodup_cons] at hn
    have e1 : nextL [x] a (-1) = [x] := next_all (fun y hy => h0 y (by simp at hy; simp [hy])) (fun y hy => isB_false.2 (hd y (by simp at hy; simp [hy])))
    have e2 : nextL r (a ++ [x]) (-1) = r := next_all (fun y hy => h0 y (by simp [hy])) (fun y hy => isB_false.2 (by
      rw [List.mem_append]
      rintro (h | h)
      · exact hd y (by simp [hy]) h
      · rw [List.mem_singleton] at h
        exact hn.1 (by rw [← h]; exact hy)))
    have e3 := ord_all r.length r (a ++ [x]) (by rw [e2]; exact hn.2) (by rw [e2])
    rw [e2] at e3
    rw [seatP_cons, allS, e1, List.flatMap_cons, List.flatMap_nil, List.append_nil, e3]
    simp only [List.length_cons, Nat.add_sub_cancel]
    refine List.map_congr_left (fun n _ => ?_)
    rw [partL, List.append_assoc]
    simp
theorem part_mem {l : List Int} {n : Nat} (hl : 0 < l.length) (h : n < facN (l.length - 1)) {x : Int} : x ∈ partL l (n : Int) ↔ x ∈ l := by
  have hc := facN_cast (l.length - 1)
  exact (part_perm hl (Int.natCast_nonneg _) (by omega)).mem_iff
theorem rcnt_nat (es : List Ev) : ((facN ((plcW es 0).length - 1) * facN ((plcW es 1).length - 1) * facN ((plcW es 2).length - 1) : Nat) : Int) = rcntL es := by
  unfold rcntL
  rw [Int.natCast_mul, Int.natCast_mul, facN_cast, facN_cast, facN_cast]
/-- All rows. -/
theorem all_rows {dss : List (List Dd)} (hb : workB dss = true) : allS (seatsL (eventsB dss)) [] = (List.range (rcntL (eventsB dss)).toNat).map (fun n : Nat => ratL (eventsB dss) (n : Int)) := by
  obtain ⟨p0, -⟩ := plcW_first hb 0 (by decide)
  obtain ⟨p1, -⟩ := plcW_first hb 1 (by decide)
  obtain ⟨p2, -⟩ := plcW_first hb 2 (by decide)
  have h12 := eventsB_12 dss
  generalize eventsB dss = es at *
  have dis : ∀ {p q : Nat}, p ≠ q → ∀ a ∈ plcW es p, a ∉ plcW es q := fun {p q} hpq a ha hb => by
    have h1 := (plcW_mem h12 ha).2
    have h2 := (plcW_mem h12 hb).2
    rw [h2] at h1
    omega
  have e0 := place_all (a := []) p0 (plcW_nodup h12 0) (fun x hx => (plcW_mem h12 hx).1.1) (fun x _ => by simp)
  unfold seatsL
  rw [all_app, all_app, e0]
  have e1 : ((List.range (facN ((plcW es 0).length - 1))).map (fun n : Nat => [] ++ partL (plcW es 0) (n : Int))).flatMap (allS (seatP (plcW es 1))) = (List.range (facN ((plcW es 0).length - 1) * facN ((plcW es 1).length - 1))).map (fun n : Nat => partL (plcW es 0) ((n / facN ((plcW es 1).length - 1) : Nat) : Int) ++ partL (plcW es 1) ((n % facN ((plcW es 1).length - 1) : Nat) : Int)) := by
    rw [List.flatMap_map, ← range_flat _ (facN_pos _) (fun i j => partL (plcW es 0) ((i : Nat) : Int) ++ partL (plcW es 1) ((j : Nat) : Int))]
    refine flat_congr (fun n hn => ?_)
    rw [List.mem_range] at hn
    rw [List.nil_append]
    exact place_all p1 (plcW_nodup h12 1) (fun x hx => (plcW_mem h12 hx).1.1) (fun x hx h => dis (by decide) x hx ((part_mem p0 hn).1 h))
  rw [e1, List.flatMap_map]
  have e2 : (List.range (facN ((plcW es 0).length - 1) * facN ((plcW es 1).length - 1))).flatMap (fun n : Nat => allS (seatP (plcW es 2)) (partL (plcW es 0) ((n / facN ((plcW es 1).length - 1) : Nat) : Int) ++ partL (plcW es 1) ((n % facN ((plcW es 1).length - 1) : Nat) : Int))) =
      (List.range (facN ((plcW es 0).length - 1) * facN ((plcW es 1).length - 1))).flatMap (fun n : Nat => (List.range (facN ((plcW es 2).length - 1))).map (fun m : Nat => partL (plcW es 0) ((n / facN ((plcW es 1).length - 1) : Nat) : Int) ++ partL (plcW es 1) ((n % facN ((plcW es 1).length - 1) : Nat) : Int) ++ partL (plcW es 2) (m : Int))) := by
    refine flat_congr (fun n hn => ?_)
    rw [List.mem_range] at hn
    refine place_all p2 (plcW_nodup h12 2) (fun x hx => (plcW_mem h12 hx).1.1) (fun x hx h => ?_)
    rcases List.mem_append.1 h with h | h
    · exact dis (by decide) x hx ((part_mem p0 (Nat.div_lt_of_lt_mul (by rw [Nat.mul_comm]; exact hn))).1 h)
    · exact dis (by decide) x hx ((part_mem p1 (Nat.mod_lt _ (facN_pos _))).1 h)
  rw [e2, range_flat _ (facN_pos _) (fun n m => partL (plcW es 0) ((n / facN ((plcW es 1).length - 1) : Nat) : Int) ++ partL (plcW es 1) ((n % facN ((plcW es 1).length - 1) : Nat) : Int) ++ partL (plcW es 2) ((m : Nat) : Int))]
  rw [← rcnt_nat, Int.toNat_natCast]
  refine List.map_congr_left (fun n hn => ?_)
  rw [List.mem_range] at hn
  have hr := rat_parts (es := es) (n := (n : Int)) (Int.natCast_nonneg _) (by rw [← rcnt_nat]; exact Int.ofNat_lt.2 hn)
  unfold ratL
  rw [Int.emod_eq_of_lt hr.2.2.1 hr.2.2.2, ← facN_cast, ← facN_cast, ← Int.natCast_ediv, ← Int.natCast_ediv, ← Int.natCast_emod, ← Int.natCast_emod]
theorem rcnt_pos (es : List Ev) : 0 < rcntL es := Int.mul_pos (Int.mul_pos (fac_pos _) (fac_pos _)) (fac_pos _)
theorem fac_mono9 {m : Nat} (h : m ≤ 9) : fac m ≤ 362880 := by
  have : ∀ j : Nat, j ≤ 9 → fac j ≤ 362880 := by decide +kernel
  exact this m h
theorem plcW_9 {es : List Ev} (hx : es.length ≤ 9) (p : Nat) : (plcW es p).length ≤ 9 := by
  unfold plcW idxB
  rw [if_pos (by omega)]
  have := idxK_len (toE (p : Int)) es es.length
  omega
/-- What there is: as a list, and how many. -/
theorem all_none {dss : List (List Dd)} (hb : workB dss = false) : allS (seatsL (eventsB dss)) [] = [[]] := by
  have : eventsB dss = [] := by rw [eventsB, hb]; rfl
  rw [this]
  rfl
end Go.Proofs.YtfmcnkjpgaapaaaGreat

/- Rows as the program asks for them (each seat by itself), and the lines of rows in the program's order: the same as the specification's. -/
namespace Go.Proofs.YtfmcnkjpgaapaaaGreat
open Go.RowKit

/-- Have the first k of the list seats that they may have, none of them twice? -/
def sitK (ss : List (List Int)) (rows : List Int) : Nat → Bool
  | 0 => true
  | k + 1 => sitK ss rows k && (isB (ss.getD k []) (rows.getD k 0) && !isB (rows.take k) (rows.getD k 0))
theorem sitK_false {ss : List (List Int)} {rows : List Int} {k : Nat} (h : sitK ss rows k = false) : ∀ m : Nat, k ≤ m → sitK ss rows m = false
  | 0, hm => by obtain rfl : k = 0 := by omega
                exact h
  | m + 1, hm => by
    by_cases e : k = m + 1
    · subst e; exact h
    · rw [sitK, sitK_false h m (by omega)]; rfl
theorem sitK_iff {ss : List (List Int)} {rows : List Int} : ∀ k : Nat, sitK ss rows k = true ↔ ∀ i, i < k → rows.getD i 0 ∈ ss.getD i [] ∧ rows.getD i 0 ∉ rows.take i
  | 0 => by simp [sitK]
  | k + 1 => by
    rw [sitK, Bool.and_eq_true, sitK_iff k, Bool.and_eq_true, Bool.not_eq_true', isB_false]
    constructor
    · rintro ⟨h1, h2, h3⟩ i hi
      by_cases e : i = k
      · subst e; exact ⟨isB_mem h2, h3⟩
      · exact h1 i (by omega)
    · intro h
      exact ⟨fun i hi => h i (by omega), mem_isB (h k (by omega)).1, (h k (by omega)).2⟩
theorem getD_at {l : List Int} {i : Nat} (h : i < l.length) : l.getD i 0 = l[i] := by
  rw [List.getD_eq_getElem?_getD, List.getElem?_eq_getElem h]; rfl
theorem getD_in {l : List Int} {i : Nat} (h : i < l.length) : l.getD i 0 ∈ l := by
  rw [getD_at h]; exact List.getElem_mem h
theorem nodup_of_take {rows : List Int} (h : ∀ i, i < rows.length → rows.getD i 0 ∉ rows.take i) : rows.Nodup := by
  rw [List.nodup_iff_pairwise_ne, List.pairwise_iff_getElem]
  intro i j hi hj hij e
  refine h j hj ?_
  rw [getD_at hj, ← e]
  exact List.mem_take_iff_getElem.2 ⟨i, by omega, rfl⟩
theorem take_of_nodup {rows : List Int} (h : rows.Nodup) {i : Nat} (hi : i < rows.length) : rows.getD i 0 ∉ rows.take i := by
  intro hm
  obtain ⟨j, hj, e⟩ := List.mem_take_iff_getElem.1 hm
  rw [getD_at hi] at e
  have := (List.getElem_inj h).1 e
  omega
/-- One place. -/
theorem part_sits {rows l : List Int} {at0 p : Nat} (hn : rows.Nodup) (hl : l.Nodup) (h0 : 0 < l.length) (hf : l.getD 0 0 = (p : Int)) (hle : at0 + l.length ≤ rows.length) :
    okP rows at0 l p = true ↔ ∀ j, j < l.length → rows.getD (at0 + j) 0 ∈ seatAt l j := by
  have hpl : ((rows.drop at0).take l.length).length = l.length := by rw [List.length_take, List.length_drop]; omega
  have hpart : ∀ j, j < l.length → rows.getD (at0 + j) 0 ∈ (rows.drop at0).take l.length := fun j hj => by
    refine List.mem_take_iff_getElem.2 ⟨j, by rw [List.length_drop]; omega, ?_⟩
    rw [List.getElem_drop, getD_at (by omega)]
  have hpn : ((rows.drop at0).take l.length).Nodup := (hn.sublist (List.drop_sublist at0 rows)).sublist (List.take_sublist _ _)
  have htk : l.take 1 = [l.getD 0 0] := by
    match l, h0 with
    | x :: r, _ => simp
  have hcons : l = l.getD 0 0 :: l.drop 1 := by
    match l, h0 with
    | x :: r, _ => simp
  constructor
  · intro h j hj
    have hperm := (okP_perm hl h).2
    have hm := hperm.mem_iff.2 (hpart j hj)
    unfold okP at h
    simp only [Bool.and_eq_true, decide_eq_true_eq, beq_iff_eq] at h
    unfold seatAt
    by_cases e : j = 0
    · subst e
      rw [if_pos rfl, htk, hf, Nat.add_zero, h.1.2]
      simp
    · rw [if_neg e]
      rw [hcons] at hm
      rcases List.mem_cons.1 hm with hm | hm
      · exfalso
        rw [hf, ← h.1.2, getD_at (by omega), getD_at (by omega)] at hm
        have := (List.getElem_inj hn).1 hm
        omega
      · exact hm
  · intro h
    have hin : ∀ x ∈ (rows.drop at0).take l.length, x ∈ l := fun x hx => by
      obtain ⟨j, hj, e⟩ := List.mem_take_iff_getElem.1 hx
      have hj2 : j < l.length := by omega
      have hs := h j hj2
      rw [List.getElem_drop] at e
      rw [getD_at (by rw [List.length_drop] at hj; omega), e] at hs
      unfold seatAt at hs
      split at hs
      · exact List.mem_of_mem_take hs
      · exact List.mem_of_mem_drop hs
    have hperm := perm_of hpn hin (by omega)
    have hfirst : rows.getD at0 0 = (p : Int) := by
      have := h 0 h0
      rw [Nat.add_zero] at this
      unfold seatAt at this
      rw [if_pos rfl, htk, List.mem_singleton, hf] at this
      exact this
    unfold okP
    simp only [Bool.and_eq_true, decide_eq_true_eq, beq_iff_eq, List.all_eq_true]
    exact ⟨⟨hle, hfirst⟩, fun x hx => mem_isB (hperm.mem_iff.2 hx)⟩
theorem seatP_get {l : List Int} {j : Nat} (h : j < l.length) : (seatP l).getD j [] = seatAt l j := by
  unfold seatP seatK
  rw [List.getD_eq_getElem?_getD, List.getElem?_map, List.getElem?_range h]
  rfl
theorem seat_left {a b : List (List Int)} {i : Nat} (h : i < a.length) : (a ++ b).getD i [] = a.getD i [] := by
  rw [List.getD_eq_getElem?_getD, List.getElem?_append_left h, ← List.getD_eq_getElem?_getD]
theorem seat_right {a b : List (List Int)} {i n : Nat} (h : n = a.length) : (a ++ b).getD (n + i) [] = b.getD i [] := by
  subst h
  rw [List.getD_eq_getElem?_getD, List.getElem?_append_right (by omega), ← List.getD_eq_getElem?_getD]
  congr 1
  omega
theorem seats_len (es : List Ev) : (seatsL es).length = (plcW es 0).length + (plcW es 1).length + (plcW es 2).length := by
  unfold seatsL
  rw [List.length_append, List.length_append, seatP_len, seatP_len, seatP_len]
theorem seats_0 {es : List Ev} {j : Nat} (h : j < (plcW es 0).length) : (seatsL es).getD (0 + j) [] = seatAt (plcW es 0) j := by
  unfold seatsL
  rw [Nat.zero_add, seat_left (by rw [List.length_append, seatP_len]; omega), seat_left (by rw [seatP_len]; omega), seatP_get h]
theorem seats_1 {es : List Ev} {j : Nat} (h : j < (plcW es 1).length) : (seatsL es).getD ((plcW es 0).length + j) [] = seatAt (plcW es 1) j := by
  unfold seatsL
  rw [seat_left (by rw [List.length_append, seatP_len, seatP_len]; omega), seat_right (by rw [seatP_len]), seatP_get h]
theorem seats_2 {es : List Ev} {j : Nat} (h : j < (plcW es 2).length) : (seatsL es).getD ((plcW es 0).length + (plcW es 1).length + j) [] = seatAt (plcW es 2) j := by
  unfold seatsL
  rw [seat_right (by rw [List.length_append, seatP_len, seatP_len]), seatP_get h]
/-- Each seat by itself: the same. -/
theorem sit_same {dss : List (List Dd)} (hb : workB dss = true) (rows : List Int) : (decide (rows.length = (seatsL (eventsB dss)).length) && sitK (seatsL (eventsB dss)) rows rows.length) = rowsL (eventsB dss) rows := by
  obtain ⟨p0, f0⟩ := plcW_first hb 0 (by decide)
  obtain ⟨p1, f1⟩ := plcW_first hb 1 (by decide)
  obtain ⟨p2, f2⟩ := plcW_first hb 2 (by decide)
  have h12 := eventsB_12 dss
  generalize eventsB dss = es at *
  rw [Bool.eq_iff_iff, Bool.and_eq_true, decide_eq_true_eq, sitK_iff, seats_len]
  constructor
  · rintro ⟨hl, hs⟩
    have hn := nodup_of_take (fun i hi => (hs i hi).2)
    have o0 := (part_sits (at0 := 0) hn (plcW_nodup h12 0) p0 f0 (by omega)).2 (fun j hj => by rw [← seats_0 hj]; exact (hs _ (by omega)).1)
    have o1 := (part_sits (at0 := (plcW es 0).length) hn (plcW_nodup h12 1) p1 f1 (by omega)).2 (fun j hj => by rw [← seats_1 hj]; exact (hs _ (by omega)).1)
    have o2 := (part_sits (at0 := (plcW es 0).length + (plcW es 1).length) hn (plcW_nodup h12 2) p2 f2 (by omega)).2 (fun j hj => by rw [← seats_2 hj]; exact (hs _ (by omega)).1)
    unfold rowsL
    rw [o0, o1, o2]
    simp only [Bool.true_and, decide_eq_true_eq]
    omega
  · intro h
    have hn := (rows_use h12 h).1
    unfold rowsL at h
    simp only [Bool.and_eq_true, decide_eq_true_eq] at h
    obtain ⟨⟨⟨o0, o1⟩, o2⟩, hl⟩ := h
    refine ⟨by omega, fun i hi => ⟨?_, take_of_nodup hn hi⟩⟩
    have q0 := (part_sits (at0 := 0) hn (plcW_nodup h12 0) p0 f0 (by omega)).1 o0
    have q1 := (part_sits (at0 := (plcW es 0).length) hn (plcW_nodup h12 1) p1 f1 (by omega)).1 o1
    have q2 := (part_sits (at0 := (plcW es 0).length + (plcW es 1).length) hn (plcW_nodup h12 2) p2 f2 (by omega)).1 o2
    by_cases c0 : i < (plcW es 0).length
    · have := q0 i c0
      rw [← seats_0 c0, Nat.zero_add] at this
      exact this
    · by_cases c1 : i < (plcW es 0).length + (plcW es 1).length
      · obtain ⟨j, rfl⟩ : ∃ j, i = (plcW es 0).length + j := ⟨i - (plcW es 0).length, by omega⟩
        have hj : j < (plcW es 1).length := by omega
        have := q1 j hj
        rw [← seats_1 hj] at this
        exact this
      · obtain ⟨j, rfl⟩ : ∃ j, i = (plcW es 0).length + (plcW es 1).length + j := ⟨i - ((plcW es 0).length + (plcW es 1).length), by omega⟩
        have hj : j < (plcW es 2).length := by omega
        have := q2 j hj
        rw [← seats_2 hj] at this
        exact this
/-- The lines of rows as the program draws them: to each from all ahead of it. -/
def pwIn (es : List Ev) (rows : List Int) (i : Nat) (st : List Int) : Nat → List Int
  | 0 => st
  | k + 1 => if (plE es (rows.getD k 0) == plE es (rows.getD i 0)) = true then (pwIn es rows i st k).set (rows.getD k 0).toNat (gAdd ((pwIn es rows i st k).getD (rows.getD k 0).toNat 0) (rows.getD i 0)) else pwIn es rows i st k
def pwAll (es : List Ev) (rows : List Int) : Nat → List Int
  | 0 => List.replicate es.length 0
  | i + 1 => pwIn es rows i (pwAll es rows i) i
theorem web_pwIn {es : List Ev} {rows : List Int} {n i : Nat} {st : List Int} (hr : ∀ j, j < rows.length → 0 ≤ rows.getD j 0 ∧ rows.getD j 0 < (n : Int)) (hi : i < rows.length) (hst : Web n st) : ∀ m : Nat, m ≤ i →
    Web n (pwIn es rows i st m) ∧ ∀ a b : Nat, a < n → (line (pwIn es rows i st m) a b = true ↔ line st a b = true ∨ ∃ q, q < m ∧ plE es (rows.getD q 0) = plE es (rows.getD i 0) ∧ rows.getD q 0 = (a : Int) ∧ rows.getD i 0 = (b : Int))
  | 0, _ => ⟨hst, fun a b _ => by simp [pwIn]⟩
  | m + 1, hm => by
    obtain ⟨h1, h2⟩ := web_pwIn (es := es) hr hi hst m (by omega)
    by_cases hp : plE es (rows.getD m 0) = plE es (rows.getD i 0)
    · obtain ⟨a0, ha0⟩ := Int.eq_ofNat_of_zero_le (hr m (by omega)).1
      obtain ⟨b0, hb0⟩ := Int.eq_ofNat_of_zero_le (hr i hi).1
      have ha : a0 < n := by have := (hr m (by omega)).2; omega
      have hb : b0 < n := by have := (hr i hi).2; omega
      have e0 : pwIn es rows i st (m + 1) = (pwIn es rows i st m).set a0 (gAdd ((pwIn es rows i st m).getD a0 0) (b0 : Int)) := by rw [pwIn, if_pos (by simpa using hp), ha0, hb0, Int.toNat_natCast]
      rw [e0]
      have hadd := ok_add (h1.2.2 a0 ha) hb
      refine ⟨h1.set hadd.1, fun a b haa => ?_⟩
      have e1 := h2 a b haa
      unfold line at e1 ⊢
      rw [getD_set _ _ _ _ (by rw [h1.2.1]; exact ha)]
      by_cases e : a0 = a
      · subst e
        simp only [if_true]
        rw [hadd.2 b, Bool.or_eq_true, e1, decide_eq_true_eq]
        constructor
        · rintro ((h | ⟨q, hq, r1, r2, r3⟩) | h)
          · exact .inl h
          · exact .inr ⟨q, by omega, r1, r2, r3⟩
          · exact .inr ⟨m, by omega, hp, ha0, by rw [hb0, h]⟩
        · rintro (h | ⟨q, hq, r1, r2, r3⟩)
          · exact .inl (.inl h)
          · right
            rw [hb0] at r3
            omega
      · simp only [e, if_false]
        rw [e1]
        constructor
        · rintro (h | ⟨q, hq, r1, r2, r3⟩)
          · exact .inl h
          · exact .inr ⟨q, by omega, r1, r2, r3⟩
        · rintro (h | ⟨q, hq, r1, r2, r3⟩)
          · exact .inl h
          · by_cases eq : q = m
            · exfalso; subst eq; rw [ha0] at r2; omega
            · exact .inr ⟨q, by omega, r1, r2, r3⟩
    · have e0 : pwIn es rows i st (m + 1) = pwIn es rows i st m := by rw [pwIn, if_neg (by simpa using hp)]
      rw [e0]
      refine ⟨h1, fun a b ha => ?_⟩
      rw [h2 a b ha]
      constructor
      · rintro (h | ⟨q, hq, r⟩)
        · exact .inl h
        · exact .inr ⟨q, by omega, r⟩
      · rintro (h | ⟨q, hq, r⟩)
        · exact .inl h
        · by_cases e : q = m
          · subst e; exact absurd r.1 hp
          · exact .inr ⟨q, by omega, r⟩
theorem web_pwAll {es : List Ev} {rows : List Int} (hx : es.length ≤ 12) (hr : ∀ j, j < rows.length → 0 ≤ rows.getD j 0 ∧ rows.getD j 0 < (es.length : Int)) : ∀ m : Nat, m ≤ rows.length →
    Web es.length (pwAll es rows m) ∧ ∀ a b : Nat, a < es.length → (line (pwAll es rows m) a b = true ↔ ∃ i q, i < m ∧ q < i ∧ plE es (rows.getD q 0) = plE es (rows.getD i 0) ∧ rows.getD q 0 = (a : Int) ∧ rows.getD i 0 = (b : Int))
  | 0, _ => ⟨Web.zero hx, fun a b _ => by unfold pwAll; rw [line_zero]; simp⟩
  | m + 1, hm => by
    obtain ⟨h1, h2⟩ := web_pwAll hx hr m (by omega)
    obtain ⟨g1, g2⟩ := web_pwIn (es := es) hr (show m < rows.length by omega) h1 m (Nat.le_refl _)
    refine ⟨g1, fun a b ha => ?_⟩
    show line (pwIn es rows m (pwAll es rows m) m) a b = true ↔ _
    rw [g2 a b ha, h2 a b ha]
    constructor
    · rintro (⟨i, q, hi, r⟩ | ⟨q, hq, r⟩)
      · exact ⟨i, q, by omega, r⟩
      · exact ⟨m, q, by omega, hq, r⟩
    · rintro ⟨i, q, hi, hq, r⟩
      by_cases e : i = m
      · subst e; exact .inr ⟨q, hq, r⟩
      · exact .inl ⟨i, q, by omega, hq, r⟩
theorem pw_same {es : List Ev} {rows : List Int} (hx : es.length ≤ 12) (hr : ∀ j, j < rows.length → 0 ≤ rows.getD j 0 ∧ rows.getD j 0 < (es.length : Int)) : pwAll es rows rows.length = rwL es rows := by
  obtain ⟨a1, a2⟩ := web_pwAll hx hr rows.length (Nat.le_refl _)
  obtain ⟨b1, b2⟩ := web_rwAll hx hr rows.length (Nat.le_refl _)
  unfold rwL
  refine Web.ext a1 b1 (fun a b ha _ => ?_)
  rw [Bool.eq_iff_iff, a2 a b ha, b2 a b ha]
  unfold rwP
  constructor
  · rintro ⟨i, q, hi, hq, h1, h2, h3⟩
    exact ⟨q, i, by omega, hi, by rw [decide_eq_true hq, h1]; simp, h2, h3⟩
  · rintro ⟨i, q, hi, hq, h1, h2, h3⟩
    rw [Bool.and_eq_true, decide_eq_true_eq, beq_iff_eq] at h1
    exact ⟨q, i, hq, h1.1, h1.2, h2, h3⟩
/-- Seats are few, and rise. -/
theorem seat_rises {es : List Ev} (hx : es.length ≤ 12) {i : Nat} (hi : i < (seatsL es).length) : ((seatsL es).getD i []).Pairwise (· < ·) ∧ ((seatsL es).getD i []).length ≤ 12 := by
  have at1 : ∀ (p j : Nat), (seatAt (plcW es p) j).Pairwise (· < ·) ∧ (seatAt (plcW es p) j).length ≤ 12 := fun p j => by
    have h1 : (plcW es p).Pairwise (· < ·) := by
      unfold plcW idxB
      rw [if_pos hx]
      exact idxK_rises _ _ _
    have h2 := plcW_len hx p
    unfold seatAt
    split
    · exact ⟨h1.sublist (List.take_sublist _ _), by rw [List.length_take]; omega⟩
    · exact ⟨h1.sublist (List.drop_sublist _ _), by rw [List.length_drop]; omega⟩
  rw [seats_len] at hi
  by_cases c0 : i < (plcW es 0).length
  · have := seats_0 c0
    rw [Nat.zero_add] at this
    rw [this]
    exact at1 0 i
  · by_cases c1 : i < (plcW es 0).length + (plcW es 1).length
    · obtain ⟨j, rfl⟩ : ∃ j, i = (plcW es 0).length + j := ⟨i - (plcW es 0).length, by omega⟩
      rw [seats_1 (by omega)]
      exact at1 1 j
    · obtain ⟨j, rfl⟩ : ∃ j, i = (plcW es 0).length + (plcW es 1).length + j := ⟨i - ((plcW es 0).length + (plcW es 1).length), by omega⟩
      rw [seats_2 (by omega)]
      exact at1 2 j
theorem seats_36 {es : List Ev} (hx : es.length ≤ 12) : (seatsL es).length ≤ 36 := by
  rw [seats_len]
  have := plcW_len hx 0
  have := plcW_len hx 1
  have := plcW_len hx 2
  omega
end Go.Proofs.YtfmcnkjpgaapaaaGreat

/- Contract of the program's RowsOk. -/
namespace Go.Proofs.YtfmcnkjpgaapaaaGreat
open Go.ChangeShapes Go.WideShapes Go.ChangeAt Go.RowKit

theorem Rd.upto {w : World} {a : Option Addr} {n c : Nat} {zs : List Int} (h : Rd w (.slice a n c) zs) {k : Nat} (hk : k ≤ zs.length) : Rd w (.slice a k c) (zs.take k) := by
  obtain ⟨a', c', he, hr⟩ := h
  simp only [Value.slice.injEq] at he
  obtain ⟨rfl, rfl, rfl⟩ := he
  have hl : (zs.take k).length = k := by rw [List.length_take]; omega
  refine ⟨_, _, by rw [hl], ?_⟩
  rcases hr with hr | ⟨b, off, rfl, hb, hc⟩
  · exact .inl (by rw [hr]; simp)
  · refine .inr ⟨b, off, rfl, hb, fun i hi => ?_⟩
    rw [hc i (by omega), List.getD_eq_getElem?_getD, List.getD_eq_getElem?_getD, List.getElem?_take, if_pos (by omega)]
set_option maxRecDepth 100000 in
set_option maxHeartbeats 2000000 in
theorem implRowsOk_any (w : World) (v vf : Value) (dss : List (List Dd)) (f : List Int) (h : RdW w v dss) (hf : Rd w vf f) (hcap : f.length ≤ capZ vf) (hx : dss.length ≤ 1048576) (hm : ∀ i, i < dss.length → (dss.getD i []).length ≤ 1048576) (hfl : f.length ≤ 1048576) :
    Calls Tryz.prog 67 #[v, vf] w fun e w' => e = .returned (.bool (rowsB dss f)) ∧ Keep w w' := by
  have h12 : (eventsB dss).length ≤ 12 := by have := eventsB_len9 dss; omega
  have sl := seats_36 h12
  have HS := Lib.hid (fun i hi => (seat_rises h12 (i := i) hi).2)
  go_enter Tryz.func67, Tryz.ntmps67
  go_wp2_with fail
  refine (implEventsOf_any _ _ _ h hx hm).mono ?_
  rintro e w2 ⟨v2, rfl, a2, k2⟩
  go_wp2_with fail
  refine (seatsOf_any _ _ _ a2.rd h12).mono ?_
  rintro e w3 ⟨v3, rfl, rc, k3⟩
  have K3 := k2.trans k3
  have hf3 := hf.keep K3
  have HE : Hid (workB dss = true → rowsB dss f = (decide (f.length = (seatsL (eventsB dss)).length) && sitK (seatsL (eventsB dss)) f f.length)) := Lib.hid (fun hb => by rw [sit_same hb, rowsB, hb]; rfl)
  generalize seatsL (eventsB dss) = c at rc HE HS sl
  obtain ⟨ac, cc, rfl, -⟩ := id rc
  obtain ⟨af, cf, rfl, -⟩ := id hf3
  have hcf : f.length ≤ cf := hcap
  go_wp2_with fail
  refine (implWorkOk_any _ _ _ (h.keep K3) hx hm).mono ?_
  rintro e w4 ⟨rfl, k4⟩
  have K4 := K3.trans k4
  have hf4 := hf3.keep k4
  have rc4 := rc.keep k4
  clear h a2 k2 k3 rc hf hf3 K3 k4 hx hm h12 hcap
  cases hb : workB dss
  · have HN : Hid (rowsB dss f = false) := Lib.hid (by rw [rowsB, hb]; rfl)
    go_wp2
    go_ret
    exact ⟨by rw [HN.out]; rfl, K4⟩
  have HE2 : Hid (rowsB dss f = (decide (f.length = c.length) && sitK c f f.length)) := Lib.hid (HE.out hb)
  clear HE
  by_cases hl : f.length = c.length
  · have hlb : ((f.length : Int) != (c.length : Int)) = false := by simp [hl]
    have l1 : f.length ≤ c.length := by omega
    have HR : Hid (rowsB dss f = sitK c f f.length) := Lib.hid (by rw [HE2.out, decide_eq_true hl]; rfl)
    clear hl HE2
    go_wp2
    go_loopw [23] (fun i wr => ∃ k : Nat, k ≤ f.length ∧ i = .int .i64 k ∧ Hid (sitK c f k = true) ∧ Keep w4 wr) (fun i _ => f.length - (intOf i).toNat)
    case atStart => exact ⟨0, Nat.zero_le _, rfl, Lib.hid rfl, Keep.refl _⟩
    case round =>
      obtain ⟨k, hk, rfl, hS, hK⟩ := hrel
      by_cases hlt : k < f.length
      · have rck := rc4.keep hK
        have hfk := hf4.keep hK
        have hft := hfk.upto (k := k) hk
        obtain ⟨a', c', he', rck⟩ := rck
        simp only [Value.slice.injEq, true_and] at he'
        obtain ⟨rfl, rfl⟩ := he'
        rcases rck with h | ⟨b, o, rfl, hbb, hc⟩
        · exfalso; rw [h] at l1; simp only [List.length_nil] at l1; omega
        obtain ⟨a', c', he', hfk⟩ := hfk
        simp only [Value.slice.injEq, true_and] at he'
        obtain ⟨rfl, rfl⟩ := he'
        rcases hfk with h | ⟨b2, o2, rfl, hb2, hc2⟩
        · exfalso; rw [h] at hlt; simp at hlt
        obtain ⟨vi, d1, r2⟩ := hc k (by omega)
        have d2 := hc2 k hlt
        have ck := HS.out k (by omega)
        have tk : (f.take k).length ≤ 1048576 := by rw [List.length_take]; omega
        clear hc hc2
        have HB : Hid (sitK c f (k + 1) = (sitK c f k && (isB (c.getD k []) (f.getD k 0) && !isB (f.take k) (f.getD k 0)))) := Lib.hid rfl
        generalize f.getD k 0 = n at d2 HB
        generalize c.getD k [] = zs at r2 ck HB
        generalize f.take k = ft at hft tk HB
        obtain ⟨az, cz, rfl, -⟩ := id r2
        have i1 : (0 : Int) ≤ (k : Int) := Int.natCast_nonneg _
        have i2 : (k : Int) < (c.length : Int) := by omega
        have i3 : (k : Int) < (f.length : Int) := by omega
        have i4 : (k : Int) ≤ (cf : Int) := by omega
        have CI := contains_any wr _ zs r2 (by omega) n
        have CJ := contains_any wr _ ft hft (by omega) n
        cases hi : isB zs n
        · have HN : Hid (sitK c f f.length = false) := Lib.hid (sitK_false (k := k + 1) (by rw [HB.out, hi]; simp) _ hlt)
          rw [hi] at CI
          clear CJ
          go_wp2_with fail
          refine CI.mono ?_
          rintro e w5 ⟨rfl, rfl⟩
          go_wp2
          go_ret
          exact ⟨by rw [HR.out, HN.out]; rfl, K4.trans hK⟩
        · rw [hi] at CI
          cases hj : isB ft n
          · have HN : Hid (sitK c f (k + 1) = true) := Lib.hid (by rw [HB.out, hi, hj, hS.out]; rfl)
            rw [hj] at CJ
            go_wp2_with fail
            refine CI.mono ?_
            rintro e w5 ⟨rfl, rfl⟩
            go_wp2_with fail
            refine CJ.mono ?_
            rintro e w6 ⟨rfl, rfl⟩
            go_wp2
            go_roundw
            case rel => exact ⟨k + 1, by omega, by go_num, HN, hK⟩
            case measure => simp [intOf]; omega
          · have HN : Hid (sitK c f f.length = false) := Lib.hid (sitK_false (k := k + 1) (by rw [HB.out, hi, hj]; simp) _ hlt)
            rw [hj] at CJ
            go_wp2_with fail
            refine CI.mono ?_
            rintro e w5 ⟨rfl, rfl⟩
            go_wp2_with fail
            refine CJ.mono ?_
            rintro e w6 ⟨rfl, rfl⟩
            go_wp2
            go_ret
            exact ⟨by rw [HR.out, HN.out]; rfl, K4.trans hK⟩
      · obtain rfl : k = f.length := by omega
        go_wp2
        go_ret
        exact ⟨by rw [HR.out, hS.out]; rfl, K4.trans hK⟩
  · have hlb : ((f.length : Int) != (c.length : Int)) = true := by simp; omega
    have HR : Hid (rowsB dss f = false) := Lib.hid (by rw [HE2.out, decide_eq_false hl]; rfl)
    clear hl HE2
    go_wp2
    go_ret
    exact ⟨by rw [HR.out]; rfl, K4⟩
end Go.Proofs.YtfmcnkjpgaapaaaGreat

/- Contract of the program's RowWeb. -/
namespace Go.Proofs.YtfmcnkjpgaapaaaGreat
open Go.ChangeShapes Go.WideShapes Go.ChangeAt Go.RowKit

set_option maxRecDepth 100000 in
set_option maxHeartbeats 4000000 in
theorem implRowWeb_any (w : World) (v vf : Value) (dss : List (List Dd)) (f : List Int) (h : RdW w v dss) (hf : Rd w vf f) (hcap : f.length ≤ capZ vf) (hx : dss.length ≤ 1048576) (hm : ∀ i, i < dss.length → (dss.getD i []).length ≤ 1048576) (hfl : f.length ≤ 1048576) :
    Calls Tryz.prog 35 #[v, vf] w fun e w' => ∃ v', e = .returned v' ∧ Row w' w.heap.size v' (rwB dss f) ∧ Keep w w' := by
  have C := implRowsOk_any w v vf dss f h hf hcap hx hm hfl
  cases hs : rowsB dss f
  · have HE : Hid (rwB dss f = []) := Lib.hid (by rw [rwB, hs]; rfl)
    rw [hs] at C
    go_enter Tryz.func35, Tryz.ntmps35
    go_wp2_with fail
    refine C.mono ?_
    rintro e w1 ⟨rfl, k1⟩
    have s1 := k1.size
    go_wp2
    go_ret
    exact ⟨_, rfl, by rw [HE.out]; exact (row_empty w1 _).base_le s1, k1.alloc _⟩
  · have h12 : (eventsB dss).length ≤ 12 := by have := eventsB_len9 dss; omega
    have hrl : rowsL (eventsB dss) f = true := by rw [rowsB, Bool.and_eq_true] at hs; exact hs.2
    obtain ⟨-, -, fin⟩ := rows_use h12 hrl
    have HE : Hid (rwB dss f = pwAll (eventsB dss) f f.length) := Lib.hid (by rw [pw_same h12 fin, rwB, if_pos hs])
    have HW := Lib.hid (web_pwAll h12 fin)
    have HX := Lib.hid (fun (i : Nat) (st : List Int) hi hst => web_pwIn (es := eventsB dss) (n := (eventsB dss).length) (i := i) (st := st) fin hi hst)
    have FIN := Lib.hid fin
    rw [hs] at C
    clear fin hrl hs
    go_enter Tryz.func35, Tryz.ntmps35
    go_wp2_with fail
    refine C.mono ?_
    rintro e w1 ⟨rfl, k1⟩
    have s1 := k1.size
    go_wp2_with fail
    refine (implEventsOf_any _ _ _ (h.keep k1) hx hm).mono ?_
    rintro e w2 ⟨v2, rfl, a2, k2⟩
    have s2 := k2.size
    have re := a2.rd
    generalize eventsB dss = es at *
    obtain ⟨ae, ce, rfl, re⟩ := re
    go_wp2_with fail
    refine (blank_any _ _ h12).mono ?_
    rintro e w3 ⟨rfl, rb, k3⟩
    have K2 := k1.trans k2
    have hf2 := hf.keep K2
    obtain ⟨af, cf, rfl, -⟩ := id hf
    have hcf : f.length ≤ cf := hcap
    have sw : w.heap.size ≤ w2.heap.size := by omega
    clear C h hx hm a2 k1 k2 hf s1 s2 hcap
    go_wp2
    go_loopw [23] (fun i wr => ∃ k : Nat, k ≤ f.length ∧ i = .int .i64 k ∧ RowAt wr w2.heap.size (pwAll es f k) ∧ Keep w2 wr) (fun i _ => f.length - (intOf i).toNat)
    case atStart => exact ⟨0, Nat.zero_le _, rfl, rb, k3⟩
    case round =>
      obtain ⟨k, hk, rfl, hr, hK⟩ := hrel
      clear rb k3
      by_cases hlt : k < f.length
      · have hfk := hf2.keep hK
        obtain ⟨a', c', he', hfk⟩ := hfk
        simp only [Value.slice.injEq, true_and] at he'
        obtain ⟨rfl, rfl⟩ := he'
        rcases hfk with h0 | ⟨bf, off, rfl, hbf, hcf'⟩
        · exfalso; rw [h0] at hlt; simp at hlt
        obtain ⟨rb, hrb⟩ := Int.eq_ofNat_of_zero_le (FIN.out k hlt).1
        have hrbl : rb < es.length := by have := (FIN.out k hlt).2; omega
        have d1 := hcf' k hlt
        rw [hrb] at d1
        have HN : Hid (pwAll es f (k + 1) = pwIn es f k (pwAll es f k) k) := Lib.hid rfl
        have HWI := Lib.hid (HX.out k (pwAll es f k) hlt (HW.out k hk).1)
        generalize pwAll es f k = S0 at hr HN HWI
        have i1 : (0 : Int) ≤ (k : Int) := Int.natCast_nonneg _
        have i2 : (k : Int) < (f.length : Int) := by omega
        have i3 : (k : Int) ≤ (cf : Int) := by omega
        clear hcf'
        go_wp2
        clear d1
        obtain ⟨wo, rfl⟩ : ∃ wo : World, wo = wr := ⟨_, rfl⟩
        go_loopw [32] (fun i wr => ∃ q : Nat, q ≤ k ∧ i = .int .i64 q ∧ RowAt wr w2.heap.size (pwIn es f k S0 q) ∧ Keep w2 wr) (fun i _ => k - (intOf i).toNat)
        case atStart => exact ⟨0, Nat.zero_le _, rfl, hr, hK⟩
        case round =>
          clear hr hK
          obtain ⟨q, hq, rfl, hr, hK⟩ := hrel
          by_cases hqk : q < k
          · have hfk := hf2.keep hK
            obtain ⟨a', c', he', hfk⟩ := hfk
            simp only [Value.slice.injEq, true_and] at he'
            obtain ⟨rfl, rfl⟩ := he'
            rcases hfk with h0 | ⟨bf', off', he, hbf', hcf'⟩
            · exfalso; rw [h0] at hlt; simp at hlt
            simp only [Option.some.injEq, Addr.mk.injEq, and_true] at he
            obtain ⟨rfl, rfl⟩ := he
            obtain ⟨ra, hra⟩ := Int.eq_ofNat_of_zero_le (FIN.out q (by omega)).1
            have hral : ra < es.length := by have := (FIN.out q (by omega)).2; omega
            have d2 := hcf' q (by omega)
            rw [hra] at d2
            clear hcf'
            rcases re with h0 | ⟨be, oe, rfl, hbe, hce⟩
            · exfalso; rw [h0] at hral; simp at hral
            have AX := (hce ra _ (evs_get hral)).keep hbe hK
            have AY := (hce rb _ (evs_get hrbl)).keep hbe hK
            have HH : Hid (((es.getD ra zE).2.2.2.1 == (es.getD rb zE).2.2.2.1) = true → pwIn es f k S0 (q + 1) = (pwIn es f k S0 q).set ra (gAdd ((pwIn es f k S0 q).getD ra 0) (rb : Int))) := Lib.hid (fun e => by
              rw [pwIn, hra, hrb]
              unfold plE
              rw [Int.toNat_natCast, Int.toNat_natCast, if_pos e])
            have HM : Hid (((es.getD ra zE).2.2.2.1 == (es.getD rb zE).2.2.2.1) = false → pwIn es f k S0 (q + 1) = pwIn es f k S0 q) := Lib.hid (fun e => by
              rw [pwIn, hra, hrb]
              unfold plE
              rw [Int.toNat_natCast, Int.toNat_natCast, if_neg (by rw [e]; simp)])
            have hBl := (HWI.out q hq).1.2.1
            clear hce hra
            generalize es.getD ra zE = ex at AX HH HM
            generalize es.getD rb zE = ey at AY HH HM
            obtain ⟨x0, x1, x2, x3, x4, x5⟩ := ex
            obtain ⟨y0, y1, y2, y3, y4, y5⟩ := ey
            obtain ⟨A0, A1, A2, A3, A4, A5⟩ := atE AX
            obtain ⟨B0, B1, B2, B3, B4, B5⟩ := atE AY
            clear AX AY
            simp only at HH HM
            generalize pwIn es f k S0 q = S at hr HH HM hBl
            have n1 : (0 : Int) ≤ (q : Int) := Int.natCast_nonneg _
            have n2 : (q : Int) < (k : Int) := by omega
            have n3 : (0 : Int) ≤ (ra : Int) := Int.natCast_nonneg _
            have n4 : (ra : Int) < (es.length : Int) := by omega
            have n5 : (0 : Int) ≤ (rb : Int) := Int.natCast_nonneg _
            have n6 : (rb : Int) < (es.length : Int) := by omega
            have z1 : be < wr.drew.heap.size := Nat.lt_of_lt_of_le hbe hK.size
            have CA := fun u => areAt_any u x0 x1 x2 x3 x4 x5 y0 y1 y2 y3 y4 y5
            have HO : Hid (onpE (x0, x1, x2, x3, x4, x5) (y0, y1, y2, y3, y4, y5) = (x3 == y3)) := Lib.hid rfl
            rw [HO.out] at CA
            clear HO
            cases ht : (x3 == y3)
            · have HE1 : Hid (pwIn es f k S0 (q + 1) = S) := Lib.hid (HM.out ht)
              rw [ht] at CA
              clear HH HM ht
              go_wp2
              go_region_held3 (fun w' => w'.cell? ⟨be, oe + ra * 6, none⟩ = some (.int .i64 x0) ∧ w'.cell? ⟨be, oe + ra * 6 + 1, none⟩ = some (.int .i64 x1) ∧ w'.cell? ⟨be, oe + ra * 6 + 2, none⟩ = some (.bool x2) ∧ w'.cell? ⟨be, oe + ra * 6 + 3, none⟩ = some (.int .i64 x3) ∧ w'.cell? ⟨be, oe + ra * 6 + 4, none⟩ = some (.int .i64 x4) ∧ w'.cell? ⟨be, oe + ra * 6 + 5, none⟩ = some (.int .i64 x5) ∧ w'.cell? ⟨be, oe + rb * 6, none⟩ = some (.int .i64 y0) ∧ w'.cell? ⟨be, oe + rb * 6 + 1, none⟩ = some (.int .i64 y1) ∧ w'.cell? ⟨be, oe + rb * 6 + 2, none⟩ = some (.bool y2) ∧ w'.cell? ⟨be, oe + rb * 6 + 3, none⟩ = some (.int .i64 y3) ∧ w'.cell? ⟨be, oe + rb * 6 + 4, none⟩ = some (.int .i64 y4) ∧ w'.cell? ⟨be, oe + rb * 6 + 5, none⟩ = some (.int .i64 y5))
                (first | go_keep | (go_split_ands; refine ⟨?_, ?_, ?_, ?_, ?_, ?_, ?_, ?_, ?_, ?_, ?_, ?_⟩ <;> (rw [kk.cell (by assumption)]; assumption)))
                ((go_at_call 61; refine (CA _).mono ?_; rintro e wz ⟨rfl, kk⟩))
              all_goals
                clear A0 A1 A2 A3 A4 A5 B0 B1 B2 B3 B4 B5
                go_wp2
                go_roundw
                case rel => exact ⟨q + 1, by omega, by go_num, by rw [HE1.out]; exact hr.drew.keep kk, hK.drew.trans kk⟩
                case measure => simp [intOf]; omega
            · have HE1 : Hid (pwIn es f k S0 (q + 1) = S.set ra (gAdd (S.getD ra 0) (rb : Int))) := Lib.hid (HH.out ht)
              rw [ht] at CA
              clear HH HM ht
              go_wp2
              go_region_held3 (fun w' => w'.cell? ⟨be, oe + ra * 6, none⟩ = some (.int .i64 x0) ∧ w'.cell? ⟨be, oe + ra * 6 + 1, none⟩ = some (.int .i64 x1) ∧ w'.cell? ⟨be, oe + ra * 6 + 2, none⟩ = some (.bool x2) ∧ w'.cell? ⟨be, oe + ra * 6 + 3, none⟩ = some (.int .i64 x3) ∧ w'.cell? ⟨be, oe + ra * 6 + 4, none⟩ = some (.int .i64 x4) ∧ w'.cell? ⟨be, oe + ra * 6 + 5, none⟩ = some (.int .i64 x5) ∧ w'.cell? ⟨be, oe + rb * 6, none⟩ = some (.int .i64 y0) ∧ w'.cell? ⟨be, oe + rb * 6 + 1, none⟩ = some (.int .i64 y1) ∧ w'.cell? ⟨be, oe + rb * 6 + 2, none⟩ = some (.bool y2) ∧ w'.cell? ⟨be, oe + rb * 6 + 3, none⟩ = some (.int .i64 y3) ∧ w'.cell? ⟨be, oe + rb * 6 + 4, none⟩ = some (.int .i64 y4) ∧ w'.cell? ⟨be, oe + rb * 6 + 5, none⟩ = some (.int .i64 y5))
                (first | go_keep | (go_split_ands; refine ⟨?_, ?_, ?_, ?_, ?_, ?_, ?_, ?_, ?_, ?_, ?_, ?_⟩ <;> (rw [kk.cell (by assumption)]; assumption)))
                ((go_at_call 61; refine (CA _).mono ?_; rintro e wz ⟨rfl, kk⟩))
              all_goals
                clear A0 A1 A2 A3 A4 A5 B0 B1 B2 B3 B4 B5
                have hr5 := hr.drew.keep kk
                have hK5 := hK.drew.trans kk
                go_wp2_with fail
                refine (line_any _ w2.heap.size es.length es.length S ra (rb : Int) hr5 hBl hral).mono ?_
                rintro e w7 ⟨rfl, R7, g7⟩
                have hK7 : Keep w2 w7 := hK5.grown g7 (by simp)
                go_wp2
                go_roundw
                case rel => exact ⟨q + 1, by omega, by go_num, by rw [HE1.out]; exact R7, hK7⟩
                case measure => simp [intOf]; omega
          · obtain rfl : q = k := by omega
            go_wp2
            go_roundw
            case rel => exact ⟨q + 1, by omega, by go_num, by rw [HN.out]; exact hr, hK⟩
            case measure => simp [intOf]; omega
      · obtain rfl : k = f.length := by omega
        have hl := (HW.out f.length (Nat.le_refl _)).1.2.1
        go_wp2
        go_ret
        exact ⟨_, rfl, by rw [HE.out]; exact .inr ⟨w2.heap.size, es.length, by rw [hl]; rfl, sw, hr⟩, K2.trans hK⟩
end Go.Proofs.YtfmcnkjpgaapaaaGreat

/- Plain mathematics of pages: a tale as the program holds it, a seat of its rows for each event. -/
namespace Go.Proofs.YtfmcnkjpgaapaaaGreat
open Go.RowKit

def sitS (rows : List Int) : Nat → List Int
  | 0 => List.replicate 12 0
  | k + 1 => (sitS rows k).set (rows.getD k 0).toNat (k : Int)
def pgK (rs f s : List Int) : Nat → List Int
  | 0 => s
  | k + 1 => (pgK rs f s k).set (rs.getD k 0).toNat ((pgK rs f s k).getD (f.getD k 0).toNat 0)
def pageL (es : List Ev) (f rows : List Int) : List Int := pgK (idxB rdE es) f (sitS rows rows.length) (idxB rdE es).length
def pageB (dss : List (List Dd)) (f rows : List Int) : List Int := if taleB dss f rows = true then pageL (eventsB dss) f rows else List.replicate 12 0
theorem sitS_len (rows : List Int) : ∀ k : Nat, (sitS rows k).length = 12
  | 0 => by simp [sitS]
  | k + 1 => by rw [sitS, List.length_set, sitS_len rows k]
theorem pgK_len (rs f s : List Int) : ∀ k : Nat, (pgK rs f s k).length = s.length
  | 0 => rfl
  | k + 1 => by rw [pgK, List.length_set, pgK_len rs f s k]
theorem pageL_len (es : List Ev) (f rows : List Int) : (pageL es f rows).length = 12 := by rw [pageL, pgK_len, sitS_len]
theorem pageB_len (dss : List (List Dd)) (f rows : List Int) : (pageB dss f rows).length = 12 := by
  unfold pageB
  split
  · exact pageL_len _ _ _
  · simp
theorem seat_get {rows : List Int} (hn : rows.Nodup) (hr : ∀ i, i < rows.length → 0 ≤ rows.getD i 0 ∧ rows.getD i 0 < 12) : ∀ (k i : Nat), k ≤ rows.length → i < k → (sitS rows k).getD (rows.getD i 0).toNat 0 = (i : Int)
  | 0, i, _, h => by omega
  | k + 1, i, hk, h => by
    have r1 := hr k (by omega)
    have r2 := hr i (by omega)
    rw [sitS, getD_set _ _ _ _ (by rw [sitS_len]; omega)]
    by_cases e : i = k
    · subst e; rw [if_pos rfl]
    · rw [if_neg (fun e2 => e (nodup_get hn (by omega) (by omega) (by omega)))]
      exact seat_get hn hr k i (by omega) (by omega)
theorem pg_other {rs f s : List Int} {a : Nat} (hs : s.length = 12) : ∀ k : Nat, (∀ i, i < k → (rs.getD i 0).toNat < 12 ∧ (rs.getD i 0).toNat ≠ a) → (pgK rs f s k).getD a 0 = s.getD a 0
  | 0, _ => rfl
  | k + 1, h => by
    rw [pgK, getD_set _ _ _ _ (by rw [pgK_len, hs]; exact (h k (by omega)).1), if_neg (h k (by omega)).2]
    exact pg_other hs k (fun i hi => h i (by omega))
theorem pg_read {rs f s : List Int} (hs : s.length = 12) (hn : rs.Nodup) (hr : ∀ i, i < rs.length → 0 ≤ rs.getD i 0 ∧ rs.getD i 0 < 12) (hf : ∀ i j, i < rs.length → j < rs.length → (rs.getD i 0).toNat ≠ (f.getD j 0).toNat) : ∀ (k i : Nat), k ≤ rs.length → i < k → (pgK rs f s k).getD (rs.getD i 0).toNat 0 = s.getD (f.getD i 0).toNat 0
  | 0, i, _, h => by omega
  | k + 1, i, hk, h => by
    have r1 := hr k (by omega)
    have r2 := hr i (by omega)
    rw [pgK, getD_set _ _ _ _ (by rw [pgK_len, hs]; omega)]
    by_cases e : i = k
    · subst e
      rw [if_pos rfl]
      exact pg_other hs i (fun j hj => ⟨by have := hr j (by omega); omega, hf j i (by omega) (by omega)⟩)
    · rw [if_neg (fun e2 => e (nodup_get hn (by omega) (by omega) (by omega)))]
      exact pg_read hs hn hr hf k i (by omega) (by omega)
theorem idx_all {es : List Ev} (hx : es.length ≤ 12) {t : Ev → Bool} {x : Int} (h : x ∈ idxB t es) : (0 ≤ x ∧ x < (es.length : Int)) ∧ t (es.getD x.toNat zE) = true := by
  unfold idxB at h
  rw [if_pos hx] at h
  exact ⟨idxK_lt _ _ _ _ h, idxK_mem _ _ _ _ h⟩
theorem idx_nodup {es : List Ev} (hx : es.length ≤ 12) (t : Ev → Bool) : (idxB t es).Nodup := by
  unfold idxB
  rw [if_pos hx]
  exact rises_nodup _ (idxK_rises t _ _)
theorem idx_has {es : List Ev} (hx : es.length ≤ 12) {t : Ev → Bool} {i : Nat} (hi : i < es.length) (h : t (es.getD i zE) = true) : (i : Int) ∈ idxB t es := by
  unfold idxB
  rw [if_pos hx]
  exact idxK_has _ _ h _ hi
theorem get_mem {l : List Int} {i : Nat} (h : i < l.length) : l.getD i 0 ∈ l := by
  rw [List.getD_eq_getElem?_getD, List.getElem?_eq_getElem h]
  exact List.getElem_mem h
theorem mem_get {l : List Int} {x : Int} (h : x ∈ l) : ∃ i, i < l.length ∧ l.getD i 0 = x := by
  obtain ⟨k, hk, ek⟩ := List.getElem_of_mem h
  exact ⟨k, hk, by rw [List.getD_eq_getElem?_getD, List.getElem?_eq_getElem hk]; exact ek⟩
/-- What a right tale's writes and reads are. -/
theorem page_use {dss : List (List Dd)} {f rows : List Int} (h : taleB dss f rows = true) : (eventsB dss).length ≤ 12 ∧ (idxB rdE (eventsB dss)).length = f.length ∧ f.length ≤ 12 ∧ rows.length ≤ 36 ∧
    (∀ i, i < rows.length → (pageL (eventsB dss) f rows).getD (rows.getD i 0).toNat 0 = (i : Int)) ∧
    (∀ i, i < f.length → ∃ q, q < rows.length ∧ rows.getD q 0 = f.getD i 0 ∧ (pageL (eventsB dss) f rows).getD ((idxB rdE (eventsB dss)).getD i 0).toNat 0 = (q : Int)) ∧
    (∀ i, i < rows.length → 0 ≤ rows.getD i 0 ∧ rows.getD i 0 < ((eventsB dss).length : Int)) ∧
    (∀ i, i < f.length → (0 ≤ f.getD i 0 ∧ f.getD i 0 < ((eventsB dss).length : Int)) ∧ (0 ≤ (idxB rdE (eventsB dss)).getD i 0 ∧ (idxB rdE (eventsB dss)).getD i 0 < ((eventsB dss).length : Int)) ∧ plE (eventsB dss) (f.getD i 0) = plE (eventsB dss) ((idxB rdE (eventsB dss)).getD i 0)) ∧
    (∀ i, i < (eventsB dss).length → ((eventsB dss).getD i zE).2.2.1 = false → ∃ q, q < rows.length ∧ rows.getD q 0 = (i : Int)) := by
  obtain ⟨hb, hs, hr⟩ := tale_use h
  have hx := eventsB_12 dss
  have hall : ∀ i, i < (eventsB dss).length → ((eventsB dss).getD i zE).2.2.1 = false → ∃ q, q < rows.length ∧ rows.getD q 0 = (i : Int) := fun i hi hrd => by
    have plin : 0 ≤ ((eventsB dss).getD i zE).2.2.2.1 ∧ ((eventsB dss).getD i zE).2.2.2.1 ≤ 2 := by
      have := place_in hb i (by rw [eventsB, if_pos hb] at hi; exact hi)
      rw [eventsB, if_pos hb]
      exact this
    obtain ⟨p, hp⟩ := Int.eq_ofNat_of_zero_le plin.1
    have hmem : (i : Int) ∈ plcW (eventsB dss) p := idx_has hx hi (by unfold toE; rw [hrd, hp]; simp)
    refine mem_get ((rows_perm hx hr).mem_iff.1 ?_)
    unfold allW
    have : p = 0 ∨ p = 1 ∨ p = 2 := by omega
    rcases this with rfl | rfl | rfl
    · exact List.mem_append.2 (.inl (List.mem_append.2 (.inl hmem)))
    · exact List.mem_append.2 (.inl (List.mem_append.2 (.inr hmem)))
    · exact List.mem_append.2 (.inr hmem)
  obtain ⟨rn, r36, ru⟩ := rows_use hx hr
  have hwr : ∀ i, i < rows.length → ((eventsB dss).getD (rows.getD i 0).toNat zE).2.2.1 = false := fun i hi => by
    have hm := (rows_perm hx hr).mem_iff.2 (get_mem hi)
    have fin : ∀ p, rows.getD i 0 ∈ plcW (eventsB dss) p → ((eventsB dss).getD (rows.getD i 0).toNat zE).2.2.1 = false := fun p hp => by
      have := (idx_all hx hp).2
      unfold toE at this
      simp only [Bool.and_eq_true, Bool.not_eq_true'] at this
      exact this.1
    unfold allW at hm
    rcases List.mem_append.1 hm with hm | hm
    · rcases List.mem_append.1 hm with hm | hm
      · exact fin _ hm
      · exact fin _ hm
    · exact fin _ hm
  obtain ⟨sl, su⟩ := src_use hx hs
  have hf12 : f.length ≤ 12 := by
    rw [← sl]
    unfold idxB
    rw [if_pos hx]
    have := idxK_len rdE (eventsB dss) (eventsB dss).length
    omega
  have fw : ∀ i, i < f.length → ((eventsB dss).getD (f.getD i 0).toNat zE).2.2.1 = false := fun i hi => by
    have hs2 := hs
    unfold srcB at hs2
    rw [Bool.and_eq_true, decide_eq_true_eq] at hs2
    have hc : (chcL (eventsB dss)).length = (idxB rdE (eventsB dss)).length := chcK_len _ _ _
    have h3 := (srcK_iff (chcL (eventsB dss)).length).1 hs2.2 i (by omega)
    unfold chcL at h3
    rw [chcK_get _ _ _ _ (by omega)] at h3
    have := (idx_all hx (isB_mem h3)).2
    unfold toE at this
    simp only [Bool.and_eq_true, Bool.not_eq_true'] at this
    exact this.1
  have rd : ∀ i, i < f.length → (0 ≤ (idxB rdE (eventsB dss)).getD i 0 ∧ (idxB rdE (eventsB dss)).getD i 0 < ((eventsB dss).length : Int)) ∧ ((eventsB dss).getD ((idxB rdE (eventsB dss)).getD i 0).toNat zE).2.2.1 = true := fun i hi => idx_all hx (get_mem (by omega))
  have r12 : ∀ i, i < rows.length → 0 ≤ rows.getD i 0 ∧ rows.getD i 0 < 12 := fun i hi => by have := ru i hi; omega
  refine ⟨hx, sl, hf12, ?_, fun i hi => ?_, fun i hi => ?_, ru, fun i hi => ⟨(su i (by omega)).1, (rd i hi).1, (su i (by omega)).2⟩, hall⟩
  · exact r36
  · unfold pageL
    rw [pg_other (sitS_len _ _) _ (fun j hj => ⟨by have := (rd j (by omega)).1; omega, fun e => by have a := (rd j (by omega)).2; have b := hwr i hi; rw [e, b] at a; cases a⟩)]
    exact seat_get rn r12 _ i (Nat.le_refl _) hi
  · obtain ⟨q, hq, eq⟩ := hall (f.getD i 0).toNat (by have := (su i (by omega)).1; omega) (fw i hi)
    have eq' : rows.getD q 0 = f.getD i 0 := by have := (su i (by omega)).1; omega
    refine ⟨q, hq, eq', ?_⟩
    unfold pageL
    rw [pg_read (sitS_len _ _) (idx_nodup hx _) (fun j hj => by have := (rd j (by omega)).1; omega) (fun a b ha hb e => by have x := (rd a (by omega)).2; have y := fw b (by omega); rw [e, y] at x; cases x) _ i (Nat.le_refl _) (by omega), ← eq']
    exact seat_get rn r12 _ q (Nat.le_refl _) hq
/-- The page of a tale is never blank: at most one of the first two has seat 0. -/
theorem page_some {dss : List (List Dd)} {f rows : List Int} (h : taleB dss f rows = true) : pageL (eventsB dss) f rows ≠ List.replicate 12 0 := fun e => by
  obtain ⟨hb, hs, hr⟩ := tale_use h
  obtain ⟨hx, -, -, -, pw, -, -, -, -⟩ := page_use h
  have z : ∀ p : Nat, p < 3 → ∃ q, q < rows.length ∧ rows.getD q 0 = (p : Int) := fun p hp => by
    obtain ⟨f1, f2⟩ := plcW_first hb p hp
    have hm : (p : Int) ∈ plcW (eventsB dss) p := by rw [← f2]; exact get_mem f1
    refine mem_get ((rows_perm hx hr).mem_iff.1 ?_)
    unfold allW
    have : p = 0 ∨ p = 1 ∨ p = 2 := by omega
    rcases this with rfl | rfl | rfl
    · exact List.mem_append.2 (.inl (List.mem_append.2 (.inl hm)))
    · exact List.mem_append.2 (.inl (List.mem_append.2 (.inr hm)))
    · exact List.mem_append.2 (.inr hm)
  have zero : ∀ a : Nat, (List.replicate 12 (0 : Int)).getD a 0 = 0 := fun a => by
    rw [List.getD_eq_getElem?_getD, List.getElem?_replicate]
    split <;> rfl
  obtain ⟨a, ha, ea⟩ := z 0 (by omega)
  obtain ⟨b, hb2, eb⟩ := z 1 (by omega)
  have pa := pw a ha
  have pb := pw b hb2
  rw [e, zero] at pa pb
  have : a = b := by omega
  subst this
  omega
def blankB (p : List Int) : Bool := decide (p = List.replicate 12 0)
theorem page_blank (dss : List (List Dd)) (f rows : List Int) : blankB (pageB dss f rows) = !taleB dss f rows := by
  unfold blankB pageB
  cases h : taleB dss f rows with
  | false => simp
  | true => rw [if_pos rfl, decide_eq_false (page_some h)]; rfl
/-- AgainstWeb's lines as the program draws them. -/
def agI (p : List Int) (r : Nat) (ws st : List Int) : Nat → List Int
  | 0 => st
  | j + 1 => if decide (p.getD r 0 < p.getD (ws.getD j 0).toNat 0) = true then (agI p r ws st j).set r (gAdd ((agI p r ws st j).getD r 0) (ws.getD j 0)) else agI p r ws st j
def agO (es : List Ev) (p rs : List Int) : Nat → List Int
  | 0 => List.replicate es.length 0
  | k + 1 => agI p (rs.getD k 0).toNat (idxB (toE (plE es (rs.getD k 0))) es) (agO es p rs k) (idxB (toE (plE es (rs.getD k 0))) es).length
theorem web_agI {p ws st : List Int} {n r : Nat} (hw : ∀ j, j < ws.length → 0 ≤ ws.getD j 0 ∧ ws.getD j 0 < (n : Int)) (hr : r < n) (hst : Web n st) : ∀ m : Nat, m ≤ ws.length →
    Web n (agI p r ws st m) ∧ ∀ a b : Nat, a < n → (line (agI p r ws st m) a b = true ↔ line st a b = true ∨ (a = r ∧ ∃ q, q < m ∧ p.getD r 0 < p.getD b 0 ∧ ws.getD q 0 = (b : Int)))
  | 0, _ => ⟨hst, fun a b _ => by simp [agI]⟩
  | m + 1, hm => by
    obtain ⟨h1, h2⟩ := web_agI (p := p) hw hr hst m (by omega)
    obtain ⟨b0, hb0⟩ := Int.eq_ofNat_of_zero_le (hw m (by omega)).1
    have hb : b0 < n := by have := (hw m (by omega)).2; omega
    by_cases hp : p.getD r 0 < p.getD b0 0
    · have e0 : agI p r ws st (m + 1) = (agI p r ws st m).set r (gAdd ((agI p r ws st m).getD r 0) (b0 : Int)) := by rw [agI, hb0, Int.toNat_natCast, if_pos (decide_eq_true hp)]
      rw [e0]
      have hadd := ok_add (h1.2.2 r hr) hb
      refine ⟨h1.set hadd.1, fun a b haa => ?_⟩
      have e1 := h2 a b haa
      unfold line at e1 ⊢
      rw [getD_set _ _ _ _ (by rw [h1.2.1]; exact hr)]
      by_cases e : r = a
      · subst e
        simp only [if_true]
        rw [hadd.2 b, Bool.or_eq_true, e1, decide_eq_true_eq]
        constructor
        · rintro ((h | ⟨-, q, hq, r1, r2⟩) | h)
          · exact .inl h
          · exact .inr ⟨trivial, q, by omega, r1, r2⟩
          · subst h; exact .inr ⟨trivial, m, by omega, hp, hb0⟩
        · rintro (h | ⟨-, q, hq, r1, r2⟩)
          · exact .inl (.inl h)
          · by_cases eq : q = m
            · subst eq
              right
              rw [hb0] at r2
              omega
            · exact .inl (.inr ⟨rfl, q, by omega, r1, r2⟩)
      · simp only [e, if_false]
        rw [e1]
        constructor
        · rintro (h | ⟨h, _⟩)
          · exact .inl h
          · exact absurd h.symm e
        · rintro (h | ⟨h, _⟩)
          · exact .inl h
          · exact absurd h.symm e
    · have e0 : agI p r ws st (m + 1) = agI p r ws st m := by rw [agI, hb0, Int.toNat_natCast, if_neg (by simpa using hp)]
      rw [e0]
      refine ⟨h1, fun a b ha => ?_⟩
      rw [h2 a b ha]
      constructor
      · rintro (h | ⟨h, q, hq, r⟩)
        · exact .inl h
        · exact .inr ⟨h, q, by omega, r⟩
      · rintro (h | ⟨h, q, hq, r1, r2⟩)
        · exact .inl h
        · by_cases e : q = m
          · subst e
            rw [hb0] at r2
            exfalso
            obtain rfl : b0 = b := by omega
            exact hp r1
          · exact .inr ⟨h, q, by omega, r1, r2⟩
theorem web_agO {es : List Ev} {p rs : List Int} (hx : es.length ≤ 12) (hr : ∀ j, j < rs.length → 0 ≤ rs.getD j 0 ∧ rs.getD j 0 < (es.length : Int)) : ∀ m : Nat, m ≤ rs.length →
    Web es.length (agO es p rs m) ∧ ∀ a b : Nat, a < es.length → (line (agO es p rs m) a b = true ↔ ∃ i, i < m ∧ rs.getD i 0 = (a : Int) ∧ p.getD a 0 < p.getD b 0 ∧ (b : Int) ∈ idxB (toE (plE es (a : Int))) es)
  | 0, _ => ⟨Web.zero hx, fun a b _ => by unfold agO; rw [line_zero]; simp⟩
  | m + 1, hm => by
    obtain ⟨h1, h2⟩ := web_agO (p := p) hx hr m (by omega)
    obtain ⟨a0, ha0⟩ := Int.eq_ofNat_of_zero_le (hr m (by omega)).1
    have hal : a0 < es.length := by have := (hr m (by omega)).2; omega
    obtain ⟨g1, g2⟩ := web_agI (p := p) (ws := idxB (toE (plE es (a0 : Int))) es) (n := es.length) (r := a0) (fun j hj => (idx_all hx (get_mem hj)).1) hal h1 _ (Nat.le_refl _)
    rw [agO, ha0, Int.toNat_natCast]
    refine ⟨g1, fun a b ha => ?_⟩
    rw [g2 a b ha, h2 a b ha]
    constructor
    · rintro (⟨i, hi, r⟩ | ⟨rfl, q, hq, r1, r2⟩)
      · exact ⟨i, by omega, r⟩
      · exact ⟨m, by omega, ha0, r1, by rw [← r2]; exact get_mem hq⟩
    · rintro ⟨i, hi, e1, r1, r2⟩
      by_cases e : i = m
      · subst e
        have : a0 = a := by omega
        subst this
        obtain ⟨q, hq, eq⟩ := mem_get r2
        exact .inr ⟨rfl, q, hq, r1, eq⟩
      · exact .inl ⟨i, by omega, e1, r1, r2⟩
theorem ag_same {dss : List (List Dd)} {f rows : List Int} (h : taleB dss f rows = true) : agO (eventsB dss) (pageL (eventsB dss) f rows) (idxB rdE (eventsB dss)) (idxB rdE (eventsB dss)).length = agB dss f rows := by
  obtain ⟨hb, hs, hr⟩ := tale_use h
  obtain ⟨hx, sl, hf12, hr12, pw, pr, ru, fu, hall⟩ := page_use h
  have rr : ∀ i, i < (idxB rdE (eventsB dss)).length → 0 ≤ (idxB rdE (eventsB dss)).getD i 0 ∧ (idxB rdE (eventsB dss)).getD i 0 < ((eventsB dss).length : Int) := fun i hi => (fu i (by omega)).2.1
  have e3 : agB dss f rows = agK (eventsB dss).length (idxB rdE (eventsB dss)) f (rwL (eventsB dss) rows) (idxB rdE (eventsB dss)).length := by rw [agB, if_pos h]; rfl
  have wr := web_rwAll hx ru rows.length (Nat.le_refl _)
  have wa := web_ag hx (idx_nodup hx _) wr.1 (idxB rdE (eventsB dss)).length (Nat.le_refl _) rr (fun i hi => (fu i (by omega)).1)
  have wo := web_agO (p := pageL (eventsB dss) f rows) hx rr _ (Nat.le_refl _)
  rw [e3]
  refine Web.ext wo.1 wa.1 (fun a j ha hj => ?_)
  rw [Bool.eq_iff_iff, wo.2 a j ha]
  have e4 := wa.2 a j ha
  rw [show rwL (eventsB dss) rows = rwAll (eventsB dss) rows rows.length from rfl, e4]
  constructor
  · rintro ⟨i, hi, r1, r2, r3⟩
    refine ⟨i, hi, r1, ?_⟩
    obtain ⟨q, hq, eq, pq⟩ := pr i (by omega)
    have fa := fu i (by omega)
    rw [r1, Int.toNat_natCast] at pq
    have t := (idx_all hx r3).2
    rw [Int.toNat_natCast] at t
    unfold toE at t
    simp only [Bool.and_eq_true, Bool.not_eq_true', beq_iff_eq] at t
    obtain ⟨k, hk, ek⟩ := hall j hj t.1
    have pk := pw k hk
    rw [ek, Int.toNat_natCast] at pk
    rw [wr.2 _ _ (by omega)]
    refine ⟨q, k, hq, hk, ?_, by omega, ek⟩
    unfold rwP
    rw [pq, pk] at r2
    rw [decide_eq_true (show q < k by omega), eq, fa.2.2, r1, ek]
    show (true && _) = true
    rw [Bool.true_and, beq_iff_eq, ← t.2]
    unfold plE
    rw [Int.toNat_natCast]
  · rintro ⟨i, hi, r1, r2⟩
    refine ⟨i, hi, r1, ?_⟩
    have fa := fu i (by omega)
    obtain ⟨q, hq, eq, pq⟩ := pr i (by omega)
    rw [r1, Int.toNat_natCast] at pq
    rw [wr.2 _ _ (by omega)] at r2
    obtain ⟨i', k, hi', hk, r3, r4, r5⟩ := r2
    have pi := pw i' hi'
    have pk := pw k hk
    have pq' := pw q hq
    rw [r5, Int.toNat_natCast] at pk
    have e5 : rows.getD i' 0 = rows.getD q 0 := by omega
    rw [e5, pq'] at pi
    obtain rfl : q = i' := by omega
    unfold rwP at r3
    rw [Bool.and_eq_true, decide_eq_true_eq, beq_iff_eq] at r3
    refine ⟨by rw [pq, pk]; omega, idx_has hx hj ?_⟩
    have hm := (rows_perm hx hr).mem_iff.2 (get_mem hk)
    have fin : ∀ p, rows.getD k 0 ∈ plcW (eventsB dss) p → ((eventsB dss).getD (rows.getD k 0).toNat zE).2.2.1 = false := fun p hp => by
      have := (idx_all hx hp).2
      unfold toE at this
      simp only [Bool.and_eq_true, Bool.not_eq_true'] at this
      exact this.1
    have hw : ((eventsB dss).getD (rows.getD k 0).toNat zE).2.2.1 = false := by
      unfold allW at hm
      rcases List.mem_append.1 hm with hm | hm
      · rcases List.mem_append.1 hm with hm | hm
        · exact fin _ hm
        · exact fin _ hm
      · exact fin _ hm
    rw [r5, Int.toNat_natCast] at hw
    have h3 := r3.2
    rw [eq, fa.2.2, r1, r5] at h3
    unfold toE
    rw [hw, h3]
    unfold plE
    rw [Int.toNat_natCast]
    simp
end Go.Proofs.YtfmcnkjpgaapaaaGreat

/- An array of twelve numbers in a block of its own. -/
namespace Go.Proofs.YtfmcnkjpgaapaaaGreat
open Go.ChangeShapes Go.WideShapes Go.ChangeAt Go.RowKit

abbrev pgC (p : List Int) : Array Value := (p.map (Value.int .i64)).toArray
abbrev pgV (p : List Int) : Value := .agg (pgC p)
def Pg (w : World) (g : Nat) (p : List Int) : Prop := w.heap[g]? = some (.cells (pgC p) 71 (0, 0))
theorem Pg.lt {w : World} {g : Nat} {p : List Int} (h : Pg w g p) : g < w.heap.size := (Array.getElem?_eq_some_iff.1 h).1
theorem Pg.row {w : World} {g : Nat} {p : List Int} (h : Pg w g p) : RowAt w g p := ⟨_, _, h, by show List.take p.length (p.map _) = _; exact List.take_of_length_le (by simp)⟩
theorem Pg.cell {w : World} {g : Nat} {p : List Int} (h : Pg w g p) {j : Nat} (hj : j < p.length) : w.cell? ⟨g, j, none⟩ = some (.int .i64 (p.getD j 0)) := h.row.cell hj
theorem Pg.free {w : World} {g : Nat} {p : List Int} (h : Pg w g p) (j : Nat) : w.frozen? ⟨g, j, none⟩ = false := frozen_of_row w g j _ _ h
theorem Pg.kept {w w' : World} {g : Nat} {p : List Int} {row : Option Nat} (h : Pg w g p) (hg : w.grownBy w' row) (hne : row ≠ some g) : Pg w' g p := by
  unfold Pg
  rw [hg.block g h.lt (fun e => hne e.symm)]
  exact h
theorem Pg.keep {w w' : World} {g : Nat} {p : List Int} (h : Pg w g p) (k : Keep w w') : Pg w' g p := h.kept k.grownBy (by simp)
theorem Pg.set {w : World} {g : Nat} {p : List Int} (h : Pg w g p) (j : Nat) (x : Int) : Pg (w.setCell ⟨g, j, none⟩ (.int .i64 x)) g (p.set j x) := by
  unfold Pg at h ⊢
  rw [heap_setCell_same w g j _ _ _ h]
  congr 2
  apply Array.ext'
  rw [Array.toList_setIfInBounds]
  simp [List.map_set]
theorem Pg.new {w : World} (p : List Int) : Pg (w.alloc (.cells (pgC p) 71 (0, 0))) w.heap.size p := heap_alloc_new w _
theorem pg_size {p : List Int} (h : p.length = 12) : (pgC p).size = 12 := by simp [pgC, h]
theorem pg_one (p : List Int) : (pgC p).all (·.oneCell') = true := by
  rw [Array.all_eq_true_iff_forall_mem]
  intro x hx
  simp only [pgC, List.mem_toArray, List.mem_map] at hx
  obtain ⟨a, _, rfl⟩ := hx
  rfl
theorem heap_setRow_same (w : World) (g : Nat) (t : TypeId) (old cs : Array Value) (hg : w.heap[g]? = some (.cells old t (0, 0))) : (w.setRow g cs).heap[g]? = some (.cells cs t (0, 0)) := by
  unfold World.setRow
  have hl := (Array.getElem?_eq_some_iff.1 hg).1
  rw [Array.getElem?_modify]
  simp [hg]
theorem grown_setRow (w : World) (g : Nat) (cs : Array Value) : w.grownBy (w.setRow g cs) (some g) :=
  ⟨rfl, rfl, rfl, by simp, fun k _ hk => by
    unfold World.setRow
    have hk' : k ≠ g := fun e => hk (by rw [e])
    rw [Array.getElem?_modify]
    simp [hk'.symm]⟩
theorem page_info : (Tryz.prog.info? 71).map (·.size) = some 12 := by kernel_rfl
end Go.Proofs.YtfmcnkjpgaapaaaGreat

/- A tale in a block of the call's own, while it is filled. -/
namespace Go.Proofs.YtfmcnkjpgaapaaaGreat
open Go.ChangeShapes Go.WideShapes Go.ChangeAt Go.RowKit

abbrev nilV : Value := .slice none 0 0
abbrev taleC (x y : Value) : Obj := .cells #[x, y] 27
/-- Block D of the world wr is a tale; all else that was in w1 stands as it stood. -/
def StT (w1 wr : World) (D : Nat) (x y : Value) : Prop := wr.heap[D]? = some (taleC x y) ∧ w1.grownBy wr (some D)
theorem StT.start {w1 : World} (x y : Value) : StT w1 (w1.alloc (taleC x y)) w1.heap.size x y :=
  ⟨heap_alloc_new w1 _, World.grownBy_alloc w1 _ (some w1.heap.size)⟩
theorem StT.size {w1 wr : World} {D : Nat} {x y : Value} (h : StT w1 wr D x y) : D < wr.heap.size := (Array.getElem?_eq_some_iff.1 h.1).1
theorem StT.keep {w1 wr wr' : World} {D : Nat} {x y : Value} (h : StT w1 wr D x y) (hk : Keep wr wr') : StT w1 wr' D x y :=
  ⟨(Below.block hk D h.size).trans h.1, grown_trans h.2 ⟨Below.os hk, Below.tape hk, Below.output hk, Below.size hk, fun i hi _ => Below.block hk i hi⟩⟩
theorem StT.cells {w1 wr : World} {D : Nat} {x y : Value} (h : StT w1 wr D x y) :
    wr.cell? ⟨D, 0, none⟩ = some x ∧ wr.cell? ⟨D, 1, none⟩ = some y :=
  ⟨cell_of_row wr D 0 _ _ (0, 0) h.1, cell_of_row wr D 1 _ _ (0, 0) h.1⟩
theorem StT.free {w1 wr : World} {D : Nat} {x y : Value} (h : StT w1 wr D x y) (i : Nat) : wr.frozen? ⟨D, i, none⟩ = false := frozen_of_row wr D i _ _ h.1
theorem StT.set0 {w1 wr : World} {D : Nat} {x y : Value} (h : StT w1 wr D x y) (z : Value) : StT w1 (wr.setCell ⟨D, 0, none⟩ z) D z y :=
  ⟨by rw [heap_setCell_same wr D 0 _ _ _ h.1]; rfl, grown_trans h.2 ⟨rfl, rfl, rfl, by simp, fun i _ hi => heap_setCell_other wr ⟨D, 0, none⟩ i _ (fun e => hi (by simp [e]))⟩⟩
theorem StT.set1 {w1 wr : World} {D : Nat} {x y : Value} (h : StT w1 wr D x y) (z : Value) : StT w1 (wr.setCell ⟨D, 1, none⟩ z) D x z :=
  ⟨by rw [heap_setCell_same wr D 1 _ _ _ h.1]; rfl, grown_trans h.2 ⟨rfl, rfl, rfl, by simp, fun i _ hi => heap_setCell_other wr ⟨D, 1, none⟩ i _ (fun e => hi (by simp [e]))⟩⟩
/-- What was there ahead of the tale's block stands. -/
theorem StT.keep1 {w1 wr : World} {x y : Value} (h : StT w1 wr w1.heap.size x y) : Keep w1 wr :=
  (Keep.refl w1).grown h.2 (fun k hk => by simp at hk; omega)
theorem grown_setT (w : World) (g j : Nat) (v : Value) : w.grownBy (w.setCell ⟨g, j, none⟩ v) (some g) :=
  ⟨rfl, rfl, rfl, by simp, fun i _ hi => heap_setCell_other w ⟨g, j, none⟩ i _ (fun e => hi (by simp [e]))⟩
/-- A list whose block is another than the tale's stands while the tale is filled. -/
theorem Own.other {wr wr' : World} {base D : Nat} {v : Value} {zs : List Int} (h : Own wr base v zs) (hb : D < base) (hg : wr.grownBy wr' (some D)) : Own wr' base v zs :=
  h.kept hg (by
    cases hu : v.ownBlock with
    | none => exact .inl rfl
    | some k => exact .inr (fun e => by have := h.ge k hu; have := Option.some.inj e; omega))
theorem results_tmp_row {P : Program} {fn : Func} {p u : Tmp} {ty : TypeId} (h : fn.results = #[.tmp u, .cell p ty]) (tmps : Array Value) (w : World) (g : Nat) (t : TypeId) (cs : Array Value) (fr : Nat × Nat) (d : TypeDesc) (v : Value)
    (hp : tmps.getD p undef = .pointer (some ⟨g, 0, none⟩)) (hg : w.heap[g]? = some (.cells cs t fr)) (hv : tmps.getD u undef = v)
    (hu : P.underlying ty = some d) (hd : (match d with | .struct _ | .array _ _ => true | _ => false) = true) (hi : (P.info? ty).map (·.size) = some cs.size) :
    (results fn tmps).run P w = .ok (.tuple #[v, .agg cs]) w := by
  have hp' : tmps[p]?.getD undef = .pointer (some ⟨g, 0, none⟩) := by simpa using hp
  have hv' : tmps[u]?.getD undef = v := by simpa using hv
  simp [results, h, hp', hv', asAddr, run_loadVar_row w g t ty cs fr d hg hu hd hi]
end Go.Proofs.YtfmcnkjpgaapaaaGreat

/- Contract of the program's pageOf: the page of a tale. -/
namespace Go.Proofs.YtfmcnkjpgaapaaaGreat
open Go.ChangeShapes Go.WideShapes Go.ChangeAt Go.RowKit

theorem pg_zero : pgC (List.replicate 12 0) = #[.int .i64 0, .int .i64 0, .int .i64 0, .int .i64 0, .int .i64 0, .int .i64 0, .int .i64 0, .int .i64 0, .int .i64 0, .int .i64 0, .int .i64 0, .int .i64 0] := rfl
set_option maxRecDepth 100000 in
set_option maxHeartbeats 4000000 in
theorem pageOf_any (w : World) (v vF vR : Value) (dss : List (List Dd)) (f rows : List Int) (h : RdW w v dss) (hf : Rd w vF f) (hr : Rd w vR rows) (hcap : rows.length ≤ capZ vR) (hx : dss.length ≤ 1048576) (hm : ∀ i, i < dss.length → (dss.getD i []).length ≤ 1048576) (hfl : f.length ≤ 1048576) (hrl : rows.length ≤ 1048576) :
    Calls Tryz.prog 56 #[v, .agg #[vF, vR]] w fun e w' => e = .returned (pgV (pageB dss f rows)) ∧ Keep w w' := by
  have CS := fun (W : World) (kW : Keep w W) => implSourceOk_any W v vF dss f (h.keep kW) (hf.keep kW) hx hm hfl
  have CR := fun (W : World) (kW : Keep w W) => implRowsOk_any W v vR dss rows (h.keep kW) (hr.keep kW) hcap hx hm hrl
  have HT : Hid (taleB dss f rows = (sourceB dss f && rowsB dss rows)) := Lib.hid rfl
  have C0 : (pgC (List.replicate 12 0)).size = 12 := rfl
  obtain ⟨aF, cF, rfl, -⟩ := id hf
  obtain ⟨aR, cR, rfl, -⟩ := id hr
  obtain ⟨W3, hW3⟩ : ∃ W3, W3 = (((w.alloc (.cells #[.slice aF f.length cF, .slice aR rows.length cR] 27)).alloc (.cells (pgC (List.replicate 12 0)) 71)).alloc (.cells (pgC (List.replicate 12 0)) 71)) := ⟨_, rfl⟩
  have K0 : Keep w W3 := by rw [hW3]; exact (((Keep.refl w).alloc _).alloc _).alloc _
  have z0 : W3.heap.size = w.heap.size + 3 := by rw [hW3]; simp
  have c0 : W3.cell? ⟨w.heap.size, 0, none⟩ = some (.slice aF f.length cF) := by rw [hW3]; exact box_cell (((Keep.refl _).alloc _).alloc _) 0
  have c1 : W3.cell? ⟨w.heap.size, 1, none⟩ = some (.slice aR rows.length cR) := by rw [hW3]; exact box_cell (((Keep.refl _).alloc _).alloc _) 1
  have p1 : Pg W3 (w.heap.size + 1) (List.replicate 12 0) := by
    have := (Pg.new (w := w.alloc (.cells #[.slice aF f.length cF, .slice aR rows.length cR] 27)) (List.replicate 12 0)).keep ((Keep.refl _).alloc (.cells (pgC (List.replicate 12 0)) 71))
    rw [heap_size] at this
    rw [hW3]; exact this
  have p2 : Pg W3 (w.heap.size + 1 + 1) (List.replicate 12 0) := by
    have := (Pg.new (w := (w.alloc (.cells #[.slice aF f.length cF, .slice aR rows.length cR] 27)).alloc (.cells (pgC (List.replicate 12 0)) 71)) (List.replicate 12 0))
    rw [heap_size, heap_size] at this
    rw [hW3]; exact this
  generalize hS : sourceB dss f = S at CS HT
  generalize hR : rowsB dss rows = R at CR HT
  have HW : Hid (W3 = (((w.alloc (.cells #[.slice aF f.length cF, .slice aR rows.length cR] 27)).alloc (.cells (pgC (List.replicate 12 0)) 71)).alloc (.cells (pgC (List.replicate 12 0)) 71))) := Lib.hid hW3
  have HF : (S && R) = false → ∀ (W : World), Keep W3 W → Hid (Keep w (W.setRow (w.heap.size + 1) (pgC (List.replicate 12 0))) ∧ (W.setRow (w.heap.size + 1) (pgC (List.replicate 12 0))).heap[w.heap.size + 1]? = some (.cells (pgC (List.replicate 12 0)) 71 (0, 0)) ∧ pageB dss f rows = List.replicate 12 0) := fun e W kW => Lib.hid ⟨(K0.trans kW).grown (grown_setRow _ _ _) (fun k hk => by have := Option.some.inj hk; omega), heap_setRow_same _ _ _ _ _ (p1.keep kW), by rw [pageB, HT.out, e]; rfl⟩
  have BT : Hid (W3.heap[w.heap.size]? = some (taleC (.slice aF f.length cF) (.slice aR rows.length cR))) := Lib.hid (by rw [hW3]; exact box_heap (((Keep.refl _).alloc _).alloc _))
  clear hW3
  have B0 := Lib.hid c0
  have B1 := Lib.hid c1
  have P1 := Lib.hid p1
  have P2 := Lib.hid p2
  clear c0 c1 p1 p2
  go_enter Tryz.func56, Tryz.ntmps56
  go_wp2_with fail
  rw [← pg_zero, ← HW.out]
  refine (CS _ K0).mono ?_
  rintro e w1 ⟨rfl, k1⟩
  have c0 := (k1.cell (by omega)).trans B0.out
  have c1 := (k1.cell (by omega)).trans B1.out
  cases S
  · have HF := HF rfl _ k1
    clear c0 c1
    have q1 := P1.out.keep k1
    have q2 := P2.out.keep k1
    unfold Pg at q1 q2
    go_wp2_with (first | refine wpList_load_row rfl 71 _ rfl (w.heap.size + 1 + 1) rfl 71 _ (0, 0) _ q2 Tryz.underlying71 rfl (by rw [C0]; exact page_info) ?_ | refine wpList_store_row rfl 71 _ _ rfl (w.heap.size + 1) _ rfl rfl 71 _ q1 (by rw [C0]; exact page_info) rfl (pg_one _) ?_)
    refine bodyPost_ret (results_row (by rfl) _ _ (w.heap.size + 1) 71 _ (0, 0) _ rfl HF.out.2.1 Tryz.underlying71 rfl (by rw [C0]; exact page_info)) rfl ?_
    exact ⟨by rw [HF.out.2.2], HF.out.1⟩
  · go_wp2_with fail
    refine (CR _ (K0.trans k1)).mono ?_
    rintro e w2 ⟨rfl, k2⟩
    have k12 := k1.trans k2
    replace c0 := (k2.cell (by have := k1.size; omega)).trans c0
    replace c1 := (k2.cell (by have := k1.size; omega)).trans c1
    cases R
    · have HF := HF rfl _ k12
      clear c0 c1
      have q1 := P1.out.keep k12
      have q2 := P2.out.keep k12
      unfold Pg at q1 q2
      go_wp2_with (first | refine wpList_load_row rfl 71 _ rfl (w.heap.size + 1 + 1) rfl 71 _ (0, 0) _ q2 Tryz.underlying71 rfl (by rw [C0]; exact page_info) ?_ | refine wpList_store_row rfl 71 _ _ rfl (w.heap.size + 1) _ rfl rfl 71 _ q1 (by rw [C0]; exact page_info) rfl (pg_one _) ?_)
      refine bodyPost_ret (results_row (by rfl) _ _ (w.heap.size + 1) 71 _ (0, 0) _ rfl HF.out.2.1 Tryz.underlying71 rfl (by rw [C0]; exact page_info)) rfl ?_
      exact ⟨by rw [HF.out.2.2], HF.out.1⟩
    · have hT : taleB dss f rows = true := by rw [HT.out]; rfl
      obtain ⟨hx12, sl, f12, r36, -, -, ru, fu, -⟩ := page_use hT
      have HE : Hid (pageB dss f rows = pgK (idxB rdE (eventsB dss)) f (sitS rows rows.length) (idxB rdE (eventsB dss)).length) := Lib.hid (by rw [pageB, if_pos hT]; rfl)
      have RU := Lib.hid ru
      have FU := Lib.hid fu
      have SL := Lib.hid sl
      clear HF hT ru fu sl CS CR HT HW
      have K2 := K0.trans k12
      have q1 := P1.out.keep k12
      have q2 := P2.out.keep k12
      have z2 := k12.size
      have BT : Hid (w2.heap[w.heap.size]? = some (taleC (.slice aF f.length cF) (.slice aR rows.length cR))) := Lib.hid ((Below.block k12 _ (by omega)).trans BT.out)
      have Q1 := Lib.hid q1
      clear P1 P2 q1 k1 k2 k12
      go_wp2
      clear c0 c1
      go_loopw [26] (fun i wr => ∃ k : Nat, k ≤ rows.length ∧ i = .int .i64 k ∧ Pg wr (w.heap.size + 1 + 1) (sitS rows k) ∧ w2.grownBy wr (some (w.heap.size + 1 + 1))) (fun i _ => rows.length - (intOf i).toNat)
      case atStart => exact ⟨0, Nat.zero_le _, rfl, q2, World.grownBy.refl _ _⟩
      case round =>
        obtain ⟨k, hk, rfl, hp, G⟩ := hrel
        clear q2
        have K3 : Keep w wr := K2.grown G (fun j hj => by have := Option.some.inj hj; omega)
        by_cases hlt : k < rows.length
        · have hrk := hr.keep K3
          obtain ⟨a', c', he', hrk⟩ := hrk
          simp only [Value.slice.injEq, true_and] at he'
          obtain ⟨rfl, rfl⟩ := he'
          rcases hrk with h0 | ⟨bf, off, rfl, hbf, hcf'⟩
          · exfalso; rw [h0] at hlt; simp at hlt
          obtain ⟨rb, hrb⟩ := Int.eq_ofNat_of_zero_le (RU.out k hlt).1
          have hrbl : rb < 12 := by have := (RU.out k hlt).2; omega
          have d1 := hcf' k hlt
          rw [hrb] at d1
          have HN : Hid (sitS rows (k + 1) = (sitS rows k).set rb (k : Int)) := Lib.hid (by rw [sitS, hrb, Int.toNat_natCast])
          have hl : (sitS rows k).length = 12 := sitS_len _ _
          have d2 := hp.cell (j := rb) (by omega)
          have d3 := hp.free rb
          generalize sitS rows k = S0 at hp HN hl d2
          have i1 : (0 : Int) ≤ (k : Int) := Int.natCast_nonneg _
          have i2 : (k : Int) < (rows.length : Int) := by omega
          have j1 : (0 : Int) ≤ (rb : Int) := Int.natCast_nonneg _
          have j2 : (rb : Int) < 12 := by omega
          clear hcf' hl hrb
          go_wp2
          go_roundw
          case rel => exact ⟨k + 1, by omega, by go_num, by rw [HN.out]; exact hp.set rb _, grown_trans G (grown_set _ _ _ _)⟩
          case measure => simp [intOf]; omega
        · obtain rfl : k = rows.length := by omega
          go_wp2_with fail
          refine (implEventsOf_any _ _ _ (h.keep K3) hx hm).mono ?_
          rintro e w4 ⟨v4, rfl, a4, k4⟩
          have bt := (G.block w.heap.size (by omega) (fun e => by have := Option.some.inj e; omega)).trans BT.out
          have q1 := Q1.out.kept G (fun e => by have := Option.some.inj e; omega)
          have zr := G.size
          have re := a4.rd
          go_wp2_with fail
          refine (implReadsOf_any _ _ _ re (by omega)).mono ?_
          rintro e w5 ⟨v5, rfl, o5, k5⟩
          have K5 := (K3.trans k4).trans k5
          have k45 := k4.trans k5
          replace bt := (Below.block k45 _ (by omega)).trans bt
          replace q1 := q1.keep k45
          replace hp := hp.keep k45
          have z4 := k4.size
          have hB : w.heap.size + 1 + 1 < w4.heap.size := by omega
          have z5 := k5.size
          clear re a4 k4 k5 k45 G BT Q1 K3 K2 hr hcap
          generalize eventsB dss = es at *
          generalize idxB rdE es = rs at *
          have HS : Hid (∀ k, (pgK rs f (sitS rows rows.length) k).length = 12) := Lib.hid (fun k => by rw [pgK_len, sitS_len])
          obtain ⟨a5, c5, rfl, -⟩ := o5.rd
          have R12 : rs.length ≤ 12 := by rw [SL.out]; exact f12
          go_wp2
          go_loopw [39] (fun i wr => ∃ k : Nat, k ≤ rs.length ∧ i = .int .i64 k ∧ Pg wr (w.heap.size + 1 + 1) (pgK rs f (sitS rows rows.length) k) ∧ w5.grownBy wr (some (w.heap.size + 1 + 1))) (fun i _ => rs.length - (intOf i).toNat)
          case atStart => exact ⟨0, Nat.zero_le _, rfl, hp, World.grownBy.refl _ _⟩
          case round =>
            clear hp
            obtain ⟨k, hk, rfl, hp, G⟩ := hrel
            have K6 : Keep w wr := K5.grown G (fun j hj => by have := Option.some.inj hj; omega)
            by_cases hlt : k < rs.length
            · have hlf : k < f.length := by rw [← SL.out]; exact hlt
              have hrk := (o5.other hB G).rd
              obtain ⟨a', c', he', hrk⟩ := hrk
              simp only [Value.slice.injEq, true_and] at he'
              obtain ⟨rfl, rfl⟩ := he'
              rcases hrk with h0 | ⟨bf, off, rfl, hbf, hcf'⟩
              · exfalso; rw [h0] at hlt; simp at hlt
              have hfk := hf.keep K6
              obtain ⟨a', c', he', hfk⟩ := hfk
              simp only [Value.slice.injEq, true_and] at he'
              obtain ⟨rfl, rfl⟩ := he'
              rcases hfk with h0 | ⟨bg, oft, rfl, hbg, hcg'⟩
              · exfalso; rw [h0] at hlf; simp at hlf
              have bk := (G.block w.heap.size (by omega) (fun e => by have := Option.some.inj e; omega)).trans bt
              have c0 : wr.cell? ⟨w.heap.size, 0, none⟩ = some _ := cell_of_row _ _ 0 _ _ (0, 0) bk
              obtain ⟨⟨f0, f1⟩, ⟨r0, r1⟩, -⟩ := FU.out k hlf
              obtain ⟨rb, hrb⟩ := Int.eq_ofNat_of_zero_le r0
              obtain ⟨fb, hfb⟩ := Int.eq_ofNat_of_zero_le f0
              have hrbl : rb < 12 := by omega
              have hfbl : fb < 12 := by omega
              have d1 := hcf' k hlt
              rw [hrb] at d1
              have e1 := hcg' k hlf
              rw [hfb] at e1
              have HN : Hid (pgK rs f (sitS rows rows.length) (k + 1) = (pgK rs f (sitS rows rows.length) k).set rb ((pgK rs f (sitS rows rows.length) k).getD fb 0)) := Lib.hid (by rw [pgK, hrb, hfb, Int.toNat_natCast, Int.toNat_natCast])
              have hl := HS.out k
              have d2 := hp.cell (j := rb) (by omega)
              have d3 := hp.free rb
              have d4 := hp.cell (j := fb) (by omega)
              generalize pgK rs f (sitS rows rows.length) k = S0 at hp HN hl d2 d4
              have i1 : (0 : Int) ≤ (k : Int) := Int.natCast_nonneg _
              have i2 : (k : Int) < (rs.length : Int) := by omega
              have i3 : (k : Int) < (f.length : Int) := by omega
              have j1 : (0 : Int) ≤ (rb : Int) := Int.natCast_nonneg _
              have j2 : (rb : Int) < 12 := by omega
              have l1 : (0 : Int) ≤ (fb : Int) := Int.natCast_nonneg _
              have l2 : (fb : Int) < 12 := by omega
              clear hcf' hcg' hl hrb hfb f0 f1 r0 r1 bk bt q1
              go_wp2
              go_roundw
              case rel => exact ⟨k + 1, by omega, by go_num, by rw [HN.out]; exact hp.set rb _, grown_trans G (grown_set _ _ _ _)⟩
              case measure => simp [intOf]; omega
            · obtain rfl : k = rs.length := by omega
              have q3 := q1.kept G (fun e => by have := Option.some.inj e; omega)
              have hl := HS.out rs.length
              rw [← HE.out] at hl hp
              have PS := pg_size hl
              have PI : (Tryz.prog.info? 71).map (·.size) = some (pgC (pageB dss f rows)).size := by rw [PS]; exact page_info
              have HF : Hid (Keep w (wr.setRow (w.heap.size + 1) (pgC (pageB dss f rows))) ∧ (wr.setRow (w.heap.size + 1) (pgC (pageB dss f rows))).heap[w.heap.size + 1]? = some (.cells (pgC (pageB dss f rows)) 71 (0, 0))) := Lib.hid ⟨K6.grown (grown_setRow _ _ _) (fun k hk => by have := Option.some.inj hk; omega), heap_setRow_same _ _ _ _ _ q3⟩
              have HO : Hid ((pgC (List.replicate 12 0)).size = (pgC (pageB dss f rows)).size) := Lib.hid (by rw [PS]; rfl)
              have HI := Lib.hid PI
              have HP := Lib.hid (pg_one (pageB dss f rows))
              clear PI PS hl HE HS bt q1
              unfold Pg at hp q3
              obtain ⟨P, hP⟩ : ∃ P, P = pgC (pageB dss f rows) := ⟨_, rfl⟩
              rw [← hP] at hp HI HF HO HP
              have HQ := Lib.hid hP
              clear hP
              go_wp2_with (first | refine wpList_load_row rfl 71 _ rfl (w.heap.size + 1 + 1) rfl 71 _ (0, 0) _ hp Tryz.underlying71 rfl HI.out ?_ | refine wpList_store_row rfl 71 _ _ rfl (w.heap.size + 1) _ rfl rfl 71 _ q3 HI.out HO.out HP.out ?_)
              refine bodyPost_ret (results_row (by rfl) _ _ (w.heap.size + 1) 71 _ (0, 0) _ rfl HF.out.2 Tryz.underlying71 rfl HI.out) rfl ?_
              exact ⟨by rw [HQ.out], HF.out.1⟩
end Go.Proofs.YtfmcnkjpgaapaaaGreat

/- Contract of the program's page.isBlank: arrays that are compared. -/
namespace Go.Proofs.YtfmcnkjpgaapaaaGreat
open Go.ChangeShapes Go.WideShapes Go.ChangeAt Go.RowKit

theorem eqItems_zero (p : List Int) (hp : p.length = 12) (w : World) : ∀ is : List Nat, (∀ i ∈ is, i < 12) → (Op.eqItems 9999 2 (Tryz.prog.cellsOf 2) (pgC p) (pgC (List.replicate 12 0)) is).run Tryz.prog w = .ok (is.all (fun i => p.getD i 0 == 0)) w
  | [], _ => by simp [Op.eqItems]
  | i :: is, h => by
    have hi : i < 12 := h i (by simp)
    have hc : Tryz.prog.cellsOf 2 = 1 := by kernel_rfl
    have he : Tryz.prog.plainKey 2 = true := by kernel_rfl
    have p1 := run_part_plain (P := Tryz.prog) w (e := 2) he (xs := pgC p) (off := i * 1) (v := .int .i64 (p.getD i 0)) (by
      simp only [pgC, Nat.mul_one, List.getElem?_toArray, List.getElem?_map, List.getD_eq_getElem?_getD]
      rw [List.getElem?_eq_getElem (by omega)]
      rfl)
    have p2 := run_part_plain (P := Tryz.prog) w (e := 2) he (xs := pgC (List.replicate 12 0)) (off := i * 1) (v := .int .i64 0) (by
      simp only [pgC, Nat.mul_one, List.getElem?_toArray, List.getElem?_map]
      rw [List.getElem?_replicate, if_pos hi]
      rfl)
    have p3 := run_equalIn_int (P := Tryz.prog) w 9998 2 .i64 .i64 (p.getD i 0) 0 Tryz.underlying2
    have ih := eqItems_zero p hp w is (fun j hj => h j (by simp [hj]))
    rw [hc] at ih ⊢
    simp only [Op.eqItems, Sem.run_bind, p1, p2, p3, Result.andThen_ok, List.all_cons]
    cases hz : (p.getD i 0 == 0) with
    | false => simp
    | true => simpa using ih
theorem all_blank {p : List Int} (hp : p.length = 12) : (List.range 12).all (fun i => p.getD i 0 == 0) = blankB p := by
  unfold blankB
  rw [Bool.eq_iff_iff, List.all_eq_true, decide_eq_true_eq]
  constructor
  · intro h
    refine list_ext (n := 12) hp (by simp) (fun i hi => ?_)
    have := h i (List.mem_range.2 hi)
    rw [beq_iff_eq] at this
    rw [this, List.getD_eq_getElem?_getD, List.getElem?_replicate, if_pos hi]
    rfl
  · intro h i hi
    rw [h, List.getD_eq_getElem?_getD, List.getElem?_replicate, if_pos (List.mem_range.1 hi)]
    rfl
theorem eqPage (p : List Int) (hp : p.length = 12) (w : World) : (Op.equalIn 10000 71 (pgV p) (pgV (List.replicate 12 0))).run Tryz.prog w = .ok (blankB p) w := by
  have hs : (Tryz.prog.info? 2).isSome = true := by kernel_rfl
  obtain ⟨i, hi⟩ := Option.isSome_iff_exists.1 hs
  rw [show (10000 : Nat) = 9999 + 1 from rfl, run_equalIn_array w 9999 _ _ Tryz.underlying71 hi, eqItems_zero p hp w _ (fun i hi => List.mem_range.1 hi), all_blank hp]
set_option maxRecDepth 100000 in
set_option maxHeartbeats 2000000 in
theorem isBlank_any (w : World) (p : List Int) (hp : p.length = 12) :
    Calls Tryz.prog 57 #[pgV p] w fun e w' => e = .returned (.bool (blankB p)) ∧ Keep w w' := by
  have EQ := eqPage p hp
  have EG : Tryz.prog.eqGuardType Tryz.prog.depth 71 = false := by kernel_rfl
  obtain ⟨a0, a1, a2, a3, a4, a5, a6, a7, a8, a9, a10, a11, rfl⟩ : ∃ a0 a1 a2 a3 a4 a5 a6 a7 a8 a9 a10 a11 : Int, p = [a0, a1, a2, a3, a4, a5, a6, a7, a8, a9, a10, a11] := by
    match p, hp with
    | [a0, a1, a2, a3, a4, a5, a6, a7, a8, a9, a10, a11], _ => exact ⟨a0, a1, a2, a3, a4, a5, a6, a7, a8, a9, a10, a11, rfl⟩
  have EQ : ∀ W : World, (Op.equalIn 10000 71 (.agg #[.int .i64 a0, .int .i64 a1, .int .i64 a2, .int .i64 a3, .int .i64 a4, .int .i64 a5, .int .i64 a6, .int .i64 a7, .int .i64 a8, .int .i64 a9, .int .i64 a10, .int .i64 a11]) (.agg #[.int .i64 0, .int .i64 0, .int .i64 0, .int .i64 0, .int .i64 0, .int .i64 0, .int .i64 0, .int .i64 0, .int .i64 0, .int .i64 0, .int .i64 0, .int .i64 0])).run Tryz.prog W = .ok (blankB [a0, a1, a2, a3, a4, a5, a6, a7, a8, a9, a10, a11]) W := EQ
  generalize blankB [a0, a1, a2, a3, a4, a5, a6, a7, a8, a9, a10, a11] = R at *
  clear hp
  show Calls Tryz.prog 57 #[.agg #[.int .i64 a0, .int .i64 a1, .int .i64 a2, .int .i64 a3, .int .i64 a4, .int .i64 a5, .int .i64 a6, .int .i64 a7, .int .i64 a8, .int .i64 a9, .int .i64 a10, .int .i64 a11]] w _
  go_enter Tryz.func57, Tryz.ntmps57
  go_wp2
  go_ret
  exact ⟨rfl, (Keep.refl w).alloc _⟩
end Go.Proofs.YtfmcnkjpgaapaaaGreat

/- Contract of the program's AgainstWeb. -/
namespace Go.Proofs.YtfmcnkjpgaapaaaGreat
open Go.ChangeShapes Go.WideShapes Go.ChangeAt Go.RowKit

theorem idx_top {es : List Ev} (hx : es.length ≤ 12) (t : Ev → Bool) : (idxB t es).length ≤ 12 := by
  unfold idxB
  rw [if_pos hx]
  have := idxK_len t es es.length
  omega
set_option maxRecDepth 100000 in
set_option maxHeartbeats 4000000 in
theorem implAgainstWeb_any (w : World) (v vF vR : Value) (dss : List (List Dd)) (f rows : List Int) (h : RdW w v dss) (hf : Rd w vF f) (hr : Rd w vR rows) (hcap : rows.length ≤ capZ vR) (hx : dss.length ≤ 1048576) (hm : ∀ i, i < dss.length → (dss.getD i []).length ≤ 1048576) (hfl : f.length ≤ 1048576) (hrl : rows.length ≤ 1048576) :
    Calls Tryz.prog 36 #[v, .agg #[vF, vR]] w fun e w' => ∃ v', e = .returned v' ∧ Row w' w.heap.size v' (agB dss f rows) ∧ Keep w w' := by
  have C := fun (W : World) (kW : Keep w W) => pageOf_any W v vF vR dss f rows (h.keep kW) (hf.keep kW) (hr.keep kW) hcap hx hm hfl hrl
  have CB := fun (W : World) => isBlank_any W (pageB dss f rows) (pageB_len dss f rows)
  rw [page_blank] at CB
  have hPl := pageB_len dss f rows
  have HP : taleB dss f rows = true → Hid (pageB dss f rows = pageL (eventsB dss) f rows) := fun e => Lib.hid (by rw [pageB, if_pos e])
  obtain ⟨P, hP⟩ : ∃ P, P = pageB dss f rows := ⟨_, rfl⟩
  rw [← hP] at C CB hPl HP
  clear hP
  obtain ⟨aF, cF, rfl, -⟩ := hf
  obtain ⟨aR, cR, rfl, -⟩ := hr
  have PI : (Tryz.prog.info? 71).map (·.size) = some (pgC P).size := by rw [pg_size hPl]; exact page_info
  have HI := Lib.hid PI
  have HO : Hid ((pgC (List.replicate 12 0)).size = (pgC P).size) := Lib.hid (by rw [pg_size hPl]; rfl)
  have H1 := Lib.hid (pg_one P)
  clear PI
  go_enter Tryz.func36, Tryz.ntmps36
  go_wp2_with fail
  refine (C _ ((Keep.refl w).alloc _)).mono ?_
  rintro e w1 ⟨rfl, k1⟩
  have K1 := ((Keep.refl w).alloc _).trans k1
  have hz := Pg.new (w := w1) (List.replicate 12 0)
  have h1 : ((w1.alloc (.cells (pgC (List.replicate 12 0)) 71)).setRow w1.heap.size (pgC P)).heap[w1.heap.size]? = some (.cells (pgC P) 71 (0, 0)) := heap_setRow_same _ _ _ _ _ hz
  have k2 : Keep w1 ((w1.alloc (.cells (pgC (List.replicate 12 0)) 71)).setRow w1.heap.size (pgC P)) := ((Keep.refl w1).alloc _).grown (grown_setRow _ _ _) (fun k hk => by have := Option.some.inj hk; omega)
  clear k1 C
  unfold Pg at hz
  go_wp2_with (first | refine wpList_store_row rfl 71 _ _ rfl w1.heap.size _ rfl rfl 71 _ hz HI.out HO.out H1.out ?_ | refine wpList_load_row rfl 71 _ rfl w1.heap.size rfl 71 _ (0, 0) _ h1 Tryz.underlying71 rfl HI.out ?_ | fail)
  have HH := Lib.hid h1
  have z1 : w1.heap.size < ((w1.alloc (.cells (pgC (List.replicate 12 0)) 71)).setRow w1.heap.size (pgC P)).heap.size := by simp
  refine (CB _).mono ?_
  rintro e w2 ⟨rfl, k3⟩
  have K2 := (K1.trans k2).trans k3
  have s1 := K1.size
  have pg : Pg w2 w1.heap.size P := (Below.block k3 _ z1).trans HH.out
  clear hz h1 k2 k3 z1 HH HI HO H1 CB
  cases hb : taleB dss f rows
  · have HE : Hid (agB dss f rows = []) := Lib.hid (by rw [agB, hb]; rfl)
    have s2 := K2.size
    clear hb HP
    go_wp2
    go_ret
    exact ⟨_, rfl, by rw [HE.out]; exact (row_empty w2 _).base_le s2, K2.alloc _⟩
  · have HP := HP hb
    obtain ⟨h12, sl, f12, -, -, -, -, fu, -⟩ := page_use hb
    have fin : ∀ i, i < (idxB rdE (eventsB dss)).length → 0 ≤ (idxB rdE (eventsB dss)).getD i 0 ∧ (idxB rdE (eventsB dss)).getD i 0 < ((eventsB dss).length : Int) := fun i hi => (fu i (by omega)).2.1
    have HE : Hid (agB dss f rows = agO (eventsB dss) P (idxB rdE (eventsB dss)) (idxB rdE (eventsB dss)).length) := Lib.hid (by rw [HP.out, ag_same hb])
    have HWO := Lib.hid (web_agO (p := P) h12 fin)
    have HWI := Lib.hid (fun (r : Nat) (p0 : Int) (st : List Int) hr hst => web_agI (p := P) (ws := idxB (toE p0) (eventsB dss)) (n := (eventsB dss).length) (r := r) (st := st) (fun j hj => (idx_all h12 (get_mem hj)).1) hr hst)
    have FIN := Lib.hid fin
    have WIN := Lib.hid (fun (p0 : Int) (j : Nat) (hj : j < (idxB (toE p0) (eventsB dss)).length) => (idx_all h12 (get_mem hj)).1)
    have R12 : (idxB rdE (eventsB dss)).length ≤ 12 := by omega
    clear fin fu sl f12 hb HP
    go_wp2_with fail
    refine (implEventsOf_any _ _ _ (h.keep K2) hx hm).mono ?_
    rintro e w3 ⟨v3, rfl, a3, k3⟩
    have s3 := k3.size
    have s2 := K2.size
    replace pg := pg.keep k3
    have re := a3.rd
    have K3 := K2.trans k3
    generalize eventsB dss = es at *
    obtain ⟨ae, ce, rfl, re'⟩ := id re
    go_wp2_with fail
    refine (blank_any _ _ h12).mono ?_
    rintro e w4 ⟨rfl, rb, k4⟩
    have s4 := rb.lt
    go_wp2_with fail
    refine (implReadsOf_any _ _ _ (re.keep k4) (by omega)).mono ?_
    rintro e w5 ⟨v5, rfl, o5, k5⟩
    have s5 := k5.size
    replace rb := rb.keep k5
    have k35 := k4.trans k5
    obtain ⟨a5, c5, rfl, -⟩ := o5.rd
    generalize idxB rdE es = rs at *
    clear a3 k4 k5 K1 K2 k3 h hx hm hcap
    have pl := pg.lt
    go_wp2
    go_loopw [26] (fun i wr => ∃ k : Nat, k ≤ rs.length ∧ i = .int .i64 k ∧ RowAt wr w3.heap.size (agO es P rs k) ∧ w5.grownBy wr (some w3.heap.size)) (fun i _ => rs.length - (intOf i).toNat)
    case atStart => exact ⟨0, Nat.zero_le _, rfl, rb, World.grownBy.refl _ _⟩
    case round =>
      obtain ⟨k, hk, rfl, hr, G⟩ := hrel
      clear rb
      have kr : Keep w3 wr := k35.grown G (fun j hj => by have := Option.some.inj hj; omega)
      by_cases hlt : k < rs.length
      · have hrk := (o5.other (by omega) G).rd
        obtain ⟨a', c', he', hrk⟩ := hrk
        simp only [Value.slice.injEq, true_and] at he'
        obtain ⟨rfl, rfl⟩ := he'
        rcases hrk with h0 | ⟨bf, off, rfl, hbf, hcf'⟩
        · exfalso; rw [h0] at hlt; simp at hlt
        obtain ⟨ra, hra⟩ := Int.eq_ofNat_of_zero_le (FIN.out k hlt).1
        have hral : ra < es.length := by have := (FIN.out k hlt).2; omega
        have d1 := hcf' k hlt
        rw [hra] at d1
        clear hcf'
        rcases re' with h0 | ⟨be, oe, rfl, hbe, hce⟩
        · exfalso; rw [h0] at hral; simp at hral
        have AX := (hce ra _ (evs_get hral)).keep hbe kr
        have CW := fun (W : World) (kW : Keep w3 W) => implWritesTo_any W _ es (re.keep kW) (by omega) (es.getD ra zE).2.2.2.1
        have HN : Hid (agO es P rs (k + 1) = agI P ra (idxB (toE (es.getD ra zE).2.2.2.1) es) (agO es P rs k) (idxB (toE (es.getD ra zE).2.2.2.1) es).length) := Lib.hid (by rw [agO, hra]; unfold plE; rw [Int.toNat_natCast])
        have HX := Lib.hid (HWI.out ra (es.getD ra zE).2.2.2.1 (agO es P rs k) hral (HWO.out k hk).1)
        have HW := Lib.hid (WIN.out (es.getD ra zE).2.2.2.1)
        generalize agO es P rs k = S0 at hr HN HX
        generalize es.getD ra zE = ex at AX CW HN HX HW
        obtain ⟨x0, x1, x2, x3, x4, x5⟩ := ex
        obtain ⟨A0, A1, A2, A3, A4, A5⟩ := atE AX
        simp only at CW HN HX HW A3
        clear AX hce A0 A1 A2 A4 A5 hra
        have i1 : (0 : Int) ≤ (k : Int) := Int.natCast_nonneg _
        have i2 : (k : Int) < (rs.length : Int) := by omega
        have i3 : (0 : Int) ≤ (ra : Int) := Int.natCast_nonneg _
        have i4 : (ra : Int) < (es.length : Int) := by omega
        go_wp2_with fail
        refine (CW _ kr).mono ?_
        rintro e w6 ⟨v6, rfl, o6, k6⟩
        clear CW d1 A3
        have W12 := idx_top h12 (toE x3)
        generalize idxB (toE x3) es = ws at *
        obtain ⟨a6, c6, rfl, -⟩ := o6.rd
        replace hr := hr.keep k6
        have kr6 := kr.trans k6
        have sr := G.size
        have G6 : w5.grownBy w6 (some w3.heap.size) := grown_trans G ⟨Below.os k6, Below.tape k6, Below.output k6, Below.size k6, fun i hi _ => Below.block k6 i hi⟩
        clear kr G
        go_wp2
        go_loopw [38] (fun i wq => ∃ q : Nat, q ≤ ws.length ∧ i = .int .i64 q ∧ RowAt wq w3.heap.size (agI P ra ws S0 q) ∧ w6.grownBy wq (some w3.heap.size)) (fun i _ => ws.length - (intOf i).toNat)
        case atStart => exact ⟨0, Nat.zero_le _, rfl, hr, World.grownBy.refl _ _⟩
        case round =>
          clear hr
          obtain ⟨q, hq, rfl, hr, Gq⟩ := hrel
          have kq : Keep w3 wr := kr6.grown Gq (fun j hj => by have := Option.some.inj hj; omega)
          by_cases hqk : q < ws.length
          · have hrk := (o6.other (by omega) Gq).rd
            obtain ⟨a', c', he', hrk⟩ := hrk
            simp only [Value.slice.injEq, true_and] at he'
            obtain ⟨rfl, rfl⟩ := he'
            rcases hrk with h0 | ⟨bg, ofg, rfl, hbg, hcg'⟩
            · exfalso; rw [h0] at hqk; simp at hqk
            obtain ⟨rb, hrb⟩ := Int.eq_ofNat_of_zero_le (HW.out q hqk).1
            have hrbl : rb < es.length := by have := (HW.out q hqk).2; omega
            have d2 := hcg' q hqk
            rw [hrb] at d2
            have pq := pg.keep kq
            have p1 := pq.cell (j := ra) (by omega)
            have p2 := pq.cell (j := rb) (by omega)
            have hBl := (HX.out q hq).1.2.1
            have HY : P.getD ra 0 < P.getD rb 0 → Hid (agI P ra ws S0 (q + 1) = (agI P ra ws S0 q).set ra (gAdd ((agI P ra ws S0 q).getD ra 0) (rb : Int))) := fun e => Lib.hid (by rw [agI, hrb, Int.toNat_natCast, if_pos (decide_eq_true e)])
            have HM : ¬ P.getD ra 0 < P.getD rb 0 → Hid (agI P ra ws S0 (q + 1) = agI P ra ws S0 q) := fun e => Lib.hid (by rw [agI, hrb, Int.toNat_natCast, if_neg (by simpa using e)])
            clear hcg' hrb
            generalize agI P ra ws S0 q = S at hr HY HM hBl
            generalize P.getD ra 0 = pa at p1 HY HM
            generalize P.getD rb 0 = pb at p2 HY HM
            have n1 : (0 : Int) ≤ (q : Int) := Int.natCast_nonneg _
            have n2 : (q : Int) < (ws.length : Int) := by omega
            have n3 : (0 : Int) ≤ (rb : Int) := Int.natCast_nonneg _
            have n4 : (rb : Int) < 12 := by omega
            have n5 : (ra : Int) < 12 := by omega
            have n6 : (0 : Int) ≤ (ra : Int) := Int.natCast_nonneg _
            by_cases hp : pa < pb
            · have HE1 := HY hp
              clear HY HM
              go_wp2
              go_quiet (fail)
              clear p1 p2 d2
              go_wp2_with fail
              refine (line_any _ w3.heap.size es.length es.length S ra (rb : Int) (hr.drewN _) hBl hral).mono ?_
              rintro e w7 ⟨rfl, R7, g7⟩
              have G7 := grown_trans (grown_trans Gq (grown_draw wr _ _)) g7
              go_wp2
              go_roundw
              case rel => exact ⟨q + 1, by omega, by go_num, by rw [HE1.out]; exact R7, G7⟩
              case measure => simp [intOf]; omega
            · have HE1 := HM hp
              have hp' : pb ≤ pa := by omega
              clear HY HM
              go_wp2
              go_quiet (fail)
              clear p1 p2 d2
              go_wp2
              go_roundw
              case rel => exact ⟨q + 1, by omega, by go_num, by rw [HE1.out]; exact hr.drewN _, grown_trans Gq (grown_draw wr _ _)⟩
              case measure => simp [intOf]; omega
          · obtain rfl : q = ws.length := by omega
            go_wp2
            go_roundw
            case rel => exact ⟨k + 1, by omega, by go_num, by rw [HN.out]; exact hr, grown_trans G6 Gq⟩
            case measure => simp [intOf]; omega
      · obtain rfl : k = rs.length := by omega
        have hl := (HWO.out rs.length (Nat.le_refl _)).1.2.1
        go_wp2
        go_ret
        exact ⟨_, rfl, by rw [HE.out]; exact .inr ⟨w3.heap.size, es.length, by rw [hl]; rfl, by omega, hr⟩, K3.trans kr⟩
end Go.Proofs.YtfmcnkjpgaapaaaGreat

/- Plain facts on the lists that the loops of Then, Back and Ways build. -/
namespace Go.Proofs.YtfmcnkjpgaapaaaGreat
open Go.RowKit

/-- The first k places are done, the others are 0. -/
def thenK (a b : List Int) (k : Nat) : List Int := (a.map (fun x => thenS x b 12)).take k ++ List.replicate (a.length - k) 0
theorem thenK_len (a b : List Int) {k : Nat} (hk : k ≤ a.length) : (thenK a b k).length = a.length := by
  unfold thenK
  rw [List.length_append, List.length_take, List.length_map, List.length_replicate]; omega
theorem thenK_zero (a b : List Int) : thenK a b 0 = List.replicate a.length 0 := by simp [thenK]
theorem thenK_end (a b : List Int) : thenK a b a.length = a.map (fun x => thenS x b 12) := by
  unfold thenK
  rw [Nat.sub_self, List.replicate_zero, List.append_nil, List.take_of_length_le (by simp)]
theorem thenK_set (a b : List Int) {k : Nat} (hk : k < a.length) : (thenK a b k).set k (thenS (a.getD k 0) b 12) = thenK a b (k + 1) := by
  unfold thenK
  have hz : k < (a.map (fun x => thenS x b 12)).length := by simpa using hk
  have hl : ((a.map (fun x => thenS x b 12)).take k).length = k := by rw [List.length_take]; omega
  rw [List.set_append_right _ _ (by omega), hl, Nat.sub_self, show a.length - k = (a.length - (k + 1)) + 1 from by omega, List.replicate_succ, List.set_cons_zero, List.take_succ_eq_append_getElem hz, List.append_assoc, List.getElem_map, List.getD_eq_getElem?_getD, List.getElem?_eq_getElem hk]
  rfl
theorem thenK_same (a b : List Int) {k : Nat} (hk : k < a.length) : (thenK a b k).set k 0 = thenK a b k := by
  unfold thenK
  have hl : ((a.map (fun x => thenS x b 12)).take k).length = k := by rw [List.length_take, List.length_map]; omega
  rw [List.set_append_right _ _ (by omega), hl, Nat.sub_self, show a.length - k = (a.length - (k + 1)) + 1 from by omega, List.replicate_succ, List.set_cons_zero]
/-- The j-th member is one of the set's n. -/
theorem mem_at {n : Nat} {p : Int} (hp : okB n p = true) {j : Nat} (hj : j < (mem p 12).length) : ∃ m : Nat, (mem p 12).getD j 0 = m ∧ m < n := by
  have hm := getD_mem hj
  obtain ⟨m, _, e, hs⟩ := (mem_iff p 12 _).1 hm
  exact ⟨m, e, inSetB_iff hp hs⟩
theorem foldl_snoc {α : Type} (f : α → Int → α) (x : α) (l : List Int) {j : Nat} (hj : j < l.length) : (l.take (j + 1)).foldl f x = f ((l.take j).foldl f x) (l.getD j 0) := by
  rw [take_snoc l j hj, List.foldl_append]; rfl
theorem set_set_same (l : List Int) (k : Nat) (x y : Int) : (l.set k x).set k y = l.set k y := by simp
theorem getD_set_same (l : List Int) {k : Nat} (hk : k < l.length) (x : Int) : (l.set k x).getD k 0 = x := by rw [getD_set l k k x hk, if_pos rfl]
theorem backF_len (i : Nat) (st : List Int) (l : List Int) : (l.foldl (backF i) st).length = st.length := by
  induction l generalizing st with
  | nil => rfl
  | cons x l ih => rw [List.foldl_cons, ih]; simp [backF]
theorem backAll_len (zs : List Int) (m : Nat) : (backAll zs m).length = zs.length := by
  induction m with
  | zero => simp [backAll]
  | succ m ih => unfold backAll; rw [backIn_len, ih]
theorem wayAll_len (zs : List Int) (m : Nat) : (wayAll zs m).length = zs.length := by
  induction m with
  | zero => rfl
  | succ m ih => unfold wayAll; rw [wayIn_len, ih]
end Go.Proofs.YtfmcnkjpgaapaaaGreat

/- Small facts for the laws on a function of lists: what came in stays where only new memory is written; how long an answer is. -/
namespace Go.Proofs.YtfmcnkjpgaapaaaGreat
open Go.ChangeShapes Go.WideShapes Go.ChangeAt Go.RowKit

/-- A list in memory below block B. -/
def RdO (w : World) (B : Nat) (v : Value) (zs : List Int) : Prop :=
  ∃ (a : Option Addr) (cap : Nat), v = .slice a zs.length cap ∧
    (zs = [] ∨ ∃ b off, a = some ⟨b, off, none⟩ ∧ b < B ∧ b < w.heap.size ∧ ∀ i, i < zs.length → w.cell? ⟨b, off + i, none⟩ = some (.int .i64 (zs.getD i 0)))
theorem Rd.old {w : World} {v : Value} {zs : List Int} (h : Rd w v zs) : RdO w w.heap.size v zs := by
  obtain ⟨a, cap, hv, h⟩ := h
  refine ⟨a, cap, hv, ?_⟩
  rcases h with h | ⟨b, off, ha, hb, hc⟩
  · exact .inl h
  · exact .inr ⟨b, off, ha, hb, hb, hc⟩
theorem RdO.rd {w : World} {B : Nat} {v : Value} {zs : List Int} (h : RdO w B v zs) : Rd w v zs := by
  obtain ⟨a, cap, hv, h⟩ := h
  refine ⟨a, cap, hv, ?_⟩
  rcases h with h | ⟨b, off, ha, _, hb, hc⟩
  · exact .inl h
  · exact .inr ⟨b, off, ha, hb, hc⟩
theorem RdO.stay {w w' : World} {B : Nat} {v : Value} {zs : List Int} {row : Option Nat} (h : RdO w B v zs) (hg : w.grownBy w' row) (hr : ∀ k, row = some k → B ≤ k) : RdO w' B v zs := by
  obtain ⟨a, cap, hv, h⟩ := h
  refine ⟨a, cap, hv, ?_⟩
  rcases h with h | ⟨b, off, ha, hB, hb, hc⟩
  · exact .inl h
  · refine .inr ⟨b, off, ha, hB, Nat.lt_of_lt_of_le hb hg.size, fun i hi => ?_⟩
    rw [World.cell?_of_block (w := w) (hg.block b hb (fun e => by have := hr b e.symm; omega))]
    exact hc i hi
theorem RdO.keep {w w' : World} {B : Nat} {v : Value} {zs : List Int} (h : RdO w B v zs) (k : Keep w w') : RdO w' B v zs := h.stay k.grownBy (by simp)
theorem mixL_len (f : Int → Int → Int) (a b : List Int) : (mixL f a b).length ≤ 12 := by
  unfold mixL
  cases h : twoB a b with
  | false => simp
  | true => have := webB_len (twoB_iff.1 h).2.1; simp; omega
theorem thenL_len (a b : List Int) : (thenL a b).length ≤ 12 := by
  unfold thenL
  cases h : twoB a b with
  | false => simp
  | true => have := webB_len (twoB_iff.1 h).2.1; simp; omega
theorem backL_len (a : List Int) : (backL a).length ≤ 12 := by
  unfold backL
  cases h : webB a with
  | false => simp
  | true => have := webB_len h; simp [backAll_len]; omega
theorem waysL_len (a : List Int) : (waysL a).length ≤ 12 := by
  unfold waysL
  cases h : webB a with
  | false => simp
  | true => have := webB_len h; simp [wayAll_len]; omega
end Go.Proofs.YtfmcnkjpgaapaaaGreat

/- How long the answers on rows are. -/
namespace Go.Proofs.YtfmcnkjpgaapaaaGreat
open Go.RowKit

theorem ratB_len (dss : List (List Dd)) (n : Int) : (ratB dss n).length ≤ 36 := by
  by_cases h : 0 ≤ n ∧ n < rcntB dss
  · exact (row_all h.1 h.2).2.2.1
  · unfold ratB
    rw [if_neg h]
    simp
theorem rwB_len (dss : List (List Dd)) (f : List Int) : (rwB dss f).length ≤ 12 := by
  unfold rwB
  split
  · rename_i h
    rw [rowsB, Bool.and_eq_true] at h
    have hx := eventsB_12 dss
    obtain ⟨_, _, hr⟩ := rows_use hx h.2
    have := (web_rwAll hx hr f.length (Nat.le_refl _)).1.2.1
    unfold rwL
    omega
  · simp
end Go.Proofs.YtfmcnkjpgaapaaaGreat

/- How long the answers on tales are. -/
namespace Go.Proofs.YtfmcnkjpgaapaaaGreat
open Go.RowKit

theorem agB_len (dss : List (List Dd)) (f rows : List Int) : (agB dss f rows).length ≤ 12 := by
  unfold agB
  split
  · rename_i h
    have hb := (tale_use h).1
    rw [agL, agK_len, eventsB, if_pos hb]
    exact (events_law hb).1
  · simp
theorem ocB_len (dss : List (List Dd)) (f rows : List Int) : (ocB dss f rows).length ≤ 15 := by
  by_cases h : taleB dss f rows = true
  · obtain ⟨_, h1, h2, h3, _⟩ := ag_law h
    omega
  · unfold ocB
    rw [if_neg h]
    simp
end Go.Proofs.YtfmcnkjpgaapaaaGreat

/- Contracts of the program's joining (a closure that keeps the lines so far) and PlaceWeb. -/
namespace Go.Proofs.YtfmcnkjpgaapaaaGreat
open Go.ChangeShapes Go.WideShapes Go.ChangeAt Go.RowKit

theorem joining_any (w : World) (a : Option Addr) (n c : Nat) :
    Calls Tryz.prog 32 #[.slice a n c] w fun e w' => e = .returned (.func (Fn.func 58) #[] #[.pointer (some ⟨w.heap.size, 0, none⟩)]) ∧ w' = w.alloc (.cells #[.slice a n c] 25) := by
  go_enter Tryz.func32, Tryz.ntmps32
  go_wp2
  go_ret
  exact ⟨rfl, rfl⟩
set_option maxHeartbeats 1000000 in
theorem joins_any (w : World) (g : Nat) (u v : Value) (xs ys : List Int) (hg : w.heap[g]? = some (.cells #[u] 25 (0, 0))) (h1 : Rd w u xs) (h2 : Rd w v ys) (n1 : xs.length ≤ 1048576) (n2 : ys.length ≤ 1048576) :
    Calls Tryz.prog 58 #[v, .pointer (some ⟨g, 0, none⟩)] w fun e w' => ∃ v', e = .returned v' ∧ Row w' w.heap.size v' (mixL orI xs ys) ∧ w'.heap[g]? = some (.cells #[v'] 25 (0, 0)) ∧ w.grownBy w' (some g) := by
  have hgl : g < w.heap.size := (Array.getElem?_eq_some_iff.1 hg).1
  have c0 : w.cell? ⟨g, 0, none⟩ = some u := by rw [cell_of_row w g 0 _ _ _ hg]; rfl
  have C := implJoined_any w u v xs ys h1 h2 n1 n2
  obtain ⟨a1, c1, rfl, -⟩ := h1
  obtain ⟨a2, c2, rfl, -⟩ := h2
  go_enter Tryz.func58, Tryz.ntmps58
  go_wp2_with fail
  refine C.mono ?_
  rintro e w1 ⟨v', rfl, o, k⟩
  have hg1 := (Below.block k g hgl).trans hg
  have f1 : w1.frozen? ⟨g, 0, none⟩ = false := frozen_of_row w1 g 0 _ _ hg1
  have HS := Lib.hid (heap_setCell_same w1 g 0 _ _ v' hg1)
  have HG := Lib.hid (grown_set w1 g 0 v')
  have d0 : w1.cell? ⟨g, 0, none⟩ = some (.slice a1 xs.length c1) := (k.cell hgl).trans c0
  have HO : Row (w1.setCell ⟨g, 0, none⟩ v') w.heap.size v' (mixL orI xs ys) := o.kept HG.out (by
    cases hv : v'.ownBlock with
    | none => exact .inl rfl
    | some q => exact .inr (fun e => by have := o.ge q hv; have := Option.some.inj e; omega))
  have HW : w.grownBy (w1.setCell ⟨g, 0, none⟩ v') (some g) := grown_trans ⟨Below.os k, Below.tape k, Below.output k, Below.size k, fun i hi _ => Below.block k i hi⟩ HG.out
  have HE := Lib.hid HW
  clear HW hg1 C
  obtain ⟨a3, c3, rfl, -⟩ := o.rd
  go_wp2
  go_ret
  exact ⟨_, rfl, HO, HS.out, HE.out⟩
/-- The box of the lines turns, all that lay ahead of it stays. -/
theorem Keep.box {a w w' : World} {g : Nat} (h : Keep a w) (hg : w.grownBy w' (some g)) (hl : a.heap.size ≤ g) : Keep a w' := h.grown hg (fun k hk => by have := Option.some.inj hk; omega)
set_option maxRecDepth 100000 in
set_option maxHeartbeats 2000000 in
theorem implPlaceWeb_any (w : World) (v vF vR : Value) (dss : List (List Dd)) (f rows : List Int) (h : RdW w v dss) (hf : Rd w vF f) (hr : Rd w vR rows) (hcap : rows.length ≤ capZ vR) (hx : dss.length ≤ 1048576) (hm : ∀ i, i < dss.length → (dss.getD i []).length ≤ 1048576) (hfl : f.length ≤ 1048576) (hrl : rows.length ≤ 1048576) :
    Calls Tryz.prog 9 #[v, .agg #[vF, vR]] w fun e w' => ∃ v', e = .returned v' ∧ Row w' w.heap.size v' (pwB dss f rows) ∧ Keep w w' := by
  have CA := fun (W : World) (kW : Keep w W) => implAtOnePlace_any W v dss (h.keep kW) hx hm
  have CF := fun (W : World) (kW : Keep w W) => implFromWeb_any W v vF dss f (h.keep kW) (hf.keep kW) hx hm hfl
  have CR := fun (W : World) (kW : Keep w W) => implRowWeb_any W v vR dss rows (h.keep kW) (hr.keep kW) hcap hx hm hrl
  have CG := fun (W : World) (kW : Keep w W) => implAgainstWeb_any W v vF vR dss f rows (h.keep kW) (hf.keep kW) (hr.keep kW) hcap hx hm hfl hrl
  have HE := Lib.hid (pw_chain dss f rows)
  have lA : (plcL (eventsB dss)).length ≤ 1048576 := by
    have h9 := eventsB_len9 dss
    have := (plc_line (es := eventsB dss) (by omega)).1.2.1
    omega
  have lF : (fwB dss f).length ≤ 1048576 := by have := fwB_len dss f; omega
  have lR : (rwB dss rows).length ≤ 1048576 := by have := rwB_len dss rows; omega
  have lG : (agB dss f rows).length ≤ 1048576 := by have := agB_len dss f rows; omega
  have l1 := fun (a b : List Int) => (show (mixL orI a b).length ≤ 1048576 by have := mixL_len orI a b; omega)
  unfold chnL at HE
  generalize pwB dss f rows = L at *
  generalize plcL (eventsB dss) = LA at *
  generalize fwB dss f = LF at *
  generalize rwB dss rows = LR at *
  generalize agB dss f rows = LG at *
  obtain ⟨aF, cF, rfl, -⟩ := hf
  obtain ⟨aR, cR, rfl, -⟩ := hr
  go_enter Tryz.func9, Tryz.ntmps9
  go_wp2_with fail
  refine (CA _ ((Keep.refl w).alloc _)).mono ?_
  rintro e w1 ⟨v1, rfl, o1, k1⟩
  have K1 := ((Keep.refl w).alloc _).trans k1
  have s1 := box_size k1
  have hb1 := box_heap k1
  obtain ⟨a1, c1, rfl, -⟩ := o1.rd
  clear k1 CA
  go_wp2_with fail
  refine (joining_any _ _ _ _).mono ?_
  rintro e w2 ⟨rfl, rfl⟩
  have k2 : Keep w1 (w1.alloc (.cells #[.slice a1 LA.length c1] 25)) := (Keep.refl w1).alloc _
  have hg2 : (w1.alloc (.cells #[.slice a1 LA.length c1] 25)).heap[w1.heap.size]? = some (.cells #[.slice a1 LA.length c1] 25 (0, 0)) := heap_alloc_new w1 _
  have K2 := K1.trans k2
  have hb2 := (Below.block k2 w.heap.size s1).trans hb1
  have r2 := o1.rd.keep k2
  have s2 : w1.heap.size < (w1.alloc (.cells #[.slice a1 LA.length c1] 25)).heap.size := by rw [heap_size]; omega
  generalize w1.alloc (.cells #[.slice a1 LA.length c1] 25) = w2 at *
  clear k2 hb1
  have c20 : w2.cell? ⟨w.heap.size, 0, none⟩ = some (.slice aF f.length cF) := by rw [cell_of_row w2 _ 0 _ _ _ hb2]; rfl
  go_wp2_with fail
  refine (CF _ K2).mono ?_
  rintro e w3 ⟨v3, rfl, o3, k3⟩
  clear CF c20
  have hg3 := (Below.block k3 w1.heap.size s2).trans hg2
  have hb3 := (Below.block k3 w.heap.size (by omega)).trans hb2
  have K3 := K2.trans k3
  have s3 := k3.size
  go_wp2_with fail
  refine (joins_any _ _ _ _ _ _ hg3 (r2.keep k3) o3.rd lA lF).mono ?_
  rintro e w4 ⟨v4, rfl, o4, hg4, g4⟩
  have K4 : Keep w w4 := K3.box g4 (by omega)
  have hb4 := (g4.block w.heap.size (by omega) (fun e => by have := Option.some.inj e; omega)).trans hb3
  have s4 := g4.size
  have c41 : w4.cell? ⟨w.heap.size, 1, none⟩ = some (.slice aR rows.length cR) := by rw [cell_of_row w4 _ 1 _ _ _ hb4]; rfl
  clear k3 hg3 hb3 K3 hg2 hb2 K2 r2 g4 o3
  go_wp2_with fail
  refine (CR _ K4).mono ?_
  rintro e w5 ⟨v5, rfl, o5, k5⟩
  clear CR c41
  have hg5 := (Below.block k5 w1.heap.size (by omega)).trans hg4
  have hb5 := (Below.block k5 w.heap.size (by omega)).trans hb4
  have K5 := K4.trans k5
  have s5 := k5.size
  go_wp2_with fail
  refine (joins_any _ _ _ _ _ _ hg5 (o4.rd.keep k5) o5.rd (l1 _ _) lR).mono ?_
  rintro e w6 ⟨v6, rfl, o6, hg6, g6⟩
  have K6 : Keep w w6 := K5.box g6 (by omega)
  have hb6 := (g6.block w.heap.size (by omega) (fun e => by have := Option.some.inj e; omega)).trans hb5
  have s6 := g6.size
  have c60 : w6.cell? ⟨w.heap.size, 0, none⟩ = some (.slice aF f.length cF) := by rw [cell_of_row w6 _ 0 _ _ _ hb6]; rfl
  have c61 : w6.cell? ⟨w.heap.size, 1, none⟩ = some (.slice aR rows.length cR) := by rw [cell_of_row w6 _ 1 _ _ _ hb6]; rfl
  clear k5 hg5 hb5 K5 hg4 hb4 K4 g6 o5 o4
  go_wp2_with fail
  refine (CG _ K6).mono ?_
  rintro e w7 ⟨v7, rfl, o7, k7⟩
  clear CG c60 c61
  have hg7 := (Below.block k7 w1.heap.size (by omega)).trans hg6
  have K7 := K6.trans k7
  have s7 := k7.size
  go_wp2_with fail
  refine (joins_any _ _ _ _ _ _ hg7 (o6.rd.keep k7) o7.rd (l1 _ _) lG).mono ?_
  rintro e w8 ⟨v8, rfl, o8, -, g8⟩
  have K8 : Keep w w8 := K7.box g8 (by omega)
  clear k7 hg7 hg6 K6 g8 o7 o6
  have HO : Row w8 w.heap.size v8 L := by rw [← HE.out]; exact o8.base_le (by omega)
  clear HE o8
  go_wp2
  go_ret
  exact ⟨_, rfl, HO, K8⟩
end Go.Proofs.YtfmcnkjpgaapaaaGreat

/- Plain mathematics: where the events of each deed stand in the list of all events, and their classes. -/
namespace Go.Proofs.YtfmcnkjpgaapaaaGreat

abbrev dAt (dss : List (List Dd)) (c k : Nat) : Dd := (dss.getD c []).getD k zD
/-- How many events stand ahead of deed k of clerk c. -/
def offN (dss : List (List Dd)) (c k : Nat) : Nat := (clkE c (dss.getD c []) (evsW dss c) k).1.length
def numD (d : Dd) : Nat := if d.1 = 4 then 0 else if d.1 = 3 then 2 else 1
theorem oneE_num (i k : Nat) (d : Dd) (c : Int) : (oneE i k d c).length = numD d := by
  unfold oneE numD
  split
  · rfl
  · split
    · rfl
    · split <;> rfl
/-- The class that deed k of clerk c has. -/
def clsD (dss : List (List Dd)) (c k : Nat) : Int := clsE (dAt dss c k).2.2.2 (offN dss c k) (clkE c (dss.getD c []) (evsW dss c) k).2
theorem clk_step (dss : List (List Dd)) (c k : Nat) : (clkE c (dss.getD c []) (evsW dss c) (k + 1)).1 = (clkE c (dss.getD c []) (evsW dss c) k).1 ++ oneE c k (dAt dss c k) (clsD dss c k) := by
  rw [clkE, stepE]
  split
  · rename_i h
    have e : oneE c k (dAt dss c k) (clsD dss c k) = [] := by unfold oneE; rw [if_pos h]
    rw [e, List.append_nil]
  · rfl
theorem off_succ (dss : List (List Dd)) (c k : Nat) : offN dss c (k + 1) = offN dss c k + numD (dAt dss c k) := by
  unfold offN
  rw [clk_step, List.length_append, oneE_num]
theorem off_zero (dss : List (List Dd)) (c : Nat) : offN dss c 0 = (evsW dss c).length := rfl
theorem off_end (dss : List (List Dd)) (c : Nat) : (evsW dss (c + 1)).length = offN dss c (dss.getD c []).length := rfl
theorem clk_pre (dss : List (List Dd)) (c k : Nat) : ∀ n : Nat, k ≤ n → ∃ t, (clkE c (dss.getD c []) (evsW dss c) n).1 = (clkE c (dss.getD c []) (evsW dss c) k).1 ++ t
  | 0, h => by
    obtain rfl : k = 0 := by omega
    exact ⟨[], by simp⟩
  | n + 1, h => by
    by_cases e : k = n + 1
    · subst e; exact ⟨[], by simp⟩
    · obtain ⟨t, ht⟩ := clk_pre dss c k n (by omega)
      exact ⟨t ++ oneE c n (dAt dss c n) (clsD dss c n), by rw [clk_step, ht, List.append_assoc]⟩
theorem evs_pre (dss : List (List Dd)) (c : Nat) : ∀ n : Nat, c ≤ n → ∃ t, evsW dss n = evsW dss c ++ t
  | 0, h => by
    obtain rfl : c = 0 := by omega
    exact ⟨[], by simp⟩
  | n + 1, h => by
    by_cases e : c = n + 1
    · subst e; exact ⟨[], by simp⟩
    · obtain ⟨t, ht⟩ := evs_pre dss c n (by omega)
      obtain ⟨t2, h2⟩ := clk_pre dss n 0 (dss.getD n []).length (Nat.zero_le _)
      refine ⟨t ++ t2, ?_⟩
      show (clkE n (dss.getD n []) (evsW dss n) (dss.getD n []).length).1 = _
      rw [h2]
      show evsW dss n ++ t2 = _
      rw [ht, List.append_assoc]
/-- What stands where a deed's events begin. -/
theorem es_at {dss : List (List Dd)} {c k n : Nat} (hc : c < n) (hk : k < (dss.getD c []).length) {i : Nat} {e : Ev} (h : (oneE c k (dAt dss c k) (clsD dss c k))[i]? = some e) : (evsW dss n)[offN dss c k + i]? = some e := by
  obtain ⟨t1, h1⟩ := evs_pre dss (c + 1) n hc
  obtain ⟨t2, h2⟩ := clk_pre dss c (k + 1) (dss.getD c []).length hk
  rw [h1]
  refine at_left t1 ?_
  show (clkE c (dss.getD c []) (evsW dss c) (dss.getD c []).length).1[offN dss c k + i]? = some e
  rw [h2]
  refine at_left t2 ?_
  rw [clk_step, List.getElem?_append_right (by unfold offN; omega)]
  show (oneE c k (dAt dss c k) (clsD dss c k))[offN dss c k + i - offN dss c k]? = some e
  rw [show offN dss c k + i - offN dss c k = i by omega]
  exact h
theorem clk_dec (dss : List (List Dd)) (c : Nat) {j : Nat} (h0 : offN dss c 0 ≤ j) : ∀ k : Nat, j < offN dss c k → ∃ k' i, k' < k ∧ i < numD (dAt dss c k') ∧ j = offN dss c k' + i
  | 0, h => by omega
  | k + 1, h => by
    by_cases hj : j < offN dss c k
    · obtain ⟨k', i, h1, h2, h3⟩ := clk_dec dss c h0 k hj
      exact ⟨k', i, by omega, h2, h3⟩
    · rw [off_succ] at h
      exact ⟨k, j - offN dss c k, by omega, by omega, by omega⟩
theorem es_dec (dss : List (List Dd)) {j : Nat} (h3 : 3 ≤ j) : ∀ n : Nat, j < (evsW dss n).length → ∃ c k i, c < n ∧ k < (dss.getD c []).length ∧ i < numD (dAt dss c k) ∧ j = offN dss c k + i
  | 0, h => by simp [evsW, evBeg] at h; omega
  | n + 1, h => by
    by_cases hj : j < (evsW dss n).length
    · obtain ⟨c, k, i, h1, h2⟩ := es_dec dss h3 n hj
      exact ⟨c, k, i, by omega, h2⟩
    · rw [off_end] at h
      obtain ⟨k, i, h1, h2⟩ := clk_dec dss n (by rw [off_zero]; omega) _ h
      exact ⟨n, k, i, by omega, h1, h2⟩
theorem off_le (dss : List (List Dd)) (c : Nat) {k k' : Nat} (h : k ≤ k') : offN dss c k ≤ offN dss c k' := by
  obtain ⟨t, ht⟩ := clk_pre dss c k k' h
  unfold offN
  rw [ht, List.length_append]
  omega
/-- Deeds stand in order: clerk by clerk, each clerk's one behind the other. -/
theorem off_lt {dss : List (List Dd)} {c c' k k' : Nat} (hk : k < (dss.getD c []).length) (h : c < c' ∨ (c = c' ∧ k < k')) : offN dss c k + numD (dAt dss c k) ≤ offN dss c' k' := by
  rcases h with h | ⟨rfl, h⟩
  · have h1 := off_le dss c (k := k + 1) (k' := (dss.getD c []).length) hk
    rw [off_succ] at h1
    obtain ⟨t, ht⟩ := evs_pre dss (c + 1) c' h
    have h2 := off_le dss c' (Nat.zero_le k')
    rw [off_zero, ht, List.length_append, off_end] at h2
    omega
  · have h1 := off_le dss c (k := k + 1) (k' := k') h
    rw [off_succ] at h1
    exact h1
theorem off_three (dss : List (List Dd)) (c k : Nat) : 3 ≤ offN dss c k := by
  obtain ⟨t, ht⟩ := evs_pre dss 0 c (Nat.zero_le _)
  have h := off_le dss c (Nat.zero_le k)
  rw [off_zero, ht, List.length_append] at h
  simp [evsW, evBeg] at h
  omega
end Go.Proofs.YtfmcnkjpgaapaaaGreat

/- Plain mathematics: which events are of one class. -/
namespace Go.Proofs.YtfmcnkjpgaapaaaGreat

abbrev gAt (dss : List (List Dd)) (c k : Nat) : Int := (dAt dss c k).2.2.2
/-- Of a clerk of right deeds. -/
def OkC (dss : List (List Dd)) (c : Nat) : Prop := ∀ k, k < (dss.getD c []).length → okD (dAt dss c k) = true
theorem okC_of {dss : List (List Dd)} (h : workB dss = true) {c : Nat} (hc : c < dss.length) : OkC dss c := by
  simp only [workB, Bool.and_eq_true, decide_eq_true_eq] at h
  obtain ⟨⟨⟨⟨_, h2⟩, _⟩, _⟩, _⟩ := h
  have h3 := all_get [] h2 c hc
  unfold okL at h3
  rw [Bool.and_eq_true] at h3
  exact fun k hk => all_get zD h3.1 k hk
theorem g_in {dss : List (List Dd)} {c k : Nat} (h : OkC dss c) (hk : k < (dss.getD c []).length) : 0 ≤ gAt dss c k ∧ gAt dss c k ≤ 9 ∧ (2 < (dAt dss c k).1 → gAt dss c k = 0) :=
  ⟨(okD_restE (h k hk)).2.2.1, (okD_restE (h k hk)).2.2.2.1, (okD_restE (h k hk)).2.2.2.2⟩
theorem fst_len (dss : List (List Dd)) (c : Nat) : ∀ k : Nat, (clkE c (dss.getD c []) (evsW dss c) k).2.length = 10
  | 0 => by simp [clkE]
  | k + 1 => by
    have ih := fst_len dss c k
    rw [clkE, stepE]
    split
    · exact ih
    · show (fstE _ _ _).length = 10
      unfold fstE
      split
      · rw [List.length_set]; exact ih
      · exact ih
/-- Where each group began. -/
theorem fst_at {dss : List (List Dd)} {c : Nat} (hok : OkC dss c) {g : Nat} (h0 : 0 < g) (h9 : g ≤ 9) : ∀ k : Nat, k ≤ (dss.getD c []).length →
    ((clkE c (dss.getD c []) (evsW dss c) k).2.getD g 0 = 0 ∧ ∀ j, j < k → gAt dss c j ≠ g) ∨
    ∃ j, j < k ∧ gAt dss c j = g ∧ (∀ i, i < j → gAt dss c i ≠ g) ∧ (clkE c (dss.getD c []) (evsW dss c) k).2.getD g 0 = (offN dss c j : Int)
  | 0, _ => .inl ⟨by
      show (List.replicate 10 (0 : Int)).getD g 0 = 0
      rw [List.getD_eq_getElem?_getD, List.getElem?_replicate]
      split <;> rfl, fun j hj => by omega⟩
  | k + 1, hk => by
    have ih := fst_at hok h0 h9 k (by omega)
    have hl := fst_len dss c k
    have hd := g_in hok (k := k) (by omega)
    have hkk := okD_kindE (hok k (by omega))
    by_cases h4 : (dAt dss c k).1 = 4
    · have e : (clkE c (dss.getD c []) (evsW dss c) (k + 1)).2 = (clkE c (dss.getD c []) (evsW dss c) k).2 := by
        rw [clkE, stepE, if_pos h4]
      have hg : gAt dss c k = 0 := hd.2.2 (by omega)
      rw [e]
      rcases ih with ⟨h1, h2⟩ | ⟨j, h1, h2, h3, h5⟩
      · refine .inl ⟨h1, fun j hj => ?_⟩
        by_cases e : j = k
        · subst e; omega
        · exact h2 j (by omega)
      · exact .inr ⟨j, by omega, h2, h3, h5⟩
    · have e : (clkE c (dss.getD c []) (evsW dss c) (k + 1)).2 = fstE (gAt dss c k) (offN dss c k) (clkE c (dss.getD c []) (evsW dss c) k).2 := by
        rw [clkE, stepE, if_neg h4]
        rfl
      rw [e]
      by_cases hg : gAt dss c k = (g : Int)
      · rcases ih with ⟨h1, h2⟩ | ⟨j, h1, h2, h3, h5⟩
        · refine .inr ⟨k, by omega, hg, h2, ?_⟩
          unfold fstE
          rw [hg, Int.toNat_natCast, if_pos ⟨by omega, h1⟩, getD_setE _ _ _ _ (by omega), if_pos rfl]
        · refine .inr ⟨j, by omega, h2, h3, ?_⟩
          have h6 := off_three dss c j
          unfold fstE
          rw [hg, Int.toNat_natCast, if_neg (by rw [h5]; omega)]
          exact h5
      · have e2 : (fstE (gAt dss c k) (offN dss c k) (clkE c (dss.getD c []) (evsW dss c) k).2).getD g 0 = (clkE c (dss.getD c []) (evsW dss c) k).2.getD g 0 := by
          unfold fstE
          split
          · rename_i hp
            have hx : (gAt dss c k).toNat ≤ 9 := by have := hd.2.1; omega
            rw [getD_setE _ _ _ _ (by omega), if_neg (by omega)]
          · rfl
        rw [e2]
        rcases ih with ⟨h1, h2⟩ | ⟨j, h1, h2, h3, h5⟩
        · refine .inl ⟨h1, fun j hj => ?_⟩
          by_cases e : j = k
          · subst e; exact hg
          · exact h2 j (by omega)
        · exact .inr ⟨j, by omega, h2, h3, h5⟩
/-- The class of a deed: where its group began, or where it stands itself. -/
theorem cls_at {dss : List (List Dd)} {c k : Nat} (hok : OkC dss c) (hk : k < (dss.getD c []).length) (h4 : (dAt dss c k).1 ≠ 4) :
    (gAt dss c k = 0 ∧ clsD dss c k = (offN dss c k : Int)) ∨ (gAt dss c k ≠ 0 ∧ ∃ j, j ≤ k ∧ gAt dss c j = gAt dss c k ∧ (∀ i, i < j → gAt dss c i ≠ gAt dss c k) ∧ clsD dss c k = (offN dss c j : Int)) := by
  have hd := g_in hok hk
  by_cases hg : gAt dss c k = 0
  · refine .inl ⟨hg, ?_⟩
    unfold clsD clsE
    rw [if_neg (by have : (dAt dss c k).2.2.2 = 0 := hg; omega)]
  · obtain ⟨g, hgg⟩ := Int.eq_ofNat_of_zero_le hd.1
    have hgg' : gAt dss c k = (g : Int) := hgg
    have h9 : g ≤ 9 := by have := hd.2.1; omega
    refine .inr ⟨hg, ?_⟩
    have h1 := fst_at hok (g := g) (by omega) h9 (k + 1) hk
    have e : (clkE c (dss.getD c []) (evsW dss c) (k + 1)).2 = fstE (gAt dss c k) (offN dss c k) (clkE c (dss.getD c []) (evsW dss c) k).2 := by
      rw [clkE, stepE, if_neg h4]
      rfl
    rw [e] at h1
    rcases h1 with ⟨_, h2⟩ | ⟨j, h1, h2, h3, h5⟩
    · exact absurd hgg' (h2 k (by omega))
    · refine ⟨j, by omega, by rw [hgg']; exact h2, fun i hi => by rw [hgg']; exact h3 i hi, ?_⟩
      unfold clsD clsE
      rw [if_pos (by have : (dAt dss c k).2.2.2 = (g : Int) := hgg'; omega)]
      have hq : (dAt dss c k).2.2.2.toNat = g := by have : (dAt dss c k).2.2.2 = (g : Int) := hgg'; omega
      rw [hq]
      exact h5
/-- Two deeds that have events begin at two places. -/
theorem off_inj {dss : List (List Dd)} {c c' k k' : Nat} (hk : k < (dss.getD c []).length) (hk' : k' < (dss.getD c' []).length) (h1 : 0 < numD (dAt dss c k)) (h2 : 0 < numD (dAt dss c' k')) (e : offN dss c k = offN dss c' k') : c = c' ∧ k = k' := by
  by_cases hc : c < c'
  · have := off_lt (k' := k') hk (.inl hc); omega
  by_cases hc' : c' < c
  · have := off_lt (k' := k) hk' (.inl hc'); omega
  obtain rfl : c = c' := by omega
  refine ⟨rfl, ?_⟩
  by_cases hkk : k < k'
  · have := off_lt (c' := c) (k' := k') hk (.inr ⟨rfl, hkk⟩); omega
  by_cases hkk' : k' < k
  · have := off_lt (c' := c) (k' := k) hk' (.inr ⟨rfl, hkk'⟩); omega
  omega
theorem num_grp {dss : List (List Dd)} {c k : Nat} (hok : OkC dss c) (hk : k < (dss.getD c []).length) (hg : gAt dss c k ≠ 0) : (dAt dss c k).1 ≠ 4 ∧ (dAt dss c k).1 ≠ 3 ∧ 0 < numD (dAt dss c k) := by
  have hd := g_in hok hk
  have hkk := okD_kindE (hok k hk)
  have h3 : ¬ 2 < (dAt dss c k).1 := fun h => hg (hd.2.2 h)
  refine ⟨by omega, by omega, ?_⟩
  unfold numD
  rw [if_neg (by omega), if_neg (by omega)]
  omega
theorem num_pos {d : Dd} (h : d.1 ≠ 4) : 0 < numD d := by
  unfold numD
  rw [if_neg h]
  split <;> omega
/-- Which deeds are of one class. -/
theorem cls_iff {dss : List (List Dd)} {c c' k k' : Nat} (hok : OkC dss c) (hok' : OkC dss c') (hk : k < (dss.getD c []).length) (hk' : k' < (dss.getD c' []).length) (h4 : (dAt dss c k).1 ≠ 4) (h4' : (dAt dss c' k').1 ≠ 4) :
    clsD dss c k = clsD dss c' k' ↔ c = c' ∧ (k = k' ∨ (gAt dss c k ≠ 0 ∧ gAt dss c k = gAt dss c' k')) := by
  constructor
  · intro e
    rcases cls_at hok hk h4 with ⟨g1, e1⟩ | ⟨g1, j, j1, j2, j3, e1⟩
    · rcases cls_at hok' hk' h4' with ⟨g2, e2⟩ | ⟨g2, j', l1, l2, l3, e2⟩
      · rw [e1, e2] at e
        obtain ⟨rfl, rfl⟩ := off_inj hk hk' (num_pos h4) (num_pos h4') (by omega)
        exact ⟨rfl, .inl rfl⟩
      · rw [e1, e2] at e
        obtain ⟨rfl, rfl⟩ := off_inj (k' := j') hk (by omega) (num_pos h4) (num_grp (k := j') hok' (by omega) (by rw [l2]; exact g2)).2.2 (by omega)
        exact absurd (l2.symm.trans g1) g2
    · rcases cls_at hok' hk' h4' with ⟨g2, e2⟩ | ⟨g2, j', l1, l2, l3, e2⟩
      · rw [e1, e2] at e
        obtain ⟨rfl, rfl⟩ := off_inj (k := j) (by omega) hk' (num_grp (k := j) hok (by omega) (by rw [j2]; exact g1)).2.2 (num_pos h4') (by omega)
        exact absurd (j2.symm.trans g2) g1
      · rw [e1, e2] at e
        obtain ⟨rfl, rfl⟩ := off_inj (k := j) (k' := j') (by omega) (by omega) (num_grp (k := j) hok (by omega) (by rw [j2]; exact g1)).2.2 (num_grp (k := j') hok' (by omega) (by rw [l2]; exact g2)).2.2 (by omega)
        exact ⟨rfl, .inr ⟨g1, by rw [← j2, l2]⟩⟩
  · rintro ⟨rfl, rfl | ⟨g1, g2⟩⟩
    · rfl
    · rcases cls_at hok hk h4 with ⟨g0, _⟩ | ⟨_, j, j1, j2, j3, e1⟩
      · exact absurd g0 g1
      rcases cls_at hok' hk' h4' with ⟨g0, _⟩ | ⟨_, j', l1, l2, l3, e2⟩
      · rw [g0] at g2; exact absurd g2 g1
      rw [e1, e2]
      have : j = j' := by
        by_cases a : j < j'
        · exact absurd (by rw [j2, g2]) (l3 j a)
        by_cases a' : j' < j
        · exact absurd (by rw [l2, g2]) (j3 j' a')
        omega
      rw [this]
end Go.Proofs.YtfmcnkjpgaapaaaGreat

/- Plain mathematics: what FnEach asks; what may be told with quick ink may be told with slow ink; where all lines are kept it is the other way round too. -/
namespace Go.Proofs.YtfmcnkjpgaapaaaGreat
open Go.RowKit

theorem place_ev {dss : List (List Dd)} (hb : workB dss = true) {j : Nat} (hj : j < (eventsB dss).length) : 0 ≤ ((eventsB dss).getD j zE).2.2.2.1 ∧ ((eventsB dss).getD j zE).2.2.2.1 ≤ 2 := by
  have e1 : eventsB dss = evsW dss dss.length := by rw [eventsB, if_pos hb]
  rw [e1] at hj ⊢
  exact place_in hb j hj
theorem row_has {es : List Ev} {rows : List Int} (hx : es.length ≤ 12) (hr : rowsL es rows = true) {x : Nat} (hxn : x < es.length) (hw : (es.getD x zE).2.2.1 = false) (hp : 0 ≤ (es.getD x zE).2.2.2.1 ∧ (es.getD x zE).2.2.2.1 ≤ 2) : ∃ i, i < rows.length ∧ rows.getD i 0 = (x : Int) := by
  have hm : ∀ p : Nat, (es.getD x zE).2.2.2.1 = (p : Int) → (x : Int) ∈ plcW es p := by
    intro p e
    unfold plcW idxB
    rw [if_pos hx]
    refine idxK_has _ _ ?_ _ hxn
    unfold toE
    rw [hw, e]
    simp
  have ha : (x : Int) ∈ allW es := by
    unfold allW
    simp only [List.mem_append]
    rcases (by omega : (es.getD x zE).2.2.2.1 = ((0 : Nat) : Int) ∨ (es.getD x zE).2.2.2.1 = ((1 : Nat) : Int) ∨ (es.getD x zE).2.2.2.1 = ((2 : Nat) : Int)) with h | h | h
    · exact .inl (.inl (hm 0 h))
    · exact .inl (.inr (hm 1 h))
    · exact .inr (hm 2 h)
  exact at_of_mem ((rows_perm hx hr).mem_iff.1 ha)
theorem row_tot {es : List Ev} {rows : List Int} (hx : es.length ≤ 12) (hr : rowsL es rows = true) {x y : Nat} (hxn : x < es.length) (hyn : y < es.length) (hwx : (es.getD x zE).2.2.1 = false) (hwy : (es.getD y zE).2.2.1 = false)
    (hp : 0 ≤ (es.getD x zE).2.2.2.1 ∧ (es.getD x zE).2.2.2.1 ≤ 2) (he : (es.getD x zE).2.2.2.1 = (es.getD y zE).2.2.2.1) (hne : x ≠ y) : line (rwL es rows) x y = true ∨ line (rwL es rows) y x = true := by
  obtain ⟨i, hi, ei⟩ := row_has hx hr hxn hwx hp
  obtain ⟨k, hk, ek⟩ := row_has hx hr hyn hwy (by rw [← he]; exact hp)
  have c1 := row_cell hx hr hi hk
  have c2 := row_cell hx hr hk hi
  rw [ei, ek, Int.toNat_natCast, Int.toNat_natCast] at c1 c2
  rw [c1, c2]
  unfold rwP plE
  rw [ei, ek, Int.toNat_natCast, Int.toNat_natCast, he]
  by_cases h : i < k
  · left; simp [h]
  · have h2 : i ≠ k := fun e => hne (by subst e; rw [ei] at ek; omega)
    have h3 : k < i := by omega
    right; simp [h3]
theorem row_use {es : List Ev} {f rows : List Int} (W : Webs es f rows) (hx : es.length ≤ 12) (hr : rowsL es rows = true) {a b : Nat} (ha : a < es.length) (h : line (rwL es rows) a b = true) :
    b < es.length ∧ a ≠ b ∧ (es.getD a zE).2.2.2.1 = (es.getD b zE).2.2.2.1 := by
  obtain ⟨i, q, hi, hq, hp, e1, e2⟩ := (W.rwl a b ha).1 h
  obtain ⟨rn, _, ru⟩ := rows_use hx hr
  unfold rwP plE at hp
  rw [e1, e2, Int.toNat_natCast, Int.toNat_natCast] at hp
  simp only [Bool.and_eq_true, decide_eq_true_eq, beq_iff_eq] at hp
  refine ⟨by have := (ru q hq).2; omega, fun e => ?_, hp.2⟩
  have := nodup_get rn hi hq (by rw [e1, e2, e])
  omega
theorem two_round {n : Nat} {zs : List Int} (hz : Web n zs) (hr : roundB zs = false) {i j : Nat} (hi : i < n) (h1 : line zs i j = true) (h2 : line zs j i = true) : False := by
  rw [(round_iff hz).2 ⟨i, hi, (Way.one h1).more h2⟩] at hr
  cases hr
theorem each_parts {dss : List (List Dd)} {f rows : List Int} (h : eachB dss f rows = true) : taleB dss f rows = true ∧ roundB (pwL (eventsB dss) f rows) = false := by
  unfold eachB at h
  rw [Bool.and_eq_true, Bool.not_eq_true'] at h
  exact h
/-- What stands at the head of the list. -/
theorem beg_ev {dss : List (List Dd)} (hb : workB dss = true) : 3 ≤ (eventsB dss).length ∧ (eventsB dss).getD 0 zE = (-1, -1, false, 0, 0, 0) ∧ (eventsB dss).getD 1 zE = (-1, -1, false, 1, 0, 1) ∧ (eventsB dss).getD 2 zE = (-1, -1, false, 2, 0, 2) := by
  have e1 : eventsB dss = evsW dss dss.length := by rw [eventsB, if_pos hb]
  obtain ⟨t, ht⟩ := evs_pre dss 0 dss.length (Nat.zero_le _)
  have ht' : evsW dss dss.length = evBeg ++ t := ht
  rw [e1]
  refine ⟨by rw [ht']; simp [evBeg], beg_get ht'⟩
theorem beg_place {dss : List (List Dd)} (hb : workB dss = true) {i : Nat} (hi : i < 3) : ((eventsB dss).getD i zE).2.2.2.1 = (i : Int) ∧ ((eventsB dss).getD i zE).2.2.1 = false ∧ csE ((eventsB dss).getD i zE) = (i : Int) ∧ ((eventsB dss).getD i zE).1 = -1 := by
  obtain ⟨_, h0, h1, h2⟩ := beg_ev hb
  rcases (by omega : i = 0 ∨ i = 1 ∨ i = 2) with rfl | rfl | rfl
  · rw [h0]; exact ⟨rfl, rfl, rfl, rfl⟩
  · rw [h1]; exact ⟨rfl, rfl, rfl, rfl⟩
  · rw [h2]; exact ⟨rfl, rfl, rfl, rfl⟩
structure Told (dss : List (List Dd)) (f rows : List Int) : Prop where
  work : workB dss = true
  twelve : (eventsB dss).length ≤ 12
  webs : Webs (eventsB dss) f rows
  src : srcB (chcL (eventsB dss)) f = true
  rws : rowsL (eventsB dss) rows = true
  pw : Web (eventsB dss).length (pwL (eventsB dss) f rows)
  pwl : ∀ i j, i < (eventsB dss).length → line (pwL (eventsB dss) f rows) i j = (line (plcL (eventsB dss)) i j || line (fwL (eventsB dss) f) i j || (line (rwL (eventsB dss) rows) i j || line (agL (eventsB dss) f rows) i j))
  sw : Web (eventsB dss).length (swL dss (eventsB dss) f rows)
  swl : ∀ i j, i < (eventsB dss).length → line (swL dss (eventsB dss) f rows) i j = (line (kepL dss (eventsB dss)) i j || line (owL (eventsB dss) f) i j || (line (rwL (eventsB dss) rows) i j || line (agL (eventsB dss) f rows) i j))
  xw : Web (eventsB dss).length (xwL (eventsB dss) f rows)
  xwl : ∀ i j, i < (eventsB dss).length → line (xwL (eventsB dss) f rows) i j = (line (behL (eventsB dss)) i j || line (fwL (eventsB dss) f) i j || (line (rwL (eventsB dss) rows) i j || line (agL (eventsB dss) f rows) i j))
  cls : (clsB (eventsB dss)).length = (eventsB dss).length
theorem told_of {dss : List (List Dd)} {f rows : List Int} (h : taleB dss f rows = true) : Told dss f rows := by
  obtain ⟨hb, hs, hr⟩ := tale_use h
  have hx := eventsB_12 dss
  have W := webs_of hx hs hr
  have p := web_four (plc_line hx).1 W.fw W.rw' W.ag
  have s := web_four (kep_line (dss := dss) hx).1 (ow_line W).1 W.rw' W.ag
  have x := web_four (beh_line hx).1 W.fw W.rw' W.ag
  exact ⟨hb, hx, W, hs, hr, p.1, p.2, s.1, s.2, x.1, x.2, by unfold clsB; rw [if_pos hx, List.length_map]⟩
theorem beh_is {es : List Ev} {i k : Nat} (hi : i < k) (h : (i < 3 ∧ 3 ≤ k) ∨ (3 ≤ i ∧ (es.getD i zE).1 = (es.getD k zE).1)) : behP es i k = true := by
  unfold behP
  rcases h with ⟨h1, h2⟩ | ⟨h1, h2⟩
  · simp [hi, h1, h2]
  · rw [h2]; simp [hi, h1]
/-- A line between two at one place, of one clerk or from the beginning. -/
theorem plc_is {es : List Ev} (hx : es.length ≤ 12) {i k : Nat} (hi : i < k) (hk : k < es.length) (h : (i < 3 ∧ 3 ≤ k) ∨ (3 ≤ i ∧ (es.getD i zE).1 = (es.getD k zE).1)) (hp : (es.getD i zE).2.2.2.1 = (es.getD k zE).2.2.2.1) : line (plcL es) i k = true := by
  rw [(plc_line hx).2 i k (by omega)]
  have h1 : behP es i k = true := beh_is hi h
  have h2 : plcP es i k = false := by unfold plcP; rw [hp]; simp
  simp [hk, h1, h2]
theorem each_use {dss : List (List Dd)} {f rows : List Int} (h : eachB dss f rows = true) {i r k : Nat} (hi : i < (idxB rdE (eventsB dss)).length) (er : (idxB rdE (eventsB dss)).getD i 0 = (r : Int)) (hk : k < (eventsB dss).length)
    (hw : ((eventsB dss).getD k zE).2.2.1 = false) (hc : (k < 3 ∧ 3 ≤ r) ∨ (3 ≤ k ∧ 3 ≤ r ∧ ((eventsB dss).getD k zE).1 = ((eventsB dss).getD r zE).1)) (hp : ((eventsB dss).getD k zE).2.2.2.1 = ((eventsB dss).getD r zE).2.2.2.1) :
    (r < k → f.getD i 0 ≠ (k : Int)) ∧ (k < r → f.getD i 0 ≠ (k : Int) → line (rwL (eventsB dss) rows) k (f.getD i 0).toNat = true) := by
  obtain ⟨ht, hr0⟩ := each_parts h
  have T := told_of ht
  obtain ⟨sl, su⟩ := src_use T.twelve T.src
  have hrn : r < (eventsB dss).length := by have := (rd_in T.twelve hi).2; omega
  constructor
  · intro hlt e
    refine two_round T.pw hr0 hk (j := r) ?_ ?_
    · rw [T.pwl k r hk, (T.webs.fwl k r hk).2 ⟨i, hi, e, er⟩]; simp
    · have := plc_is T.twelve hlt hk (.inr (by rcases hc with h | h <;> omega)) hp.symm
      rw [T.pwl r k hrn, this]; simp
  · intro hlt hne
    obtain ⟨⟨q1, q2⟩, q3⟩ := su i hi
    obtain ⟨a, ea⟩ := Int.eq_ofNat_of_zero_le q1
    have ha : a < (eventsB dss).length := by omega
    have hfw := fr_is T.twelve T.src hi
    rw [ea, Int.toNat_natCast] at hfw q3 ⊢
    unfold plE at q3
    rw [er, Int.toNat_natCast] at q3
    rcases row_tot T.twelve T.rws hk ha hw hfw (place_ev T.work hk) (by rw [hp, q3]) (by omega) with h1 | h1
    · exact h1
    · exfalso
      refine two_round T.pw hr0 hrn (j := k) ?_ ?_
      · have : line (agL (eventsB dss) f rows) r k = true := (T.webs.agl r k hrn).2 ⟨i, hi, er, by rw [ea, Int.toNat_natCast]; exact h1⟩
        rw [T.pwl r k hrn, this]; simp
      · have := plc_is T.twelve hlt hrn (by rcases hc with h | h <;> omega) hp
        rw [T.pwl k r hk, this]; simp
theorem slow_each {dss : List (List Dd)} {f rows : List Int} (h : slowB dss f rows = true) : eachB dss f rows = true := by
  unfold slowB at h
  simp only [Bool.and_eq_true] at h
  unfold eachB
  rw [h.1, h.2.1]; rfl
/-- Slow ink asks for fewer lines than quick ink. -/
theorem slow_in {dss : List (List Dd)} {f rows : List Int} (T : Told dss f rows) : ∀ i j, i < (eventsB dss).length → j < (eventsB dss).length → line (swL dss (eventsB dss) f rows) i j = true → line (xwL (eventsB dss) f rows) i j = true := by
  intro i j hi hj hl
  rw [T.swl i j hi] at hl
  rw [T.xwl i j hi]
  simp only [Bool.or_eq_true] at hl ⊢
  rcases hl with (h | h) | h
  · refine .inl (.inl ?_)
    rw [(kep_line T.twelve).2 i j hi] at h
    rw [(beh_line T.twelve).2 i j hi]
    simp only [Bool.and_eq_true] at h ⊢
    exact h.1
  · refine .inl (.inr ?_)
    rw [(ow_line T.webs).2 i j hi, Bool.and_eq_true] at h
    exact h.1
  · exact .inr h
theorem strict_slow {dss : List (List Dd)} {f rows : List Int} (h : strictB dss f rows = true) : slowB dss f rows = true := by
  unfold strictB at h
  simp only [Bool.and_eq_true, Bool.not_eq_true'] at h
  have T := told_of h.1
  unfold slowB
  rw [h.1, h.2.1, less_lift T.sw T.xw T.cls (slow_in T) h.2.2]
  rfl
/-- Where all lines are kept, slow ink is as quick ink. -/
theorem kept_strict {dss : List (List Dd)} {f rows : List Int} (hk : kepL dss (eventsB dss) = behL (eventsB dss)) : slowB dss f rows = strictB dss f rows := by
  cases hs : strictB dss f rows with
  | true => exact strict_slow hs
  | false =>
    cases hq : slowB dss f rows with
    | false => rfl
    | true =>
      exfalso
      have he := slow_each hq
      obtain ⟨ht, hr0⟩ := each_parts he
      have T := told_of ht
      unfold slowB at hq
      simp only [Bool.and_eq_true, Bool.not_eq_true'] at hq
      have : roundB (liftL (xwL (eventsB dss) f rows) (clsB (eventsB dss))) = false := by
        refine less_lift T.xw T.sw T.cls (fun i j hi hj hl => ?_) hq.2.2
        rw [T.xwl i j hi] at hl
        rw [T.swl i j hi, hk]
        simp only [Bool.or_eq_true] at hl ⊢
        rcases hl with (h | h) | h
        · exact .inl (.inl h)
        · cases ho : owP (eventsB dss) i j with
          | false => exact .inl (.inr (by rw [(ow_line T.webs).2 i j hi, h, ho]; rfl))
          | true =>
            unfold owP at ho
            simp only [Bool.and_eq_true, decide_eq_true_eq, beq_iff_eq] at ho
            obtain ⟨q, hq1, hq2, hq3⟩ := (T.webs.fwl i j hi).1 h
            obtain ⟨sl, su⟩ := src_use T.twelve T.src
            have hw := fr_is T.twelve T.src hq1
            have hp := (su q hq1).2
            have hrd := rd_is T.twelve hq1
            unfold plE at hp
            rw [hq2, Int.toNat_natCast] at hw hp
            rw [hq3, Int.toNat_natCast] at hp hrd
            have hu := (each_use he hq1 hq3 hi hw (.inr ⟨ho.1.1, ho.1.2, ho.2⟩) hp).1
            have hne : i ≠ j := fun e => by rw [e, hrd] at hw; cases hw
            have hlt : i < j := by
              apply Classical.byContradiction
              intro hno
              exact hu (by omega) hq2
            refine .inl (.inl ?_)
            rw [(beh_line T.twelve).2 i j hi]
            rw [beh_is hlt (.inr ⟨ho.1.1, ho.2⟩)]
            simp [hj]
        · exact .inr h
      unfold strictB at hs
      rw [hq.1, hq.2.1, this] at hs
      cases hs
/-- A work of reads and swaps alone keeps all its lines. -/
theorem kept_swaps {dss : List (List Dd)} (h : ∀ j, 3 ≤ j → j < (eventsB dss).length → ((eventsB dss).getD j zE).2.2.1 = false → (dOf dss ((eventsB dss).getD j zE)).1 = 3) : kepL dss (eventsB dss) = behL (eventsB dss) := by
  have hx := eventsB_12 dss
  obtain ⟨w1, l1⟩ := kep_line (dss := dss) hx
  obtain ⟨w2, l2⟩ := beh_line hx
  refine Web.ext w1 w2 (fun i j hi hj => ?_)
  rw [l1 i j hi, l2 i j hi]
  have : (kepP dss (eventsB dss) i j) = false := by
    unfold kepP kepQ rdE
    by_cases h3 : 3 ≤ i
    · cases hr : ((eventsB dss).getD i zE).2.2.1 with
      | true => simp
      | false =>
        have : wholeD (dOf dss ((eventsB dss).getD i zE)) = true := by unfold wholeD; rw [h i h3 hi hr]; rfl
        rw [this]; simp
    · simp [h3]
  rw [this]; simp
end Go.Proofs.YtfmcnkjpgaapaaaGreat

/- How long the webs of chapters 11 to 13 are. -/
namespace Go.Proofs.YtfmcnkjpgaapaaaGreat
open Go.RowKit

theorem pwB_len (dss : List (List Dd)) (f rows : List Int) : (pwB dss f rows).length ≤ 12 := by
  unfold pwB
  split
  · rename_i h
    have T := told_of h
    rw [T.pw.2.1]
    exact T.twelve
  · simp
theorem swB_len (dss : List (List Dd)) (f rows : List Int) : (swB dss f rows).length ≤ 12 := by
  unfold swB
  split
  · rename_i h
    have T := told_of h
    rw [T.sw.2.1]
    exact T.twelve
  · simp
theorem xwB_len (dss : List (List Dd)) (f rows : List Int) : (xwB dss f rows).length ≤ 12 := by
  unfold xwB
  split
  · rename_i h
    have T := told_of h
    rw [T.xw.2.1]
    exact T.twelve
  · simp
theorem rd_at {es : List Ev} (hx : es.length ≤ 12) {i : Nat} (hi : i < (idxB rdE es).length) : (0 ≤ (idxB rdE es).getD i 0 ∧ (idxB rdE es).getD i 0 < (es.length : Int)) ∧ (es.getD ((idxB rdE es).getD i 0).toNat zE).2.2.1 = true := by
  refine ⟨rd_in hx hi, ?_⟩
  have hm : (idxB rdE es).getD i 0 ∈ idxB rdE es := by
    rw [List.getD_eq_getElem?_getD, List.getElem?_eq_getElem hi]
    exact List.getElem_mem hi
  unfold idxB at hm ⊢
  rw [if_pos hx] at hm ⊢
  exact idxK_mem _ _ _ _ hm
theorem beg_wr {dss : List (List Dd)} (hb : workB dss = true) {j : Nat} (hj : j < 3) : ((eventsB dss).getD j zE).2.2.1 = false := by
  obtain ⟨t, ht⟩ := (evs_good (dss := dss) (by simp only [workB, Bool.and_eq_true, decide_eq_true_eq] at hb; intro i hi; have := List.all_eq_true.1 hb.1.1.1.2 _ (List.getElem_mem hi); rw [List.getD_eq_getElem?_getD, List.getElem?_eq_getElem hi]; exact this) dss.length (Nat.le_refl _)).1
  rw [eventsB, if_pos hb, ht, List.getD_eq_getElem?_getD, List.getElem?_append_left (by simp [evBeg]; omega)]
  have : j = 0 ∨ j = 1 ∨ j = 2 := by omega
  rcases this with rfl | rfl | rfl <;> rfl
end Go.Proofs.YtfmcnkjpgaapaaaGreat

/- The cell of a new block of one. -/
namespace Go.Proofs.YtfmcnkjpgaapaaaGreat
open Go.ChangeShapes Go.WideShapes Go.ChangeAt Go.RowKit

theorem new_one (w : World) (u : Value) (n : Nat) (hn : w.heap.size = n) : ∀ j y, ([u] : List Value)[j]? = some y → (w.alloc (.cells #[u] 25)).cell? ((⟨n, 0, none⟩ : Addr).add j) = some y := by
  subst hn
  intro j y hj
  match j, hj with
  | 0, hj => simp at hj; subst hj; simp [Addr.add]
end Go.Proofs.YtfmcnkjpgaapaaaGreat

/- Contract of the specification's ReadsOf: a new list of numbers. (Written by mkidx.py.) -/
namespace Go.Proofs.YtfmcnkjpgaapaaaGreat
open Go.ChangeShapes Go.WideShapes Go.ChangeAt Go.RowKit

set_option maxHeartbeats 1000000 in
theorem specReadsOf_any (w : World) (v : Value) (es : List Ev) (h : RdE w v es) (hx : es.length ≤ 1048576) :
    Calls Tryz.prog 16 #[v] w fun e w' => ∃ v', e = .returned v' ∧ Own w' w.heap.size v' (idxB rdE es) ∧ Keep w w' := by
  have hown0 : Own (w.alloc (.cells #[] 2)) w.heap.size (.slice (some ⟨w.heap.size, 0, none⟩) 0 0) [] := World.ownsRow_lit w #[] 0 (Nat.le_refl _) (by decide) rfl
  obtain ⟨a, cap, rfl, h⟩ := h
  by_cases hl : 12 < es.length
  · have HE : Hid (idxB rdE es = []) := Lib.hid (by unfold idxB; rw [if_neg (by omega)])
    have l1 : (12 : Int) < (es.length : Int) := by omega
    go_enter Tryz.func16, Tryz.ntmps16
    go_wp2
    refine wp_loop_rounds 1 ?_
    rw [rounds_succ]
    go_wp2
    go_ret
    exact ⟨_, rfl, by rw [HE.out]; exact hown0, (Keep.refl _).alloc _⟩
  have l1 : es.length ≤ 12 := by omega
  clear hl
  have HE : Hid (idxB rdE es = idxK rdE es es.length) := Lib.hid (by unfold idxB; rw [if_pos l1])
  obtain ⟨i0, hi, hz0, hz1, hz2⟩ := info_parts Tryz.infoI
  go_enter Tryz.func16, Tryz.ntmps16
  go_wp2
  go_loopw [3, 4] (fun v i wr => ∃ k : Nat, k ≤ es.length ∧ i = .int .i64 k ∧ Own wr w.heap.size v (idxK rdE es k) ∧ Keep w wr) (fun _ i _ => es.length - (intOf i).toNat)
  case atStart => exact ⟨0, Nat.zero_le _, rfl, hown0, (Keep.refl _).alloc _⟩
  case round =>
    obtain ⟨k, hk, rfl, ho, hK⟩ := hrel
    clear hown0
    by_cases hlt : k < es.length
    · rcases h with h | ⟨b, off, rfl, hb, hc⟩
      · exfalso; rw [h] at hlt; simp at hlt
      have AT := (hc k _ (evs_get hlt)).keep hb hK
      have hbw : b < wr.heap.size := Nat.lt_of_lt_of_le hb hK.size
      clear hc
      have hml : (idxK rdE es k).length ≤ k := idxK_len rdE es k
      have hsz := hK.size
      have i1 : (0 : Int) ≤ (k : Int) := Int.natCast_nonneg _
      have i2 : (k : Int) < (es.length : Int) := by omega
      have l2 : (es.length : Int) ≤ 12 := by omega
      have HP : Hid (idxK rdE es (k + 1) = if rdE (es.getD k zE) = true then idxK rdE es k ++ [(k : Int)] else idxK rdE es k) := Lib.hid rfl
      obtain ⟨e, he⟩ : ∃ e, e = es.getD k zE := ⟨_, rfl⟩
      rw [← he] at AT HP
      clear he
      obtain ⟨x0, x1, x2, x3, x4, x5⟩ := e
      obtain ⟨-, -, A2, -, -, -⟩ := atE AT
      clear AT
      cases x2
      · have HM : Hid (idxK rdE es (k + 1) = idxK rdE es k) := Lib.hid (by rw [HP.out]; rfl)
        clear HP
        go_wp2
        go_roundw
        case rel => exact ⟨k + 1, by omega, by go_num, by rw [HM.out]; exact ho, hK⟩
        case measure => simp [intOf]; omega
      · have HM : Hid (idxK rdE es (k + 1) = idxK rdE es k ++ [(k : Int)]) := Lib.hid (by rw [HP.out]; rfl)
        clear HP
        go_wp2_with (at_builtin; refine wpList_append_own _ rfl _ _ 25 rfl w.heap.size 2 i0 (.int .i64 0) 1 8 Tryz.underlying25 hi hz0 hz1 hz2 rfl (by decide) _ _ _ rfl (World.ownsRow.alloc ho _) ⟨_, 0, none⟩ 1 1 [.int .i64 k] rfl rfl ?c1 ?c2 ?c3 ?c4 ?c5 ?_)
        case c1 =>
          intro j u hj
          match j, hj with
          | 0, hj => simp at hj; subst hj; simp [Addr.add]
        case c2 => intro u hu; simp at hu; subst hu; rfl
        case c3 => unfold maxLen; omega
        case c4 => omega
        case c5 => simp; omega
        intro v' w1 hown' hgrow _
        have hK1 : Keep w w1 := (hK.alloc _).grown hgrow ho.ge
        clear hgrow
        go_wp2
        go_roundw
        case rel => exact ⟨k + 1, by omega, by go_num, by rw [HM.out]; exact own_hit hown', hK1⟩
        case measure => simp [intOf]; omega
    · obtain rfl : k = es.length := by omega
      go_wp2
      go_ret
      exact ⟨_, rfl, by rw [HE.out]; exact ho, hK⟩
end Go.Proofs.YtfmcnkjpgaapaaaGreat

/- Contract of the specification's WritesTo: a new list of numbers. (Written by mkidx.py.) -/
namespace Go.Proofs.YtfmcnkjpgaapaaaGreat
open Go.ChangeShapes Go.WideShapes Go.ChangeAt Go.RowKit

set_option maxRecDepth 100000 in
set_option maxHeartbeats 1000000 in
theorem specWritesTo_any (w : World) (v : Value) (es : List Ev) (p : Int) (h : RdE w v es) (hx : es.length ≤ 1048576) :
    Calls Tryz.prog 108 #[v, .int .i64 p] w fun e w' => ∃ v', e = .returned v' ∧ Own w' w.heap.size v' (idxB (toE p) es) ∧ Keep w w' := by
  have hown0 : Own (w.alloc (.cells #[] 2)) w.heap.size (.slice (some ⟨w.heap.size, 0, none⟩) 0 0) [] := World.ownsRow_lit w #[] 0 (Nat.le_refl _) (by decide) rfl
  obtain ⟨a, cap, rfl, h⟩ := h
  by_cases hl : 12 < es.length
  · have HE : Hid (idxB (toE p) es = []) := Lib.hid (by unfold idxB; rw [if_neg (by omega)])
    have l1 : (12 : Int) < (es.length : Int) := by omega
    go_enter Tryz.func108, Tryz.ntmps108
    go_wp2
    refine wp_loop_rounds 1 ?_
    rw [rounds_succ]
    go_wp2
    go_ret
    exact ⟨_, rfl, by rw [HE.out]; exact hown0, (Keep.refl _).alloc _⟩
  have l1 : es.length ≤ 12 := by omega
  clear hl
  have HE : Hid (idxB (toE p) es = idxK (toE p) es es.length) := Lib.hid (by unfold idxB; rw [if_pos l1])
  obtain ⟨i0, hi, hz0, hz1, hz2⟩ := info_parts Tryz.infoI
  go_enter Tryz.func108, Tryz.ntmps108
  go_wp2
  go_loopw [5, 6] (fun v i wr => ∃ k : Nat, k ≤ es.length ∧ i = .int .i64 k ∧ Own wr w.heap.size v (idxK (toE p) es k) ∧ Keep w wr) (fun _ i _ => es.length - (intOf i).toNat)
  case atStart => exact ⟨0, Nat.zero_le _, rfl, hown0, (Keep.refl _).alloc _⟩
  case round =>
    obtain ⟨k, hk, rfl, ho, hK⟩ := hrel
    clear hown0
    by_cases hlt : k < es.length
    · rcases h with h | ⟨b, off, rfl, hb, hc⟩
      · exfalso; rw [h] at hlt; simp at hlt
      have AT := (hc k _ (evs_get hlt)).keep hb hK
      have hbw : b < wr.heap.size := Nat.lt_of_lt_of_le hb hK.size
      clear hc
      have hml : (idxK (toE p) es k).length ≤ k := idxK_len (toE p) es k
      have hsz := hK.size
      have i1 : (0 : Int) ≤ (k : Int) := Int.natCast_nonneg _
      have i2 : (k : Int) < (es.length : Int) := by omega
      have l2 : (es.length : Int) ≤ 12 := by omega
      have HP : Hid (idxK (toE p) es (k + 1) = if toE p (es.getD k zE) = true then idxK (toE p) es k ++ [(k : Int)] else idxK (toE p) es k) := Lib.hid rfl
      obtain ⟨e, he⟩ : ∃ e, e = es.getD k zE := ⟨_, rfl⟩
      rw [← he] at AT HP
      clear he
      obtain ⟨x0, x1, x2, x3, x4, x5⟩ := e
      obtain ⟨-, -, A2, A3, -, -⟩ := atE AT
      clear AT
      cases x2
      · by_cases hp : x3 = p
        · subst hp
          have HM : Hid (idxK (toE x3) es (k + 1) = idxK (toE x3) es k ++ [(k : Int)]) := Lib.hid (by rw [HP.out]; simp [toE])
          clear HP
          go_wp2_with (at_builtin; refine wpList_append_own _ rfl _ _ 25 rfl w.heap.size 2 i0 (.int .i64 0) 1 8 Tryz.underlying25 hi hz0 hz1 hz2 rfl (by decide) _ _ _ rfl (World.ownsRow.alloc ho _) ⟨_, 0, none⟩ 1 1 [.int .i64 k] rfl rfl ?c1 ?c2 ?c3 ?c4 ?c5 ?_)
          case c1 =>
            intro j u hj
            match j, hj with
            | 0, hj => simp at hj; subst hj; simp [Addr.add]
          case c2 => intro u hu; simp at hu; subst hu; rfl
          case c3 => unfold maxLen; omega
          case c4 => omega
          case c5 => simp; omega
          intro v' w1 hown' hgrow _
          have hK1 : Keep w w1 := (hK.alloc _).grown hgrow ho.ge
          clear hgrow
          go_wp2
          go_roundw
          case rel => exact ⟨k + 1, by omega, by go_num, by rw [HM.out]; exact own_hit hown', hK1⟩
          case measure => simp [intOf]; omega
        · have HM : Hid (idxK (toE p) es (k + 1) = idxK (toE p) es k) := Lib.hid (by rw [HP.out]; simp [toE, hp])
          clear HP
          go_wp2
          go_roundw
          case rel => exact ⟨k + 1, by omega, by go_num, by rw [HM.out]; exact ho, hK⟩
          case measure => simp [intOf]; omega
      · have HM : Hid (idxK (toE p) es (k + 1) = idxK (toE p) es k) := Lib.hid (by rw [HP.out]; simp [toE])
        clear HP
        go_wp2
        go_roundw
        case rel => exact ⟨k + 1, by omega, by go_num, by rw [HM.out]; exact ho, hK⟩
        case measure => simp [intOf]; omega
    · obtain rfl : k = es.length := by omega
      go_wp2
      go_ret
      exact ⟨_, rfl, by rw [HE.out]; exact ho, hK⟩
end Go.Proofs.YtfmcnkjpgaapaaaGreat

/- Contracts of the specification's l8Is and l8Choices. -/
namespace Go.Proofs.YtfmcnkjpgaapaaaGreat
open Go.ChangeShapes Go.WideShapes Go.ChangeAt Go.RowKit

set_option maxRecDepth 100000 in
set_option maxHeartbeats 2000000 in
theorem l8Choices_any (w : World) (v : Value) (es : List Ev) (h : RdE w v es) (hx : es.length ≤ 12) :
    Calls Tryz.prog 74 #[v] w fun e w' => ∃ v', e = .returned v' ∧ RdL w' v' (chcL es) ∧ Keep w w' := by
  obtain ⟨i0, hi, hz0, hz1, hz2⟩ := info_parts Tryz.infoL
  have A0 := appL_empty w
  have rl : (idxB rdE es).length ≤ 12 := by
    unfold idxB
    rw [if_pos hx]
    have := idxK_len rdE es es.length
    omega
  have rin : ∀ i, i < (idxB rdE es).length → 0 ≤ (idxB rdE es).getD i 0 ∧ (idxB rdE es).getD i 0 < (es.length : Int) := by
    intro i hi
    have hm : (idxB rdE es).getD i 0 ∈ idxB rdE es := by
      rw [List.getD_eq_getElem?_getD, List.getElem?_eq_getElem hi]
      exact List.getElem_mem hi
    refine idxK_lt rdE es _ _ ?_
    unfold idxB at hm ⊢
    rw [if_pos hx] at hm ⊢
    exact hm
  have HL : Hid (chcL es = chcK es (idxB rdE es) (idxB rdE es).length) := Lib.hid rfl
  go_enter Tryz.func74, Tryz.ntmps74
  go_wp2_with fail
  refine (specReadsOf_any _ _ _ (h.keep ((Keep.refl w).alloc _)) (by omega)).mono ?_
  rintro e w1 ⟨vr, rfl, or1, k1⟩
  generalize idxB rdE es = rs at rl rin HL or1
  have A1 := A0.keep k1
  have K1 : Keep w w1 := ((Keep.refl w).alloc _).trans k1
  have R1 : Beside w1 (.slice (some ⟨w.heap.size, 0, none⟩) 0 0) vr rs := or1.beside (fun k hk => by rw [heap_size]; simp [Value.ownBlock] at hk; omega)
  have RIN := Lib.hid rin
  obtain ⟨ar, cr, rfl, -⟩ := R1.rd
  clear A0 k1 or1 rin
  go_wp2
  go_loopw [3, 5] (fun x i wr => ∃ k : Nat, ∃ vs : List Value, k ≤ rs.length ∧ i = .int .i64 k ∧ AppL wr w.heap.size x vs (chcK es rs k) ∧ Beside wr x (.slice ar rs.length cr) rs ∧ Keep w wr) (fun _ i _ => rs.length - (intOf i).toNat)
  case atStart => exact ⟨0, [], Nat.zero_le _, rfl, A1, R1, K1⟩
  case round =>
    obtain ⟨k, vs, hk, rfl, hA, hB, hK⟩ := hrel
    clear A1 R1 K1
    by_cases hlt : k < rs.length
    · have hr := RIN.out k hlt
      obtain ⟨r, hr'⟩ := Int.eq_ofNat_of_zero_le hr.1
      have hre : r < es.length := by omega
      have hRd := hB.rd
      obtain ⟨a', c', he', hRd⟩ := hRd
      simp only [Value.slice.injEq, true_and] at he'
      obtain ⟨rfl, rfl⟩ := he'
      rcases hRd with h0 | ⟨br, or', rfl, hbr, hcr⟩
      · exfalso; rw [h0] at hlt; simp at hlt
      have d1 := hcr k hlt
      rw [hr'] at d1
      have HC : Hid (chcK es rs (k + 1) = chcK es rs k ++ [idxB (toE (plE es (r : Int))) es]) := Lib.hid (by rw [chcK, hr'])
      have HP : Hid (plE es (r : Int) = (es.getD r zE).2.2.2.1) := Lib.hid (by unfold plE; rw [Int.toNat_natCast])
      clear hr hr' hcr
      have hE := h.keep hK
      obtain ⟨ae, ce, rfl, h2⟩ := id hE
      rcases h2 with h0 | ⟨be, oe, rfl, hbe, hce⟩
      · exfalso; rw [h0] at hre; simp at hre
      have AT := hce r _ (evs_get hre)
      clear hce
      generalize es.getD r zE = e at AT HP
      obtain ⟨x0, x1, x2, x3, x4, x5⟩ := e
      obtain ⟨-, -, -, q3, -, -⟩ := atE AT
      clear AT
      simp only at HP
      rw [HP.out] at HC
      clear HP
      have i1 : (0 : Int) ≤ (k : Int) := Int.natCast_nonneg _
      have i2 : (k : Int) < (rs.length : Int) := by omega
      have j1 : (0 : Int) ≤ (r : Int) := Int.natCast_nonneg _
      have j2 : (r : Int) < (es.length : Int) := by omega
      have hcl := chcK_len es rs k
      go_wp2_with fail
      refine (specWritesTo_any _ _ _ _ hE (by omega)).mono ?_
      rintro e w2 ⟨v2, rfl, o2, k2⟩
      obtain ⟨D, hD⟩ : ∃ D, D = chcK es rs k := ⟨_, rfl⟩
      rw [← hD] at hA HC hcl
      clear hD
      generalize idxB (toE x3) es = zs at o2 HC
      have hA2 := (hA.keep k2).keep ((Keep.refl w2).alloc (.cells #[v2] 25))
      have hB2 := (hB.keep k2).keep ((Keep.refl w2).alloc (.cells #[v2] 25))
      have hU : Beside (w2.alloc (.cells #[v2] 25)) _ v2 zs := (o2.beside (x := u3) (fun k hk => (hA.lt k hk).2)).keep ((Keep.refl w2).alloc _)
      have hK2 := hK.trans k2
      have hsz := hK2.size
      obtain ⟨a2, c2, hv2, -⟩ := o2.rd
      clear hA hB o2
      generalize zs.length = nz at hv2
      subst hv2
      go_wp2_with (at_builtin; refine wpList_append_own_at _ rfl _ _ 83 rfl w.heap.size 25 i0 (.slice none 0 0) 1 24 Tryz.underlying83 hi hz0 hz1 hz2 rfl (by decide) _ _ _ rfl hA2.row ⟨_, 0, none⟩ 1 1 [.slice a2 nz c2] rfl rfl ?c1 ?c2 ?c3 ?c4 ?c5 ?_)
      case c1 => exact new_one _ _ _ rfl
      case c2 => intro u hu; simp at hu; subst hu; rfl
      case c3 => unfold maxLen; omega
      case c4 => omega
      case c5 => first | omega | (simp; omega)
      intro v' w3 hown' hgrow _ hblk
      have hblk' : v'.ownBlock = u3.ownBlock ∨ v'.ownBlock = some (w2.alloc (.cells #[.slice a2 nz c2] 25)).heap.size := by rw [heap_size]; exact hblk
      have hA3 := hA2.push hU (by rw [hcl]; exact hown') hgrow hblk'
      have hB3 := hB2.grow hgrow hblk'
      have hK3 : Keep w w3 := (hK2.alloc _).grown hgrow (fun k hk => (hA2.lt k hk).1)
      clear hown' hgrow hblk hblk' hA2 hB2 hU
      go_wp2
      go_roundw
      case rel => exact ⟨k + 1, _, by omega, by go_num, by rw [HC.out]; exact hA3, hB3, hK3⟩
      case measure => simp [intOf]; omega
    · obtain rfl : k = rs.length := by omega
      have HR := Lib.hid hA.rd
      go_wp2
      go_ret
      exact ⟨_, rfl, by rw [HL.out]; exact HR.out, hK⟩
end Go.Proofs.YtfmcnkjpgaapaaaGreat

/- Contract of the specification's l8Is: is a number in a list. -/
namespace Go.Proofs.YtfmcnkjpgaapaaaGreat
open Go.ChangeShapes Go.WideShapes Go.ChangeAt Go.RowKit

set_option maxHeartbeats 1000000 in
theorem l8Is_any (w : World) (v : Value) (zs : List Int) (h : Rd w v zs) (hn : zs.length ≤ 1048576) (n : Int) :
    Calls Tryz.prog 75 #[v, .int .i64 n] w fun e w' => e = .returned (.bool (isB zs n)) ∧ w' = w := by
  obtain ⟨a, c, rfl, h⟩ := h
  go_enter Tryz.func75, Tryz.ntmps75
  go_wp2
  go_loop [5] (fun i => ∃ k : Nat, k ≤ zs.length ∧ i = .int .i64 k ∧ Hid (∀ i, i < k → zs.getD i 0 ≠ n)) (fun i => zs.length - (intOf i).toNat)
  case atStart => exact ⟨0, Nat.zero_le _, rfl, Lib.hid (fun i hi => absurd hi (Nat.not_lt_zero _))⟩
  case round =>
    obtain ⟨k, hk, rfl, hno⟩ := hrel
    by_cases hlt : k < zs.length
    · rcases h with h | ⟨b, o, rfl, hb, hc⟩
      · exfalso; rw [h] at hlt; simp at hlt
      have d1 := hc k hlt
      obtain ⟨p, hp⟩ : ∃ p, p = zs.getD k 0 := ⟨_, rfl⟩
      have HP := Lib.hid hp
      rw [← hp] at d1
      clear hc hp
      by_cases he : p = n
      · have hb : (p == n) = true := by simp [he]
        have HE : Hid (isB zs n = true) := Lib.hid (isB_at hlt (by rw [← HP.out]; exact he))
        clear he
        go_wp2
        go_ret
        exact ⟨by rw [HE.out]; rfl, rfl⟩
      · have hb : (p == n) = false := by simp [he]
        have HE : Hid (∀ i, i < k + 1 → zs.getD i 0 ≠ n) := Lib.hid (fun i hi => by
          by_cases e : i = k
          · subst e; rw [← HP.out]; exact he
          · exact hno.out i (by omega))
        clear he
        go_wp2
        go_round
        case rel => exact ⟨k + 1, by omega, by go_num, HE⟩
        case measure => simp [intOf]; omega
    · obtain rfl : k = zs.length := by omega
      have HE : Hid (isB zs n = false) := Lib.hid (isB_take hno.out)
      go_wp2
      go_ret
      exact ⟨by rw [HE.out]; rfl, rfl⟩
end Go.Proofs.YtfmcnkjpgaapaaaGreat

/- What is used of a right work. -/
namespace Go.Proofs.YtfmcnkjpgaapaaaGreat

theorem workB_useQ {dss : List (List Dd)} (h : workB dss = true) : dss.length ≤ 3 ∧ ∀ i, i < dss.length → okL (dss.getD i []) = true := by
  simp only [workB, Bool.and_eq_true, decide_eq_true_eq] at h
  obtain ⟨⟨⟨⟨h1, h2⟩, _⟩, _⟩, _⟩ := h
  exact ⟨h1.2, fun i hi => all_get [] h2 i hi⟩
end Go.Proofs.YtfmcnkjpgaapaaaGreat

/- Contracts of the specification's l5Events and l5Groups. -/
namespace Go.Proofs.YtfmcnkjpgaapaaaGreat
open Go.ChangeShapes Go.WideShapes Go.ChangeAt Go.RowKit

theorem okD_kind {d : Dd} (h : okD d = true) : d.1 = 1 ∨ d.1 = 2 ∨ d.1 = 3 ∨ d.1 = 4 := by
  simp [okD, deedB] at h
  omega
theorem okD_group {d : Dd} (h : okD d = true) : 0 ≤ d.2.2.2 ∧ d.2.2.2 ≤ 9 := by
  simp [okD, deedB] at h
  omega
set_option maxRecDepth 100000 in
set_option maxHeartbeats 2000000 in
theorem l5Events_any (w : World) (v : Value) (dss : List (List Dd)) (h : RdW w v dss) (hx : dss.length ≤ 3) (hok : ∀ i, i < dss.length → okL (dss.getD i []) = true) :
    Calls Tryz.prog 81 #[v] w fun e w' => e = .returned (.int .i64 (evW dss dss.length)) ∧ Keep w w' := by
  obtain ⟨a, c, rfl, h⟩ := h
  go_enter Tryz.func81, Tryz.ntmps81
  go_wp2
  go_loopw [3, 4] (fun n i wr => ∃ k : Nat, ∃ m : Int, k ≤ dss.length ∧ n = .int .i64 m ∧ i = .int .i64 k ∧ Hid (m = evW dss k) ∧ 0 ≤ m ∧ m ≤ 10 * k ∧ Keep w wr) (fun _ i _ => dss.length - (intOf i).toNat)
  case atStart => exact ⟨0, 0, Nat.zero_le _, rfl, rfl, Lib.hid rfl, by omega, by omega, Keep.refl _⟩
  case round =>
    obtain ⟨k, m, hk, rfl, rfl, hm, m0, m1, hK⟩ := hrel
    by_cases hlt : k < dss.length
    · rcases h with h | ⟨b, o, rfl, hb, hc⟩
      · exfalso; rw [h] at hlt; simp at hlt
      obtain ⟨u, e1, r1⟩ := hc k hlt
      have d1 := (hK.cell hb).trans e1
      have r1 := r1.keep hK
      have okk := hok k hlt
      clear hc e1 hok
      obtain ⟨ds, hds⟩ : ∃ ds, ds = dss.getD k [] := ⟨_, rfl⟩
      have HDS := Lib.hid hds
      rw [← hds] at r1 okk
      clear hds
      obtain ⟨ai, ci, rfl, r1⟩ := r1
      have i1 : (0 : Int) ≤ (k : Int) := Int.natCast_nonneg _
      have i2 : (k : Int) < (dss.length : Int) := by omega
      have hl5 : ds.length ≤ 5 := by simp [okL] at okk; omega
      have hbw : b < wr.heap.size := Nat.lt_of_lt_of_le hb hK.size
      go_wp2
      obtain ⟨wo, hwo⟩ : ∃ wo : World, wo = wr := ⟨_, rfl⟩
      subst hwo
      go_loopw [3, 5] (fun n i wq => ∃ q : Nat, ∃ t : Int, q ≤ ds.length ∧ n = .int .i64 t ∧ i = .int .i64 q ∧ Hid (t = m + evK ds q) ∧ 0 ≤ t ∧ t ≤ 10 * k + 2 * q ∧ Keep wo wq) (fun _ i _ => ds.length - (intOf i).toNat)
      case atStart => exact ⟨0, m, Nat.zero_le _, rfl, rfl, Lib.hid (by simp [evK]), by omega, by omega, Keep.refl _⟩
      case round =>
        obtain ⟨q, t, hq, rfl, rfl, ht, t0, t1, hQ⟩ := hrel
        have d1 := (hQ.cell hbw).trans d1
        have hbq : b < wr.heap.size := Nat.lt_of_lt_of_le hbw hQ.size
        by_cases hlq : q < ds.length
        · rcases r1 with h | ⟨b2, o2, rfl, hb2, hc2⟩
          · exfalso; rw [h] at hlq; simp at hlq
          have AT := (hc2 q hlq).keep hb2 hQ
          have okq : okD (ds.getD q zD) = true := by
            simp only [okL, Bool.and_eq_true] at okk
            exact all_get zD okk.1 q hlq
          clear hc2 okk
          have hb3 : b2 < wr.heap.size := Nat.lt_of_lt_of_le hb2 hQ.size
          have HEV : Hid (t + evD (ds.getD q zD) = m + evK ds (q + 1)) := Lib.hid (by rw [evK, ht.out]; omega)
          clear ht
          obtain ⟨d, hd⟩ : ∃ d, d = ds.getD q zD := ⟨_, rfl⟩
          rw [← hd] at AT okq HEV
          clear hd
          have KD := okD_kind okq
          obtain ⟨x0, x1, x2, x3⟩ := d
          obtain ⟨A0, -, -, -⟩ := AT
          simp only at A0 KD
          have j1 : (0 : Int) ≤ (q : Int) := Int.natCast_nonneg _
          have j2 : (q : Int) < (ds.length : Int) := by omega
          rcases KD with rfl | rfl | rfl | rfl
          all_goals
            go_wp2
            go_roundw
            case rel => exact ⟨q + 1, _, by omega, rfl, by go_num, Lib.hid (by have := HEV.out; simp [evD] at this; omega), by omega, by omega, hQ.alloc _⟩
            case measure => simp [intOf]; omega
        · obtain rfl : q = ds.length := by omega
          go_wp2
          go_roundw
          case rel => exact ⟨k + 1, t, by omega, rfl, by go_num, Lib.hid (by rw [evW, ← HDS.out, ht.out, hm.out]), t0, by omega, hK.trans hQ⟩
          case measure => simp [intOf]; omega
    · obtain rfl : k = dss.length := by omega
      go_wp2
      go_ret
      exact ⟨by rw [hm.out]; rfl, hK⟩
theorem made_ten : (madeCells (Value.int .i64 0).cells (10 * 1)).toList = ((List.replicate 10 (0 : Int)).map (Value.int .i64)) := by
  rw [Nat.mul_one, List.map_replicate]
  exact toList_madeCells_one _ _
theorem grp_skip {i : Nat} {own o : List Int} {ds : List Dd} {k : Nat} (h : grpK i own ds k = some o) (hg : (ds.getD k zD).2.2.2 = 0) : grpK i own ds (k + 1) = some o := by
  rw [grpK, h]
  simp only [hg, if_true]
theorem grp_bad {i : Nat} {own o : List Int} {ds : List Dd} {k : Nat} (h : grpK i own ds k = some o) (hg : (ds.getD k zD).2.2.2 ≠ 0)
    (hb : o.getD (ds.getD k zD).2.2.2.toNat 0 ≠ 0 ∧ (o.getD (ds.getD k zD).2.2.2.toNat 0 ≠ (i : Int) + 1 ∨ k = 0 ∨ (ds.getD (k - 1) zD).2.2.2 ≠ (ds.getD k zD).2.2.2)) : grpK i own ds (k + 1) = none := by
  rw [grpK, h]
  simp only
  rw [if_neg hg, if_pos hb]
theorem grp_own {i : Nat} {own o : List Int} {ds : List Dd} {k : Nat} (h : grpK i own ds k = some o) (hg : (ds.getD k zD).2.2.2 ≠ 0)
    (hb : ¬ (o.getD (ds.getD k zD).2.2.2.toNat 0 ≠ 0 ∧ (o.getD (ds.getD k zD).2.2.2.toNat 0 ≠ (i : Int) + 1 ∨ k = 0 ∨ (ds.getD (k - 1) zD).2.2.2 ≠ (ds.getD k zD).2.2.2))) :
    grpK i own ds (k + 1) = some (o.set (ds.getD k zD).2.2.2.toNat ((i : Int) + 1)) := by
  rw [grpK, h]
  simp only
  rw [if_neg hg, if_neg hb]
theorem grp_out {dss : List (List Dd)} {k : Nat} {own : List Int} (hk : k < dss.length) (h : grpW dss k = some own) {q : Nat} (hq : q ≤ (dss.getD k []).length) (hn : grpK k own (dss.getD k []) q = none) : grpB dss = false := by
  have h1 : grpW dss (k + 1) = none := by
    rw [grpW, h]
    exact grpK_none hn _ hq
  rw [grpB, grpW_none h1 _ hk]
  rfl
set_option maxRecDepth 100000 in
set_option maxHeartbeats 4000000 in
theorem l5Groups_any (w : World) (v : Value) (dss : List (List Dd)) (h : RdW w v dss) (hx : dss.length ≤ 3) (hok : ∀ i, i < dss.length → okL (dss.getD i []) = true) :
    Calls Tryz.prog 82 #[v] w fun e w' => e = .returned (.bool (grpB dss)) ∧ Keep w w' := by
  obtain ⟨a, c, rfl, h⟩ := h
  obtain ⟨i0, hi, hz0, hz1, hz2⟩ := info_parts Tryz.infoI
  go_enter Tryz.func82, Tryz.ntmps82
  go_wp2_with (at_make; refine wpList_make_full _ rfl _ _ 25 rfl w.heap.size 2 i0 (.int .i64 0) 1 Tryz.underlying25 hi hz0 hz1 .i64 .i64 _ _ 10 rfl rfl rfl rfl (by rw [hz2]; omega) (by unfold maxLen; omega) (Nat.le_refl _) ?_; intro w1 hown hgrow)
  have k1 : Keep w w1 := (Keep.refl w).grown hgrow (by simp)
  have rb : RowAt w1 w.heap.size (List.replicate 10 0) := by
    have o : Own w1 w.heap.size (.slice (some ⟨w.heap.size, 0, none⟩) 10 10) (List.replicate 10 0) := by
      rw [made_ten] at hown; unfold Own; simpa using hown
    rcases o.row with ⟨e, _⟩ | ⟨g, cap, e, _, hr⟩
    · cases e
    · have e1 := congrArg Value.ownBlock e
      simp [Value.ownBlock] at e1
      rw [e1]; exact hr
  clear hgrow hown hi hz0 hz1 hz2
  go_loopw [4] (fun i wr => ∃ k : Nat, ∃ own : List Int, k ≤ dss.length ∧ i = .int .i64 k ∧ Hid (grpW dss k = some own) ∧ RowAt wr w.heap.size own ∧ Keep w wr) (fun i _ => dss.length - (intOf i).toNat)
  case atStart => exact ⟨0, List.replicate 10 0, Nat.zero_le _, rfl, Lib.hid rfl, rb, k1⟩
  case round =>
    obtain ⟨k, own, hk, rfl, hG, hR, hK⟩ := hrel
    clear rb k1
    by_cases hlt : k < dss.length
    · rcases h with h | ⟨b, o, rfl, hb, hc⟩
      · exfalso; rw [h] at hlt; simp at hlt
      obtain ⟨u, e1, r1⟩ := hc k hlt
      have okk := hok k hlt
      clear hc hok
      obtain ⟨ds, hds⟩ : ∃ ds, ds = dss.getD k [] := ⟨_, rfl⟩
      have HDS := Lib.hid hds
      rw [← hds] at r1 okk
      clear hds
      obtain ⟨ai, ci, rfl, r1⟩ := r1
      have d1 := (hK.cell hb).trans e1
      have i1 : (0 : Int) ≤ (k : Int) := Int.natCast_nonneg _
      have i2 : (k : Int) < (dss.length : Int) := by omega
      have hl5 : ds.length ≤ 5 := by simp [okL] at okk; omega
      go_wp2
      go_loopw [5] (fun i wq => ∃ q : Nat, ∃ ow : List Int, q ≤ ds.length ∧ i = .int .i64 q ∧ Hid (grpK k own ds q = some ow) ∧ RowAt wq w.heap.size ow ∧ Keep w wq) (fun i _ => ds.length - (intOf i).toNat)
      case atStart => exact ⟨0, own, Nat.zero_le _, rfl, Lib.hid rfl, hR, hK⟩
      case round =>
        obtain ⟨q, ow, hq, rfl, hQ, hS, hL⟩ := hrel
        have d1 := (hL.cell hb).trans e1
        by_cases hlq : q < ds.length
        · rcases r1 with h | ⟨b2, o2, rfl, hb2, hc2⟩
          · exfalso; rw [h] at hlq; simp at hlq
          have A3 := ((hc2 q hlq).keep hb2 hL).2.2.2
          have okq : okD (ds.getD q zD) = true := by
            simp only [okL, Bool.and_eq_true] at okk
            exact all_get zD okk.1 q hlq
          have g09 : 0 ≤ (ds.getD q zD).2.2.2 ∧ (ds.getD q zD).2.2.2 ≤ 9 := okD_group okq
          clear okk okq
          have AP : 0 < q → wr.cell? ⟨b2, o2 + (q - 1) * 4 + 3, none⟩ = some (.int .i64 (ds.getD (q - 1) zD).2.2.2) := fun _ => ((hc2 (q - 1) (by omega)).keep hb2 hL).2.2.2
          clear hc2
          have S1 := @grp_skip k own ow ds q hQ.out
          have S2 := @grp_bad k own ow ds q hQ.out
          have S3 := @grp_own k own ow ds q hQ.out
          have hlen : ow.length = 10 := (grpK_len hQ.out).trans (grpW_len hG.out)
          clear hQ
          obtain ⟨g, hg⟩ : ∃ g : Nat, (ds.getD q zD).2.2.2 = (g : Int) := ⟨_, (Int.toNat_of_nonneg g09.1).symm⟩
          rw [hg] at A3 g09 S1 S2 S3
          rw [Int.toNat_natCast] at S2 S3
          clear hg
          have hg9 : g < 10 := by omega
          obtain ⟨p, hp⟩ : ∃ p : Int, p = (ds.getD (q - 1) zD).2.2.2 := ⟨_, rfl⟩
          rw [← hp] at AP S2 S3
          clear hp
          have hRC := hS.cell (j := g) (by omega)
          obtain ⟨y, hy⟩ : ∃ y : Int, y = ow.getD g 0 := ⟨_, rfl⟩
          rw [← hy] at hRC S2 S3
          clear hy g09
          have j1 : (0 : Int) ≤ (q : Int) := Int.natCast_nonneg _
          have j2 : (q : Int) < (ds.length : Int) := by omega
          have j3 : (0 : Int) ≤ (g : Int) := Int.natCast_nonneg _
          have j4 : (g : Int) < 10 := by omega
          have hbq : b < wr.heap.size := Nat.lt_of_lt_of_le hb hL.size
          have hb3 : b2 < wr.heap.size := Nat.lt_of_lt_of_le hb2 hL.size
          by_cases g0 : g = 0
          · have eg : ((g : Int) == 0) = true := by simp [g0]
            have HE := Lib.hid (S1 (by omega))
            clear S1 S2 S3 AP
            go_wp2
            go_roundw
            case rel => exact ⟨q + 1, ow, by omega, by go_num, HE, hS, hL⟩
            case measure => simp [intOf]; omega
          · have HN : Hid ((g : Int) ≠ 0) := Lib.hid (by omega)
            have eg : ((g : Int) == 0) = false := by simp; omega
            have hF := hS.free g
            clear S1
            by_cases y0 : y = 0
            · subst y0
              have HE := Lib.hid (S3 HN.out (by simp))
              clear S2 S3 AP
              go_wp2
              go_roundw
              case rel => exact ⟨q + 1, _, by omega, by go_num, HE, hS.set g _, hL.set (Nat.le_refl _) g _⟩
              case measure => simp [intOf]; omega
            · have ey : (y != 0) = true := by simp [y0]
              by_cases yk : y = (k : Int) + 1
              · subst yk
                have ek : ((k : Int) + 1 != (k : Int) + 1) = false := by simp
                by_cases q0 : q = 0
                · have eq : ((q : Int) == 0) = true := by simp [q0]
                  have HE : Hid (grpB dss = false) := Lib.hid (grp_out hlt hG.out (q := q + 1) (by rw [← HDS.out]; omega) (by rw [← HDS.out]; exact S2 HN.out ⟨y0, .inr (.inl q0)⟩))
                  clear S2 S3 AP y0 q0
                  go_wp2
                  go_ret
                  exact ⟨by rw [HE.out]; rfl, hL⟩
                · have eq : ((q : Int) == 0) = false := by simp; omega
                  have AP := AP (by omega)
                  obtain ⟨r, rfl⟩ : ∃ r : Nat, q = r + 1 := ⟨q - 1, by omega⟩
                  rw [Nat.add_sub_cancel] at AP
                  have j5 : (0 : Int) ≤ (r : Int) := Int.natCast_nonneg _
                  have j6 : (r : Int) < (ds.length : Int) := by omega
                  by_cases pg : p = (g : Int)
                  · subst pg
                    have ep : ((g : Int) != (g : Int)) = false := by simp
                    have HE := Lib.hid (S3 HN.out (by simp))
                    clear S2 S3 y0
                    go_wp2
                    go_roundw
                    case rel => exact ⟨r + 1 + 1, _, by omega, by go_num, HE, hS.set g _, hL.set (Nat.le_refl _) g _⟩
                    case measure => simp [intOf]; omega
                  · have ep : (p != (g : Int)) = true := by simp [pg]
                    have HE : Hid (grpB dss = false) := Lib.hid (grp_out hlt hG.out (q := r + 1 + 1) (by rw [← HDS.out]; omega) (by rw [← HDS.out]; exact S2 HN.out ⟨y0, .inr (.inr pg)⟩))
                    clear S2 S3 y0 pg
                    go_wp2
                    go_ret
                    exact ⟨by rw [HE.out]; rfl, hL⟩
              · have ek : (y != (k : Int) + 1) = true := by simp [yk]
                have HE : Hid (grpB dss = false) := Lib.hid (grp_out hlt hG.out (q := q + 1) (by rw [← HDS.out]; omega) (by rw [← HDS.out]; exact S2 HN.out ⟨y0, .inl yk⟩))
                clear S2 S3 AP yk y0
                go_wp2
                go_ret
                exact ⟨by rw [HE.out]; rfl, hL⟩
        · obtain rfl : q = ds.length := by omega
          go_wp2
          go_roundw
          case rel => exact ⟨k + 1, ow, by omega, by go_num, Lib.hid (by rw [grpW, hG.out, ← HDS.out]; exact hQ.out), hS, hL⟩
          case measure => simp [intOf]; omega
    · obtain rfl : k = dss.length := by omega
      go_wp2
      go_ret
      exact ⟨by rw [grpB, hG.out]; rfl, hK⟩
end Go.Proofs.YtfmcnkjpgaapaaaGreat

/- Contract of the specification's WorkOk. -/
namespace Go.Proofs.YtfmcnkjpgaapaaaGreat
open Go.ChangeShapes Go.WideShapes Go.ChangeAt Go.RowKit

theorem take_more {α : Type} (l : List α) (k : Nat) (z : α) (h : k < l.length) : l.take (k + 1) = l.take k ++ [l.getD k z] := by
  rw [List.take_add_one, List.getElem?_eq_getElem h, List.getD_eq_getElem?_getD, List.getElem?_eq_getElem h]
  rfl
theorem all_more {α : Type} {f : α → Bool} {l : List α} {k : Nat} (z : α) (h : k < l.length) (h1 : (l.take k).all f = true) (h2 : f (l.getD k z) = true) : (l.take (k + 1)).all f = true := by
  rw [take_more l k z h, List.all_append, h1]
  rw [List.all_cons, h2]; rfl
theorem lenW_more (d : List Dd) : ∀ l : List (List Dd), lenW (l ++ [d]) = lenW l + d.length
  | [] => by simp [lenW]
  | x :: r => by rw [List.cons_append, lenW, lenW, lenW_more d r]; omega
theorem workB_off {dss : List (List Dd)} {k : Nat} (hk : k < dss.length) (h : okL (dss.getD k []) = false) : workB dss = false := by
  rw [workB, all_not [] k hk h]; simp
set_option maxRecDepth 100000 in
set_option maxHeartbeats 4000000 in
theorem specWorkOk_any (w : World) (v : Value) (dss : List (List Dd)) (h : RdW w v dss) (hx : dss.length ≤ 1048576) (hm : ∀ i, i < dss.length → (dss.getD i []).length ≤ 1048576) :
    Calls Tryz.prog 44 #[v] w fun e w' => e = .returned (.bool (workB dss)) ∧ Keep w w' := by
  have RW := h
  obtain ⟨a, c, rfl, h⟩ := h
  cases hb : inB (dss.length : Int) 1 3
  · have HE : Hid (workB dss = false) := by
      refine Lib.hid ?_
      simp [inB] at hb
      rw [workB, decide_eq_false (by omega)]
      rfl
    go_enter Tryz.func44, Tryz.ntmps44
    go_wp2_with (go_at_call 46; refine (l1In_any _ _ _ _).mono ?_; rintro e w' ⟨rfl, rfl⟩)
    go_ret
    exact ⟨by rw [HE.out]; rfl, Keep.refl _⟩
  · have h13 : 1 ≤ dss.length ∧ dss.length ≤ 3 := by simp [inB] at hb; omega
    have HIN := Lib.hid h13
    have h3 := h13.2
    clear h13
    go_enter Tryz.func44, Tryz.ntmps44
    go_wp2_with (go_at_call 46; refine (l1In_any _ _ _ _).mono ?_; rintro e w' ⟨rfl, rfl⟩)
    clear hb
    go_loopw [3, 4] (fun n i wr => ∃ k m : Nat, k ≤ dss.length ∧ n = .int .i64 m ∧ i = .int .i64 k ∧ Hid (m = lenW (dss.take k) ∧ (dss.take k).all okL = true) ∧ m ≤ 5 * k ∧ Keep w' wr) (fun _ i _ => dss.length - (intOf i).toNat)
    case atStart => exact ⟨0, 0, Nat.zero_le _, rfl, rfl, Lib.hid (by simp [lenW]), by omega, Keep.refl _⟩
    case round =>
      obtain ⟨k, m, hk, rfl, rfl, hM, m5, hK⟩ := hrel
      by_cases hlt : k < dss.length
      · rcases h with h | ⟨b, o, rfl, hb, hc⟩
        · exfalso; rw [h] at hlt; simp at hlt
        obtain ⟨u, e1, r1⟩ := hc k hlt
        have hmk := hm k hlt
        clear hc hm RW
        obtain ⟨ds, hds⟩ : ∃ ds, ds = dss.getD k [] := ⟨_, rfl⟩
        have HDS := Lib.hid hds
        rw [← hds] at r1 hmk
        clear hds
        obtain ⟨ai, ci, rfl, r1⟩ := r1
        have d1 := (hK.cell hb).trans e1
        have i1 : (0 : Int) ≤ (k : Int) := Int.natCast_nonneg _
        have i2 : (k : Int) < (dss.length : Int) := by omega
        go_wp2
        go_loopw [5] (fun i wq => ∃ q : Nat, q ≤ ds.length ∧ i = .int .i64 q ∧ Hid ((ds.take q).all okD = true) ∧ Keep w' wq) (fun i _ => ds.length - (intOf i).toNat)
        case atStart => exact ⟨0, Nat.zero_le _, rfl, Lib.hid (by simp), hK⟩
        case round =>
          obtain ⟨q, hq, rfl, hQ, hL⟩ := hrel
          have d1 := (hL.cell hb).trans e1
          by_cases hlq : q < ds.length
          · rcases r1 with h | ⟨b2, o2, rfl, hb2, hc2⟩
            · exfalso; rw [h] at hlq; simp at hlq
            have AT := (hc2 q hlq).keep hb2 hL
            clear hc2
            have hbq : b < wr.heap.size := Nat.lt_of_lt_of_le hb hL.size
            have hb3 : b2 < wr.heap.size := Nat.lt_of_lt_of_le hb2 hL.size
            have j1 : (0 : Int) ≤ (q : Int) := Int.natCast_nonneg _
            have j2 : (q : Int) < (ds.length : Int) := by omega
            have HT : okD (ds.getD q zD) = true → Hid ((ds.take (q + 1)).all okD = true) := fun e => Lib.hid (all_more zD hlq hQ.out e)
            have HF : okD (ds.getD q zD) = false → Hid (workB dss = false) := fun e => Lib.hid (workB_off hlt (by rw [← HDS.out, okL, all_not zD q hlq e]; rfl))
            clear hQ
            obtain ⟨d, hd⟩ : ∃ d, d = ds.getD q zD := ⟨_, rfl⟩
            rw [← hd] at AT HT HF
            clear hd
            obtain ⟨x0, x1, x2, x3⟩ := d
            obtain ⟨A0, A1, A2, A3⟩ := AT
            simp only at A0 A1 A2 A3
            unfold okD at HT HF
            simp only at HT HF
            cases hd : deedB x0 x1 x2 x3
            · have HE := HF hd
              clear HT HF
              go_wp2_with fail
              refine (specDeedOk_any _ _ _ _ _).mono ?_
              rintro e wz ⟨rfl, kk⟩
              go_wp2
              go_ret
              exact ⟨by rw [HE.out]; rfl, hL.trans kk⟩
            · have HE := HT hd
              clear HT HF
              go_wp2_with fail
              refine (specDeedOk_any _ _ _ _ _).mono ?_
              rintro e wz ⟨rfl, kk⟩
              go_wp2
              go_roundw
              case rel => exact ⟨q + 1, by omega, by go_num, HE, hL.trans kk⟩
              case measure => simp [intOf]; omega
          · obtain rfl : q = ds.length := by omega
            rw [List.take_length] at hQ
            by_cases h5 : ds.length ≤ 5
            · have HE : Hid (m + ds.length = lenW (dss.take (k + 1)) ∧ (dss.take (k + 1)).all okL = true) := by
                refine Lib.hid ⟨?_, all_more [] hlt hM.out.2 (by rw [← HDS.out, okL, hQ.out]; simp [h5])⟩
                rw [take_more dss k [] hlt, lenW_more, ← HDS.out, hM.out.1]
              go_wp2
              go_roundw
              case rel => exact ⟨k + 1, m + ds.length, by omega, by go_num, by go_num, HE, by omega, hL⟩
              case measure => simp [intOf]; omega
            · have HE : Hid (workB dss = false) := Lib.hid (workB_off hlt (by rw [← HDS.out, okL]; simp; omega))
              go_wp2
              go_ret
              exact ⟨by rw [HE.out]; rfl, hL⟩
      · obtain rfl : k = dss.length := by omega
        rw [List.take_length] at hM
        have OKS : ∀ i, i < dss.length → okL (dss.getD i []) = true := fun i hi => all_get [] hM.out.2 i hi
        have HW : Hid (workB dss = (decide (m ≤ 12) && decide (evW dss dss.length ≤ 6) && grpB dss)) := by
          refine Lib.hid ?_
          rw [workB, decide_eq_true HIN.out, hM.out.2, hM.out.1]
          rfl
        have rw1 := RW.keep hK
        clear hM RW h hm
        by_cases h12 : m ≤ 12
        · have e12 : decide ((m : Int) ≤ 12) = true := by simp; omega
          by_cases h6 : evW dss dss.length ≤ 6
          · have HE : Hid (workB dss = grpB dss) := Lib.hid (by rw [HW.out]; simp [h12, h6])
            go_wp2_with fail
            refine (l5Events_any _ _ _ rw1 h3 OKS).mono ?_
            rintro e wz ⟨rfl, kk⟩
            have rw2 := rw1.keep kk
            go_wp2_with fail
            refine (l5Groups_any _ _ _ rw2 h3 OKS).mono ?_
            rintro e wy ⟨rfl, k2⟩
            go_wp2
            go_ret
            exact ⟨by rw [HE.out]; rfl, (hK.trans kk).trans k2⟩
          · have HE : Hid (workB dss = false) := Lib.hid (by rw [HW.out]; simp [h6])
            go_wp2_with fail
            refine (l5Events_any _ _ _ rw1 h3 OKS).mono ?_
            rintro e wz ⟨rfl, kk⟩
            go_wp2
            go_ret
            exact ⟨by rw [HE.out]; rfl, hK.trans kk⟩
        · have HE : Hid (workB dss = false) := Lib.hid (by rw [HW.out]; simp [h12])
          go_wp2
          go_ret
          exact ⟨by rw [HE.out]; rfl, hK⟩
end Go.Proofs.YtfmcnkjpgaapaaaGreat
