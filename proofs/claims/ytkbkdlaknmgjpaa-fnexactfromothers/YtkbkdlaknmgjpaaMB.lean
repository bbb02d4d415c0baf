/- Several texts in one. -/
import Derived.Test.YtkbkdlaknmgjpaaMA
import Derived.Test.YtkbkdlaknmgjpaaRows
import Derived.OpenShut
import Derived.Outline
import Derived.Maps.AppendAt
import Derived.Laws.OwnMore
import Derived.OwnWalk
import Derived.BigQuiet
import Derived.RangeFuncBox
import Derived.RangeFuncCalls
import Derived.RangeFuncLeaves
import Derived.BigRegion
import Derived.RegionTactic
import Derived.Deep.RegionHeld3
import Derived.Deep.QuietTactic
import Derived.Lib.Hide
/- What the law on rows asks of the lists. -/
namespace Go.Proofs.Ytkbkdlaknmgjpaa
open Go.RowKit

theorem rw_way {es : List Ev} {rows : List Int} (hx : es.length ≤ 12) (h : rowsL es rows = true) {a b : Nat} (ha : a < es.length) (hw : Way (rwL es rows) a b) : ∃ i k, i < k ∧ k < rows.length ∧ rows.getD i 0 = (a : Int) ∧ rows.getD k 0 = (b : Int) := by
  obtain ⟨hn, _, hr⟩ := rows_use hx h
  obtain ⟨h1, h2⟩ := web_rwAll hx hr rows.length (Nat.le_refl _)
  have step : ∀ x y, x < es.length → line (rwL es rows) x y = true → ∃ i k, i < k ∧ k < rows.length ∧ rows.getD i 0 = (x : Int) ∧ rows.getD k 0 = (y : Int) := fun x y hx' hl => by
    obtain ⟨i, q, hi, hq, hp, e1, e2⟩ := (h2 x y hx').1 hl
    unfold rwP at hp
    simp only [Bool.and_eq_true, decide_eq_true_eq] at hp
    exact ⟨i, q, hp.1, hq, e1, e2⟩
  induction hw with
  | one g => exact step _ _ ha g
  | more g l ih =>
    obtain ⟨i, k, hik, hk, e1, e2⟩ := ih
    obtain ⟨i', k', hik', hk', e1', e2'⟩ := step _ _ (g.lt h1 ha) l
    have := nodup_get hn (p := k) (q := i') hk (by omega) (by rw [e2, e1'])
    subst this
    exact ⟨i, k', by omega, hk', e1, e2'⟩
theorem rw_round {es : List Ev} {rows : List Int} (hx : es.length ≤ 12) (h : rowsL es rows = true) : roundB (rwL es rows) = false := by
  obtain ⟨hn, _, hr⟩ := rows_use hx h
  have h1 := (web_rwAll hx hr rows.length (Nat.le_refl _)).1
  cases hq : roundB (rwL es rows) with
  | false => rfl
  | true =>
    exfalso
    obtain ⟨a, ha, hw⟩ := (round_iff h1).1 hq
    obtain ⟨i, k, hik, hk, e1, e2⟩ := rw_way hx h ha hw
    have := nodup_get hn (p := i) (q := k) (by omega) hk (by rw [e1, e2])
    omega
theorem row_all {dss : List (List Dd)} {n : Int} (h0 : 0 ≤ n) (h1 : n < rcntB dss) :
    workB dss = true ∧ rowsB dss (ratB dss n) = true ∧ (ratB dss n).length ≤ 36 ∧ (rwB dss (ratB dss n)).length = (eventsB dss).length ∧ roundB (rwB dss (ratB dss n)) = false ∧
    (∀ i, i < (ratB dss n).length → ∃ a : Nat, (ratB dss n).getD i 0 = (a : Int) ∧ a < (eventsB dss).length) ∧
    (∀ i k a b : Nat, i < (ratB dss n).length → k < (ratB dss n).length → (ratB dss n).getD i 0 = (a : Int) → (ratB dss n).getD k 0 = (b : Int) → inSetB ((rwB dss (ratB dss n)).getD a 0) b = (((eventsB dss).getD a zE).2.2.2.1 == ((eventsB dss).getD b zE).2.2.2.1 && decide (i < k))) ∧
    ∀ m, 0 ≤ m → m < rcntB dss → decide (ratB dss m = ratB dss n) = decide (m = n) := by
  have hb : workB dss = true := by
    cases hb : workB dss with
    | true => rfl
    | false => rw [rcntB, hb] at h1; simp at h1; omega
  have hx := eventsB_12 dss
  have hc : rcntB dss = rcntL (eventsB dss) := by rw [rcntB, if_pos hb]
  have ha : ∀ m, 0 ≤ m → m < rcntB dss → ratB dss m = ratL (eventsB dss) m := fun m g0 g1 => by unfold ratB; rw [if_pos ⟨g0, g1⟩]
  have hs : rowsL (eventsB dss) (ratB dss n) = true := by rw [ha n h0 h1]; exact rat_ok hb h0 (by rw [← hc]; exact h1)
  have hso : rowsB dss (ratB dss n) = true := by rw [rowsB, hb, hs]; rfl
  have hw : rwB dss (ratB dss n) = rwL (eventsB dss) (ratB dss n) := by rw [rwB, if_pos hso]
  obtain ⟨hn, hl, hr⟩ := rows_use hx hs
  have h12 := (web_rwAll hx hr (ratB dss n).length (Nat.le_refl _)).1
  refine ⟨hb, hso, hl, by rw [hw]; exact h12.2.1, by rw [hw]; exact rw_round hx hs, fun i hi => ?_, fun i k a b hi hk ea eb => ?_, fun m g0 g1 => ?_⟩
  · obtain ⟨r0, r1⟩ := hr i hi
    obtain ⟨a, e⟩ := Int.eq_ofNat_of_zero_le r0
    exact ⟨a, e, by omega⟩
  · have := row_cell hx hs hi hk
    rw [ea, eb, Int.toNat_natCast, Int.toNat_natCast] at this
    rw [hw]
    unfold line at this
    rw [this]
    unfold rwP plE
    rw [ea, eb, Int.toNat_natCast, Int.toNat_natCast, Bool.and_comm]
  · rw [ha m g0 g1, ha n h0 h1]
    rw [hc] at h1 g1
    refine decide_eq_decide.2 ⟨fun e => rat_inj hb h0 h1 g0 g1 e, fun e => by rw [e]⟩
end Go.Proofs.Ytkbkdlaknmgjpaa

/- How long the answers on sources are. -/
namespace Go.Proofs.Ytkbkdlaknmgjpaa

theorem chc_len {es : List Ev} (hx : es.length ≤ 12) : (chcL es).length ≤ 12 ∧ ∀ i, i < (chcL es).length → ((chcL es).getD i []).length ≤ 12 := by
  have key : ∀ f : Ev → Bool, (idxB f es).length ≤ 12 := fun f => by
    unfold idxB
    rw [if_pos hx]
    have := idxK_len f es es.length
    omega
  unfold chcL
  rw [chcK_len]
  exact ⟨key _, fun i hi => by rw [chcK_get _ _ _ _ hi]; exact key _⟩
theorem eventsB_le (dss : List (List Dd)) : (eventsB dss).length ≤ 12 := by
  unfold eventsB
  split
  · rename_i hb
    exact (events_law hb).1
  · simp
theorem atB_len (dss : List (List Dd)) (n : Int) : (atB dss n).length ≤ 12 := by
  unfold atB
  split
  · rw [atL_len]
    have h9 : (eventsB dss).length ≤ 12 := by
      unfold eventsB
      split
      · rename_i hb
        exact (events_law hb).1
      · simp
    exact (chc_len h9).1
  · simp
theorem fwK_len (n : Nat) (rs f : List Int) : ∀ k : Nat, (fwK n rs f k).length = n
  | 0 => by simp [fwK]
  | k + 1 => by rw [fwK, List.length_set, fwK_len n rs f k]
theorem fwB_len (dss : List (List Dd)) (f : List Int) : (fwB dss f).length ≤ 12 := by
  unfold fwB
  split
  · unfold fwL
    rw [fwK_len]
    exact eventsB_le dss
  · simp
end Go.Proofs.Ytkbkdlaknmgjpaa

/- What the law on sources asks of the lists. -/
namespace Go.Proofs.Ytkbkdlaknmgjpaa
open Go.RowKit

theorem idxB_range {f : Ev → Bool} {es : List Ev} (hx : es.length ≤ 12) {i : Nat} (hi : i < (idxB f es).length) : 0 ≤ (idxB f es).getD i 0 ∧ (idxB f es).getD i 0 < (es.length : Int) := by
  have hm : (idxB f es).getD i 0 ∈ idxB f es := by
    rw [List.getD_eq_getElem?_getD, List.getElem?_eq_getElem hi]
    exact List.getElem_mem hi
  unfold idxB at hm ⊢
  rw [if_pos hx] at hm ⊢
  exact idxK_lt f es _ _ hm
theorem rises_nodup : ∀ l : List Int, l.Pairwise (· < ·) → l.Nodup := fun l h => h.imp (fun h e => by omega)
theorem src_all {dss : List (List Dd)} {n : Int} (h0 : 0 ≤ n) (h1 : n < cntB dss) :
    workB dss = true ∧ sourceB dss (atB dss n) = true ∧ (fwB dss (atB dss n)).length = (eventsB dss).length ∧ (idxB rdE (eventsB dss)).length ≤ 12 ∧ (atB dss n).length = (idxB rdE (eventsB dss)).length ∧
    memN (fwB dss (atB dss n)) (eventsB dss).length = (idxB rdE (eventsB dss)).length ∧
    (∀ i, i < (idxB rdE (eventsB dss)).length → ∃ a j : Nat, (atB dss n).getD i 0 = (a : Int) ∧ (idxB rdE (eventsB dss)).getD i 0 = (j : Int) ∧ a < (eventsB dss).length ∧ j < (eventsB dss).length ∧ inSetB ((fwB dss (atB dss n)).getD a 0) j = true ∧ ((eventsB dss).getD a zE).2.2.2.1 = ((eventsB dss).getD j zE).2.2.2.1) ∧
    ∀ m, 0 ≤ m → m < cntB dss → decide (atB dss m = atB dss n) = decide (m = n) := by
  have hb : workB dss = true := by
    cases hb : workB dss with
    | true => rfl
    | false => rw [cntB, hb] at h1; simp at h1; omega
  have hx := eventsB_le dss
  obtain ⟨hf, hn⟩ := chc_full hb
  have hc : cntB dss = cntK (chcL (eventsB dss)) (chcL (eventsB dss)).length := by rw [cntB, if_pos hb]
  have ha : ∀ m, 0 ≤ m → m < cntB dss → atB dss m = atL (chcL (eventsB dss)) m := fun m g0 g1 => by unfold atB; rw [if_pos ⟨g0, g1⟩]
  have hs : srcB (chcL (eventsB dss)) (atB dss n) = true := by rw [ha n h0 h1]; exact at_src hf n
  have hso : sourceB dss (atB dss n) = true := by rw [sourceB, hb, hs]; rfl
  obtain ⟨sl, su⟩ := src_use hx hs
  have hw : fwB dss (atB dss n) = fwK (eventsB dss).length (idxB rdE (eventsB dss)) (atB dss n) (idxB rdE (eventsB dss)).length := by rw [fwB, if_pos hso]; rfl
  have rr : ∀ i, i < (idxB rdE (eventsB dss)).length → 0 ≤ (idxB rdE (eventsB dss)).getD i 0 ∧ (idxB rdE (eventsB dss)).getD i 0 < ((eventsB dss).length : Int) := fun i hi => idxB_range hx hi
  have hnd : (idxB rdE (eventsB dss)).Nodup := by
    unfold idxB
    rw [if_pos hx]
    exact rises_nodup _ (idxK_rises rdE _ _)
  have l12 : (idxB rdE (eventsB dss)).length ≤ 12 := by
    unfold idxB
    rw [if_pos hx]
    have := idxK_len rdE (eventsB dss) (eventsB dss).length
    omega
  have fl := fw_line hx (idxB rdE (eventsB dss)).length rr (fun i hi => (su i hi).1)
  refine ⟨hb, hso, by rw [hw, fwK_len], l12, sl.symm, ?_, fun i hi => ?_, fun m g0 g1 => ?_⟩
  · rw [hw]
    exact fw_count hx hnd _ (Nat.le_refl _) rr (fun i hi => (su i hi).1)
  · obtain ⟨⟨f0, f1⟩, pl⟩ := su i hi
    obtain ⟨r0, r1⟩ := rr i hi
    obtain ⟨a, ea⟩ := Int.eq_ofNat_of_zero_le f0
    obtain ⟨j, ej⟩ := Int.eq_ofNat_of_zero_le r0
    refine ⟨a, j, ea, ej, by omega, by omega, ?_, ?_⟩
    · rw [hw]
      exact (fl.2 a j (by omega)).2 ⟨i, hi, ea, ej⟩
    · unfold plE at pl
      rw [ea, ej, Int.toNat_natCast, Int.toNat_natCast] at pl
      exact pl
  · rw [ha m g0 g1, ha n h0 h1]
    rw [hc] at h1 g1
    exact decide_eq_decide.2 (at_one' hf hn g0 g1 h0 h1)
theorem mem_le (s : Int) : (mem s 12).length ≤ 12 := by
  rw [mem_cnt]
  have := List.countP_le_length (p := fun j : Nat => inSetB s (j : Int)) (l := List.range 12)
  rw [List.length_range] at this
  exact this
theorem memN_le (l : List Int) : ∀ m : Nat, memN l m ≤ 12 * m
  | 0 => by simp [memN]
  | m + 1 => by
    have h1 := memN_le l m
    have h2 := mem_le (l.getD m 0)
    rw [memN]
    omega
end Go.Proofs.Ytkbkdlaknmgjpaa

/- Plain mathematics of tales: what the specification answers at every argument. -/
namespace Go.Proofs.Ytkbkdlaknmgjpaa
open Go.RowKit

def taleB (dss : List (List Dd)) (f rows : List Int) : Bool := sourceB dss f && rowsB dss rows
/-- From each read to all that stand behind what it is from. -/
def agK (n : Nat) (rs f row : List Int) : Nat → List Int
  | 0 => List.replicate n 0
  | k + 1 => (agK n rs f row k).set (rs.getD k 0).toNat (row.getD (f.getD k 0).toNat 0)
def agL (es : List Ev) (f rows : List Int) : List Int := agK es.length (idxB rdE es) f (rwL es rows) (idxB rdE es).length
def agB (dss : List (List Dd)) (f rows : List Int) : List Int := if taleB dss f rows = true then agL (eventsB dss) f rows else []
def vlE (es : List Ev) (x : Int) : Int := (es.getD x.toNat zE).2.2.2.2.1
/-- The value of the last write at each place. -/
def lastK (es : List Ev) (rows : List Int) : Nat → List Int
  | 0 => [0, 0, 0]
  | k + 1 => (lastK es rows k).set (plE es (rows.getD k 0)).toNat (vlE es (rows.getD k 0))
def ocK (es : List Ev) (f : List Int) : Nat → List Int
  | 0 => []
  | k + 1 => ocK es f k ++ [vlE es (f.getD k 0)]
def ocL (es : List Ev) (f rows : List Int) : List Int := ocK es f f.length ++ lastK es rows rows.length
def ocB (dss : List (List Dd)) (f rows : List Int) : List Int := if taleB dss f rows = true then ocL (eventsB dss) f rows else []
def tcB (dss : List (List Dd)) : Int := if workB dss = true then cntB dss * rcntB dss else -1
def taB (dss : List (List Dd)) (n : Int) : Bool := decide (0 ≤ n ∧ n < tcB dss)
def tfB (dss : List (List Dd)) (n : Int) : List Int := if taB dss n = true then atB dss (n / rcntB dss) else []
def trB (dss : List (List Dd)) (n : Int) : List Int := if taB dss n = true then ratB dss (n % rcntB dss) else []
theorem agK_len (n : Nat) (rs f row : List Int) : ∀ k : Nat, (agK n rs f row k).length = n
  | 0 => by simp [agK]
  | k + 1 => by rw [agK, List.length_set, agK_len n rs f row k]
theorem lastK_len (es : List Ev) (rows : List Int) : ∀ k : Nat, (lastK es rows k).length = 3
  | 0 => rfl
  | k + 1 => by rw [lastK, List.length_set, lastK_len es rows k]
theorem ocK_len (es : List Ev) (f : List Int) : ∀ k : Nat, (ocK es f k).length = k
  | 0 => rfl
  | k + 1 => by rw [ocK, List.length_append, ocK_len es f k]; rfl
theorem ocK_get (es : List Ev) (f : List Int) : ∀ (k i : Nat), i < k → (ocK es f k).getD i 0 = vlE es (f.getD i 0)
  | 0, i, h => by omega
  | k + 1, i, h => by
    rw [ocK, List.getD_eq_getElem?_getD]
    by_cases hi : i < k
    · rw [List.getElem?_append_left (by rw [ocK_len]; exact hi), ← List.getD_eq_getElem?_getD, ocK_get es f k i hi]
    · obtain rfl : i = k := by omega
      rw [List.getElem?_append_right (by rw [ocK_len]; exact Nat.le_refl _), ocK_len, Nat.sub_self]
      rfl
theorem web_ag {n : Nat} {rs f row : List Int} (hn : n ≤ 12) (hd : rs.Nodup) (hrow : Web n row) : ∀ k : Nat, k ≤ rs.length → (∀ i, i < k → 0 ≤ rs.getD i 0 ∧ rs.getD i 0 < (n : Int)) → (∀ i, i < k → 0 ≤ f.getD i 0 ∧ f.getD i 0 < (n : Int)) →
    Web n (agK n rs f row k) ∧ ∀ a j : Nat, a < n → (line (agK n rs f row k) a j = true ↔ ∃ i, i < k ∧ rs.getD i 0 = (a : Int) ∧ line row (f.getD i 0).toNat j = true)
  | 0, _, _, _ => ⟨Web.zero hn, fun a j _ => by unfold agK; rw [line_zero]; simp⟩
  | k + 1, hk, hr, hf => by
    obtain ⟨h1, h2⟩ := web_ag hn hd hrow k (by omega) (fun i hi => hr i (by omega)) (fun i hi => hf i (by omega))
    obtain ⟨a0, ha0⟩ := Int.eq_ofNat_of_zero_le (hr k (by omega)).1
    obtain ⟨b0, hb0⟩ := Int.eq_ofNat_of_zero_le (hf k (by omega)).1
    have ha : a0 < n := by have := (hr k (by omega)).2; omega
    have hb : b0 < n := by have := (hf k (by omega)).2; omega
    have e0 : agK n rs f row (k + 1) = (agK n rs f row k).set a0 (row.getD b0 0) := by rw [agK, ha0, hb0, Int.toNat_natCast, Int.toNat_natCast]
    rw [e0]
    refine ⟨h1.set (hrow.2.2 b0 hb), fun a j haa => ?_⟩
    have e1 := h2 a j haa
    unfold line at e1 ⊢
    rw [getD_set _ _ _ _ (by rw [h1.2.1]; exact ha)]
    by_cases e : a0 = a
    · subst e
      simp only [if_true]
      constructor
      · intro h
        refine ⟨k, by omega, ha0, ?_⟩
        rw [hb0, Int.toNat_natCast]
        exact h
      · rintro ⟨i, hi, r1, r2⟩
        have : i = k := nodup_get hd (by omega) (by omega) (by rw [r1, ha0])
        subst this
        rw [hb0, Int.toNat_natCast] at r2
        exact r2
    · simp only [e, if_false]
      rw [e1]
      constructor
      · rintro ⟨i, hi, r⟩
        exact ⟨i, by omega, r⟩
      · rintro ⟨i, hi, r1, r2⟩
        by_cases ei : i = k
        · subst ei; rw [ha0] at r1; omega
        · exact ⟨i, by omega, r1, r2⟩
theorem plW_in {es : List Ev} {rows : List Int} (hx : es.length ≤ 12) (h : rowsL es rows = true) {i : Nat} (hi : i < rows.length) : 0 ≤ plE es (rows.getD i 0) ∧ plE es (rows.getD i 0) ≤ 2 := by
  have hp := rows_perm hx h
  have hm : rows.getD i 0 ∈ rows := by
    rw [List.getD_eq_getElem?_getD, List.getElem?_eq_getElem hi]
    exact List.getElem_mem hi
  have hm := hp.mem_iff.2 hm
  unfold allW at hm
  unfold plE
  rcases List.mem_append.1 hm with hm | hm
  · rcases List.mem_append.1 hm with hm | hm
    · rw [(plcW_mem hx hm).2]; decide
    · rw [(plcW_mem hx hm).2]; decide
  · rw [(plcW_mem hx hm).2]; decide
/-- The last one at its place tells the value. -/
theorem lastK_at {es : List Ev} {rows : List Int} (hx : es.length ≤ 12) (h : rowsL es rows = true) {k : Nat} (hk : k < rows.length) : ∀ m : Nat, k < m → m ≤ rows.length → (∀ q, k < q → q < m → plE es (rows.getD q 0) ≠ plE es (rows.getD k 0)) →
    (lastK es rows m).getD (plE es (rows.getD k 0)).toNat 0 = vlE es (rows.getD k 0)
  | 0, h0, _, _ => by omega
  | m + 1, hm, hl, hq => by
    have p1 := plW_in hx h hk
    have p2 := plW_in hx h (show m < rows.length by omega)
    rw [lastK, getD_set _ _ _ _ (by rw [lastK_len]; omega)]
    by_cases e : m = k
    · subst e; rw [if_pos rfl]
    · have hne := hq m (by omega) (by omega)
      rw [if_neg (by omega)]
      exact lastK_at hx h hk m (by omega) (by omega) (fun q h1 h2 => hq q h1 (by omega))
end Go.Proofs.Ytkbkdlaknmgjpaa

/- What the laws on tales ask of the lists. -/
namespace Go.Proofs.Ytkbkdlaknmgjpaa
open Go.RowKit

theorem idxK_has (f : Ev → Bool) (l : List Ev) {i : Nat} (hf : f (l.getD i zE) = true) : ∀ k : Nat, i < k → (i : Int) ∈ idxK f l k
  | 0, h => by omega
  | k + 1, h => by
    rw [idxK]
    by_cases e : i = k
    · subst e
      rw [if_pos hf]
      exact List.mem_append.2 (.inr (by simp))
    · have ih := idxK_has f l hf k (by omega)
      split
      · exact List.mem_append.2 (.inl ih)
      · exact ih
theorem tale_use {dss : List (List Dd)} {f rows : List Int} (h : taleB dss f rows = true) : workB dss = true ∧ srcB (chcL (eventsB dss)) f = true ∧ rowsL (eventsB dss) rows = true := by
  unfold taleB sourceB rowsB at h
  simp only [Bool.and_eq_true] at h
  exact ⟨h.1.1, h.1.2, h.2.2⟩
theorem ag_law {dss : List (List Dd)} {f rows : List Int} (h : taleB dss f rows = true) :
    agB dss f rows = thenL (backL (fwB dss f)) (rwB dss rows) ∧ (idxB rdE (eventsB dss)).length = f.length ∧ f.length ≤ 12 ∧ (ocB dss f rows).length = (idxB rdE (eventsB dss)).length + 3 ∧ (rwB dss rows).length = (eventsB dss).length ∧
    (∀ i, i < (idxB rdE (eventsB dss)).length → ∃ a : Nat, f.getD i 0 = (a : Int) ∧ a < (eventsB dss).length ∧ (ocB dss f rows).getD i 0 = ((eventsB dss).getD a zE).2.2.2.2.1) ∧
    (∀ i, i < (eventsB dss).length → 0 ≤ ((eventsB dss).getD i zE).2.2.2.1 ∧ ((eventsB dss).getD i zE).2.2.2.1 ≤ 2) ∧
    ∀ i : Nat, i < (eventsB dss).length → ((eventsB dss).getD i zE).2.2.1 = false → (rwB dss rows).getD i 0 = 0 → (ocB dss f rows).getD ((idxB rdE (eventsB dss)).length + ((eventsB dss).getD i zE).2.2.2.1.toNat) 0 = ((eventsB dss).getD i zE).2.2.2.2.1 := by
  obtain ⟨hb, hs, hr⟩ := tale_use h
  have hx := eventsB_12 dss
  obtain ⟨sl, su⟩ := src_use hx hs
  obtain ⟨rn, _, ru⟩ := rows_use hx hr
  have hso : sourceB dss f = true := by rw [sourceB, hb, hs]; rfl
  have hro : rowsB dss rows = true := by rw [rowsB, hb, hr]; rfl
  have e1 : fwB dss f = fwK (eventsB dss).length (idxB rdE (eventsB dss)) f (idxB rdE (eventsB dss)).length := by rw [fwB, if_pos hso]; rfl
  have e2 : rwB dss rows = rwL (eventsB dss) rows := by rw [rwB, if_pos hro]
  have e3 : agB dss f rows = agK (eventsB dss).length (idxB rdE (eventsB dss)) f (rwL (eventsB dss) rows) (idxB rdE (eventsB dss)).length := by rw [agB, if_pos h]; rfl
  have e4 : ocB dss f rows = ocK (eventsB dss) f f.length ++ lastK (eventsB dss) rows rows.length := by rw [ocB, if_pos h]; rfl
  have rr : ∀ i, i < (idxB rdE (eventsB dss)).length → 0 ≤ (idxB rdE (eventsB dss)).getD i 0 ∧ (idxB rdE (eventsB dss)).getD i 0 < ((eventsB dss).length : Int) := fun i hi => idxB_range hx hi
  have hnd : (idxB rdE (eventsB dss)).Nodup := by
    unfold idxB
    rw [if_pos hx]
    exact rises_nodup _ (idxK_rises rdE _ _)
  have l12 : (idxB rdE (eventsB dss)).length ≤ 12 := by
    unfold idxB
    rw [if_pos hx]
    have := idxK_len rdE (eventsB dss) (eventsB dss).length
    omega
  have wr := web_rwAll hx ru rows.length (Nat.le_refl _)
  have wf := fw_line hx (idxB rdE (eventsB dss)).length rr (fun i hi => (su i hi).1)
  have wa := web_ag hx hnd wr.1 (idxB rdE (eventsB dss)).length (Nat.le_refl _) rr (fun i hi => (su i hi).1)
  have wb := web_back wf.1
  have wt := web_then wb.1 wr.1
  have plin : ∀ i, i < (eventsB dss).length → 0 ≤ ((eventsB dss).getD i zE).2.2.2.1 ∧ ((eventsB dss).getD i zE).2.2.2.1 ≤ 2 := fun i hi => by
    have := place_in hb i (by rw [eventsB, if_pos hb] at hi; exact hi)
    rw [eventsB, if_pos hb]
    exact this
  refine ⟨?_, sl, by omega, ?_, ?_, fun i hi => ?_, plin, fun i hi hrd h0 => ?_⟩
  · rw [e3, e1, e2]
    refine Web.ext wa.1 wt.1 (fun a j ha hj => ?_)
    have q : line (agK (eventsB dss).length (idxB rdE (eventsB dss)) f (rwL (eventsB dss) rows) (idxB rdE (eventsB dss)).length) a j = true ↔ line (thenL (backL (fwK (eventsB dss).length (idxB rdE (eventsB dss)) f (idxB rdE (eventsB dss)).length)) (rwL (eventsB dss) rows)) a j = true := by
      rw [show rwL (eventsB dss) rows = rwAll (eventsB dss) rows rows.length from rfl]
      rw [wa.2 a j ha, wt.2 a j ha]
      constructor
      · rintro ⟨i, hi, r1, r2⟩
        obtain ⟨b, hbb⟩ := Int.eq_ofNat_of_zero_le (su i hi).1.1
        have hbl : b < (eventsB dss).length := by have := (su i hi).1.2; omega
        rw [hbb, Int.toNat_natCast] at r2
        refine ⟨b, hbl, ?_, r2⟩
        rw [wb.2 a b ha hbl]
        exact (wf.2 b a hbl).2 ⟨i, hi, hbb, r1⟩
      · rintro ⟨b, hbl, r1, r2⟩
        rw [wb.2 a b ha hbl] at r1
        obtain ⟨i, hi, q1, q2⟩ := (wf.2 b a hbl).1 r1
        refine ⟨i, hi, q2, ?_⟩
        rw [q1, Int.toNat_natCast]
        exact r2
    cases h1 : line (agK (eventsB dss).length (idxB rdE (eventsB dss)) f (rwL (eventsB dss) rows) (idxB rdE (eventsB dss)).length) a j with
    | true => exact (q.1 h1).symm
    | false =>
      cases h2 : line (thenL (backL (fwK (eventsB dss).length (idxB rdE (eventsB dss)) f (idxB rdE (eventsB dss)).length)) (rwL (eventsB dss) rows)) a j with
      | false => rfl
      | true => rw [q.2 h2] at h1; cases h1
  · rw [e4, List.length_append, ocK_len, lastK_len]; omega
  · rw [e2]; exact wr.1.2.1
  · obtain ⟨a, ea⟩ := Int.eq_ofNat_of_zero_le (su i hi).1.1
    refine ⟨a, ea, by have := (su i hi).1.2; omega, ?_⟩
    rw [e4, List.getD_eq_getElem?_getD, List.getElem?_append_left (by rw [ocK_len]; omega), ← List.getD_eq_getElem?_getD, ocK_get _ _ _ _ (by omega)]
    unfold vlE
    rw [ea, Int.toNat_natCast]
  · obtain ⟨p0, p2⟩ := plin i hi
    obtain ⟨p, hp⟩ := Int.eq_ofNat_of_zero_le p0
    have hp3 : p < 3 := by omega
    have hmem : (i : Int) ∈ plcW (eventsB dss) p := by
      unfold plcW idxB
      rw [if_pos hx]
      refine idxK_has _ _ ?_ _ hi
      unfold toE
      rw [hrd, hp]
      simp
    have hall : (i : Int) ∈ allW (eventsB dss) := by
      unfold allW
      have : p = 0 ∨ p = 1 ∨ p = 2 := by omega
      rcases this with rfl | rfl | rfl
      · exact List.mem_append.2 (.inl (List.mem_append.2 (.inl hmem)))
      · exact List.mem_append.2 (.inl (List.mem_append.2 (.inr hmem)))
      · exact List.mem_append.2 (.inr hmem)
    have hin := (rows_perm hx hr).mem_iff.1 hall
    obtain ⟨k, hk, ek⟩ := List.getElem_of_mem hin
    have ek' : rows.getD k 0 = (i : Int) := by rw [List.getD_eq_getElem?_getD, List.getElem?_eq_getElem hk]; exact ek
    have hlast := lastK_at hx hr hk rows.length hk (Nat.le_refl _) (fun q hq hql hpl => by
      have c := row_cell hx hr hk hql
      have t : rwP (eventsB dss) rows k q = true := by
        unfold rwP
        rw [decide_eq_true hq, hpl]
        simp
      rw [t, ek', Int.toNat_natCast] at c
      unfold line at c
      rw [← e2, h0, zero_bit] at c
      cases c)
    unfold plE vlE at hlast
    rw [ek', Int.toNat_natCast] at hlast
    rw [e4, List.getD_eq_getElem?_getD, List.getElem?_append_right (by rw [ocK_len]; omega), ocK_len, ← List.getD_eq_getElem?_getD, show (idxB rdE (eventsB dss)).length + ((eventsB dss).getD i zE).2.2.2.1.toNat - f.length = ((eventsB dss).getD i zE).2.2.2.1.toNat by omega]
    exact hlast
theorem tale_at {dss : List (List Dd)} {n : Int} (h : taB dss n = true) :
    workB dss = true ∧ 0 < rcntB dss ∧ taleB dss (tfB dss n) (trB dss n) = true ∧ tcB dss = cntB dss * rcntB dss ∧ ∀ m, taB dss m = true → (decide (tfB dss m = tfB dss n) && decide (trB dss m = trB dss n)) = decide (m = n) := by
  have hd := h
  unfold taB at hd
  rw [decide_eq_true_eq] at hd
  have hb : workB dss = true := by
    cases hb : workB dss with
    | true => rfl
    | false => rw [tcB, hb] at hd; simp at hd; omega
  have hc : tcB dss = cntB dss * rcntB dss := by rw [tcB, if_pos hb]
  have hrp : 0 < rcntB dss := by
    rw [rcntB, if_pos hb]
    unfold rcntL
    exact Int.mul_pos (Int.mul_pos (fac_pos _) (fac_pos _)) (fac_pos _)
  have rng : ∀ m, taB dss m = true → (0 ≤ m / rcntB dss ∧ m / rcntB dss < cntB dss) ∧ (0 ≤ m % rcntB dss ∧ m % rcntB dss < rcntB dss) := fun m hm => by
    unfold taB at hm
    rw [decide_eq_true_eq, hc] at hm
    exact ⟨⟨Int.ediv_nonneg hm.1 (by omega), Int.ediv_lt_of_lt_mul hrp hm.2⟩, Int.emod_nonneg _ (by omega), Int.emod_lt_of_pos _ hrp⟩
  obtain ⟨⟨a0, a1⟩, b0, b1⟩ := rng n h
  have ef : ∀ m, taB dss m = true → tfB dss m = atB dss (m / rcntB dss) := fun m hm => by unfold tfB; rw [if_pos hm]
  have er : ∀ m, taB dss m = true → trB dss m = ratB dss (m % rcntB dss) := fun m hm => by unfold trB; rw [if_pos hm]
  obtain ⟨_, s1, _, _, _, _, _, s2⟩ := src_all a0 a1
  obtain ⟨_, r1, _, _, _, _, _, r2⟩ := row_all b0 b1
  refine ⟨hb, hrp, by rw [ef n h, er n h, taleB, s1, r1]; rfl, hc, fun m hm => ?_⟩
  obtain ⟨⟨c0, c1⟩, d0, d1⟩ := rng m hm
  rw [ef n h, er n h, ef m hm, er m hm, s2 _ c0 c1, r2 _ d0 d1]
  by_cases e : m = n
  · subst e; simp
  · have : ¬ (m / rcntB dss = n / rcntB dss ∧ m % rcntB dss = n % rcntB dss) := fun q => by
      have x := Int.mul_ediv_add_emod m (rcntB dss)
      have y := Int.mul_ediv_add_emod n (rcntB dss)
      rw [q.1, q.2] at x
      omega
    rw [decide_eq_false e]
    rw [Bool.and_eq_false_iff]
    by_cases e1 : m / rcntB dss = n / rcntB dss
    · exact .inr (decide_eq_false (fun e2 => this ⟨e1, e2⟩))
    · exact .inl (decide_eq_false e1)
end Go.Proofs.Ytkbkdlaknmgjpaa

/- Plain mathematics of webs that are filled, or thinned, line by line by a test; the lines behind one another, and those at one place. -/
namespace Go.Proofs.Ytkbkdlaknmgjpaa
open Go.RowKit

def addIn (p : Nat → Nat → Bool) (i : Nat) (st : List Int) : Nat → List Int
  | 0 => st
  | k + 1 => if p i k = true then (addIn p i st k).set i (gAdd ((addIn p i st k).getD i 0) k) else addIn p i st k
def addAll (p : Nat → Nat → Bool) (n : Nat) : Nat → List Int
  | 0 => List.replicate n 0
  | i + 1 => addIn p i (addAll p n i) n
def bitI (k : Nat) : Int := wrap64 (2 ^ (k : Int).toNat)
def offIn (p : Nat → Nat → Bool) (i : Nat) (st : List Int) : Nat → List Int
  | 0 => st
  | k + 1 => if p i k = true then (offIn p i st k).set i (notI ((offIn p i st k).getD i 0) (bitI k)) else offIn p i st k
def offAll (p : Nat → Nat → Bool) (n : Nat) (st : List Int) : Nat → List Int
  | 0 => st
  | i + 1 => offIn p i (offAll p n st i) n
theorem addIn_hit {p : Nat → Nat → Bool} {i k : Nat} (st : List Int) (h : p i k = true) : addIn p i st (k + 1) = (addIn p i st k).set i (gAdd ((addIn p i st k).getD i 0) k) := if_pos h
theorem addIn_miss {p : Nat → Nat → Bool} {i k : Nat} (st : List Int) (h : p i k = false) : addIn p i st (k + 1) = addIn p i st k := if_neg (by simp [h])
theorem offIn_hit {p : Nat → Nat → Bool} {i k : Nat} (st : List Int) (h : p i k = true) : offIn p i st (k + 1) = (offIn p i st k).set i (notI ((offIn p i st k).getD i 0) (bitI k)) := if_pos h
theorem offIn_miss {p : Nat → Nat → Bool} {i k : Nat} (st : List Int) (h : p i k = false) : offIn p i st (k + 1) = offIn p i st k := if_neg (by simp [h])
/-- As long as the test says no, nothing is filled. -/
theorem addIn_none {p : Nat → Nat → Bool} {i : Nat} (st : List Int) : ∀ k : Nat, (∀ j, j < k → p i j = false) → addIn p i st k = st
  | 0, _ => rfl
  | k + 1, h => by rw [addIn_miss st (h k (by omega))]; exact addIn_none st k (fun j hj => h j (by omega))
theorem offIn_none {p : Nat → Nat → Bool} {i : Nat} (st : List Int) : ∀ k : Nat, (∀ j, j < k → p i j = false) → offIn p i st k = st
  | 0, _ => rfl
  | k + 1, h => by rw [offIn_miss st (h k (by omega))]; exact offIn_none st k (fun j hj => h j (by omega))
theorem bitI_add : ∀ k : Nat, k < 12 → bitI k = gAdd 0 k := by decide +kernel
theorem ok_bit {n k : Nat} (hn : n ≤ 12) (hk : k < n) : okB n (bitI k) = true ∧ ∀ j : Nat, inSetB (bitI k) j = decide (k = j) := by
  rw [bitI_add k (by omega)]
  have h := ok_add (ok_zero hn) hk
  exact ⟨h.1, fun j => by rw [h.2 j, zero_bit]; simp⟩
theorem web_addIn {p : Nat → Nat → Bool} {n i : Nat} {st : List Int} (hi : i < n) (hst : Web n st) : ∀ m : Nat, m ≤ n →
    Web n (addIn p i st m) ∧ ∀ a j : Nat, a < n → line (addIn p i st m) a j = (line st a j || (decide (i = a) && decide (j < m) && p i j))
  | 0, _ => ⟨hst, fun a j _ => by simp [addIn]⟩
  | m + 1, hm => by
    have ih := web_addIn hi hst m (by omega) (p := p)
    cases hp : p i m with
    | false =>
      rw [addIn_miss st hp]
      refine ⟨ih.1, fun a j ha => ?_⟩
      rw [ih.2 a j ha]
      by_cases e : j = m
      · subst e; simp [hp]
      · have d : decide (j < m + 1) = decide (j < m) := decide_eq_decide.2 (by omega)
        rw [d]
    | true =>
      rw [addIn_hit st hp]
      have ha := ok_add (ih.1.2.2 i hi) (show m < n by omega)
      refine ⟨ih.1.set ha.1, fun a j haa => ?_⟩
      have e1 := ih.2 a j haa
      unfold line at e1 ⊢
      rw [getD_set _ _ _ _ (by rw [ih.1.2.1]; exact hi)]
      by_cases e : i = a
      · subst e
        simp only [if_true]
        rw [ha.2 j, e1]
        by_cases e2 : m = j
        · subst e2; simp [hp]
        · have d : decide (j < m + 1) = decide (j < m) := decide_eq_decide.2 (by omega)
          rw [d]; simp [e2]
      · simp only [e, if_false]; rw [e1]; simp [e]
theorem web_addAll {p : Nat → Nat → Bool} {n : Nat} (hn : n ≤ 12) : ∀ m : Nat, m ≤ n →
    Web n (addAll p n m) ∧ ∀ a j : Nat, a < n → line (addAll p n m) a j = (decide (a < m) && decide (j < n) && p a j)
  | 0, _ => ⟨Web.zero hn, fun a j _ => by unfold addAll; rw [line_zero]; simp⟩
  | m + 1, hm => by
    have ih := web_addAll hn m (by omega) (p := p)
    have h1 := web_addIn (p := p) (show m < n by omega) ih.1 n (Nat.le_refl _)
    refine ⟨h1.1, fun a j ha => ?_⟩
    show line (addIn p m (addAll p n m) n) a j = _
    rw [h1.2 a j ha, ih.2 a j ha]
    by_cases e : m = a
    · subst e; simp
    · have d : decide (a < m + 1) = decide (a < m) := decide_eq_decide.2 (by omega)
      rw [d]; simp [e]
theorem web_offIn {p : Nat → Nat → Bool} {n i : Nat} {st : List Int} (hi : i < n) (hst : Web n st) : ∀ m : Nat, m ≤ n →
    Web n (offIn p i st m) ∧ ∀ a j : Nat, a < n → line (offIn p i st m) a j = (line st a j && !(decide (i = a) && decide (j < m) && p i j))
  | 0, _ => ⟨hst, fun a j _ => by simp [offIn]⟩
  | m + 1, hm => by
    have ih := web_offIn hi hst m (by omega) (p := p)
    cases hp : p i m with
    | false =>
      rw [offIn_miss st hp]
      refine ⟨ih.1, fun a j ha => ?_⟩
      rw [ih.2 a j ha]
      by_cases e : j = m
      · subst e; simp [hp]
      · have d : decide (j < m + 1) = decide (j < m) := decide_eq_decide.2 (by omega)
        rw [d]
    | true =>
      rw [offIn_hit st hp]
      have hb := ok_bit hst.1 (show m < n by omega)
      have ha := ok_not (ih.1.2.2 i hi) hb.1
      refine ⟨ih.1.set ha.1, fun a j haa => ?_⟩
      have e1 := ih.2 a j haa
      unfold line at e1 ⊢
      rw [getD_set _ _ _ _ (by rw [ih.1.2.1]; exact hi)]
      by_cases e : i = a
      · subst e
        simp only [if_true]
        rw [ha.2 j, e1, hb.2 j]
        by_cases e2 : m = j
        · subst e2; simp [hp]
        · have d : decide (j < m + 1) = decide (j < m) := decide_eq_decide.2 (by omega)
          rw [d]; simp [e2]
      · simp only [e, if_false]; rw [e1]; simp [e]
theorem web_offAll {p : Nat → Nat → Bool} {n : Nat} {st : List Int} (hst : Web n st) : ∀ m : Nat, m ≤ n →
    Web n (offAll p n st m) ∧ ∀ a j : Nat, a < n → line (offAll p n st m) a j = (line st a j && !(decide (a < m) && decide (j < n) && p a j))
  | 0, _ => ⟨hst, fun a j _ => by simp [offAll]⟩
  | m + 1, hm => by
    have ih := web_offAll hst m (by omega) (p := p)
    have h1 := web_offIn (p := p) (show m < n by omega) ih.1 n (Nat.le_refl _)
    refine ⟨h1.1, fun a j ha => ?_⟩
    show line (offIn p m (offAll p n st m) n) a j = _
    rw [h1.2 a j ha, ih.2 a j ha]
    by_cases e : m = a
    · subst e; simp
    · have d : decide (a < m + 1) = decide (a < m) := decide_eq_decide.2 (by omega)
      rw [d]; simp [e]
/-- Does event k stand behind event i? -/
def behP (es : List Ev) (i k : Nat) : Bool := decide (i < k) && ((decide (i < 3) && decide (3 ≤ k)) || (decide (3 ≤ i) && ((es.getD i zE).1 == (es.getD k zE).1)))
def behL (es : List Ev) : List Int := addAll (behP es) es.length es.length
/-- Are they at two places? -/
def plcP (es : List Ev) (i k : Nat) : Bool := (es.getD i zE).2.2.2.1 != (es.getD k zE).2.2.2.1
def plcL (es : List Ev) : List Int := offAll (plcP es) es.length (behL es) es.length
theorem behP_up {es : List Ev} {i j : Nat} (h : j ≤ i) : behP es i j = false := by unfold behP; simp; omega
theorem beh_line {es : List Ev} (h : es.length ≤ 12) : Web es.length (behL es) ∧ ∀ a j : Nat, a < es.length → line (behL es) a j = (decide (j < es.length) && behP es a j) := by
  have h1 := web_addAll (p := behP es) h es.length (Nat.le_refl _)
  exact ⟨h1.1, fun a j ha => by unfold behL; rw [h1.2 a j ha]; simp [ha]⟩
theorem plc_line {es : List Ev} (h : es.length ≤ 12) : Web es.length (plcL es) ∧ ∀ a j : Nat, a < es.length → line (plcL es) a j = (decide (j < es.length) && behP es a j && !plcP es a j) := by
  have h1 := beh_line h
  have h2 := web_offAll (p := plcP es) h1.1 es.length (Nat.le_refl _)
  refine ⟨h2.1, fun a j ha => ?_⟩
  unfold plcL
  rw [h2.2 a j ha, h1.2 a j ha]
  by_cases hj : j < es.length
  · simp [ha, hj]
  · simp [hj]
end Go.Proofs.Ytkbkdlaknmgjpaa

/- Plain mathematics: is a deed a swap or of a Group; does a wait stand between two deeds. -/
namespace Go.Proofs.Ytkbkdlaknmgjpaa

/-- Is that deed a swap or of a Group? -/
def wholeD (d : Dd) : Bool := (d.1 == 3) || decide (0 < d.2.2.2)
/-- Does a wait stand between the deeds lo and hi? -/
def waitsD (ds : List Dd) (lo hi : Nat) : Bool := (List.range hi).any (fun j => decide (lo < j) && ((ds.getD j zD).1 == 4))
theorem waitsD_no {ds : List Dd} {lo hi : Nat} (h : ∀ j, lo < j → j < hi → (ds.getD j zD).1 ≠ 4) : waitsD ds lo hi = false := by
  unfold waitsD
  rw [List.any_eq_false]
  intro j hj
  rw [List.mem_range] at hj
  by_cases hl : lo < j
  · have := h j hl hj
    simp [hl]; simpa using this
  · simp [hl]
theorem waitsD_yes {ds : List Dd} {lo hi j : Nat} (h1 : lo < j) (h2 : j < hi) (h : (ds.getD j zD).1 = 4) : waitsD ds lo hi = true := by
  unfold waitsD
  rw [List.any_eq_true]
  exact ⟨j, List.mem_range.2 h2, by simp only [h]; simp [h1]⟩
end Go.Proofs.Ytkbkdlaknmgjpaa

/- Plain mathematics of the lines that slow ink keeps. -/
namespace Go.Proofs.Ytkbkdlaknmgjpaa
open Go.RowKit

def dOf (dss : List (List Dd)) (e : Ev) : Dd := (dss.getD e.1.toNat []).getD e.2.1.toNat zD
/-- What is not kept: a write ahead of a read of another class, with no wait between them, neither of a swap or a Group. -/
def kepQ (dss : List (List Dd)) (a b : Ev) : Bool := !(rdE a) && rdE b && (csE a != csE b) && (!waitsD (dss.getD a.1.toNat []) a.2.1.toNat b.2.1.toNat && !wholeD (dOf dss a) && !wholeD (dOf dss b))
def kepP (dss : List (List Dd)) (es : List Ev) (i k : Nat) : Bool := decide (3 ≤ i) && behP es i k && kepQ dss (es.getD i zE) (es.getD k zE)
def kepL (dss : List (List Dd)) (es : List Ev) : List Int := offAll (kepP dss es) es.length (behL es) es.length
theorem kepP_up {dss : List (List Dd)} {es : List Ev} {i j : Nat} (h : j ≤ i) : kepP dss es i j = false := by unfold kepP; rw [behP_up h]; simp
theorem kep_line {dss : List (List Dd)} {es : List Ev} (h : es.length ≤ 12) : Web es.length (kepL dss es) ∧ ∀ a j : Nat, a < es.length → line (kepL dss es) a j = (decide (j < es.length) && behP es a j && !kepP dss es a j) := by
  have h1 := beh_line h
  have h2 := web_offAll (p := kepP dss es) h1.1 es.length (Nat.le_refl _)
  refine ⟨h2.1, fun a j ha => ?_⟩
  unfold kepL
  rw [h2.2 a j ha, h1.2 a j ha]
  by_cases hj : j < es.length
  · simp [ha, hj]
  · simp [hj]
/-- Nothing is taken from the first three. -/
theorem kep_three {dss : List (List Dd)} {es : List Ev} : ∀ k : Nat, k ≤ 3 → offAll (kepP dss es) es.length (behL es) k = behL es
  | 0, _ => rfl
  | k + 1, h => by
    rw [offAll, kep_three k (by omega)]
    exact offIn_none _ _ (fun j _ => by unfold kepP; simp; omega)
/-- A line that is met has not been taken yet. -/
theorem kep_has {dss : List (List Dd)} {es : List Ev} (hn : es.length ≤ 12) {k m : Nat} (hk : k < es.length) (hm : m < es.length) :
    inSetB ((offIn (kepP dss es) k (offAll (kepP dss es) es.length (behL es) k) m).getD k 0) m = behP es k m := by
  have h1 := beh_line hn
  have h2 := web_offAll (p := kepP dss es) h1.1 k (by omega)
  have h3 := web_offIn (p := kepP dss es) hk h2.1 m (by omega)
  have e3 := h3.2 k m hk
  rw [h2.2 k m hk, h1.2 k m hk] at e3
  unfold line at e3
  rw [e3]
  simp [hm]
end Go.Proofs.Ytkbkdlaknmgjpaa

/- Plain mathematics: in which order the events of one clerk stand. -/
namespace Go.Proofs.Ytkbkdlaknmgjpaa
open Go.RowKit

/-- Of two events of one clerk the later one is of a later deed, or both are of one swap. -/
def OrdE (dss : List (List Dd)) (a b : Ev) : Prop := a.1 = b.1 → 0 ≤ a.1 → a.2.1 < b.2.1 ∨ (a.2.1 = b.2.1 ∧ (dOf dss a).1 = 3)
theorem one_ord {dss : List (List Dd)} {i k : Nat} {c : Int} (d : Dd) (hd : d = (dss.getD i []).getD k zD) : (oneE i k d c).Pairwise (OrdE dss) ∧ ∀ e ∈ oneE i k d c, e.1 = (i : Int) ∧ e.2.1 = (k : Int) ∧ (dOf dss e).1 ≠ 4 := by
  have key : ∀ e : Ev, e.1 = (i : Int) → e.2.1 = (k : Int) → dOf dss e = d := fun e h1 h2 => by
    unfold dOf
    rw [h1, h2, Int.toNat_natCast, Int.toNat_natCast]
    exact hd.symm
  have h1 : ∀ e ∈ oneE i k d c, e.1 = (i : Int) ∧ e.2.1 = (k : Int) := by
    intro e he
    unfold oneE at he
    split at he
    · simp at he
    · split at he
      · simp only [List.mem_cons, List.not_mem_nil, or_false] at he
        rcases he with rfl | rfl <;> exact ⟨rfl, rfl⟩
      · split at he
        · simp only [List.mem_cons, List.not_mem_nil, or_false] at he
          subst he; exact ⟨rfl, rfl⟩
        · simp only [List.mem_cons, List.not_mem_nil, or_false] at he
          subst he; exact ⟨rfl, rfl⟩
  refine ⟨?_, fun e he => ⟨(h1 e he).1, (h1 e he).2, ?_⟩⟩
  · have h1' := h1
    unfold oneE at h1' ⊢
    split
    · exact List.Pairwise.nil
    · rename_i h4
      rw [if_neg h4] at h1'
      split
      · rename_i h3
        rw [if_pos h3] at h1'
        rw [List.pairwise_cons]
        refine ⟨fun b hb => ?_, by simp⟩
        simp only [List.mem_cons, List.not_mem_nil, or_false] at hb
        subst hb
        intro _ _
        refine .inr ⟨rfl, ?_⟩
        rw [key _ rfl rfl]
        exact h3
      · split <;> simp
  · rw [key e (h1 e he).1 (h1 e he).2]
    intro h4
    unfold oneE at he
    rw [if_pos h4] at he
    simp at he
theorem clk_ord {dss : List (List Dd)} {i : Nat} {out : List Ev} (ho : out.Pairwise (OrdE dss)) (hl : ∀ e ∈ out, e.1 < (i : Int)) (h4 : ∀ e ∈ out, 0 ≤ e.1 → (dOf dss e).1 ≠ 4) : ∀ k : Nat,
    (clkE i (dss.getD i []) out k).1.Pairwise (OrdE dss) ∧ (∀ e ∈ (clkE i (dss.getD i []) out k).1, e.1 < (i : Int) ∨ (e.1 = (i : Int) ∧ e.2.1 < (k : Int))) ∧ ∀ e ∈ (clkE i (dss.getD i []) out k).1, 0 ≤ e.1 → (dOf dss e).1 ≠ 4
  | 0 => ⟨ho, fun e he => .inl (hl e he), h4⟩
  | k + 1 => by
    obtain ⟨h1, h2, h3⟩ := clk_ord ho hl h4 k
    rw [clkE, stepE]
    split
    · refine ⟨h1, fun e he => ?_, h3⟩
      rcases h2 e he with h | ⟨h, h'⟩
      · exact .inl h
      · exact .inr ⟨h, by omega⟩
    · obtain ⟨g1, g2⟩ := one_ord (dss := dss) (i := i) (k := k) (c := clsE ((dss.getD i []).getD k zD).2.2.2 (clkE i (dss.getD i []) out k).1.length (clkE i (dss.getD i []) out k).2) _ rfl
      refine ⟨?_, fun e he => ?_, fun e he => ?_⟩
      · simp only
        rw [List.pairwise_append]
        refine ⟨h1, g1, fun a ha b hb => ?_⟩
        intro he _
        obtain ⟨b1, b2, _⟩ := g2 b hb
        rcases h2 a ha with h | ⟨h, h'⟩
        · omega
        · left; omega
      · rcases List.mem_append.1 he with he | he
        · rcases h2 e he with h | ⟨h, h'⟩
          · exact .inl h
          · exact .inr ⟨h, by omega⟩
        · obtain ⟨b1, b2, _⟩ := g2 e he
          exact .inr ⟨b1, by omega⟩
      · rcases List.mem_append.1 he with he | he
        · exact h3 e he
        · exact fun _ => (g2 e he).2.2
theorem evs_ord (dss : List (List Dd)) : ∀ n : Nat, (evsW dss n).Pairwise (OrdE dss) ∧ (∀ e ∈ evsW dss n, e.1 < (n : Int)) ∧ ∀ e ∈ evsW dss n, 0 ≤ e.1 → (dOf dss e).1 ≠ 4
  | 0 => by
    have neg : ∀ e ∈ evBeg, e.1 = -1 := by
      intro e he
      simp only [evBeg, List.mem_cons, List.not_mem_nil, or_false] at he
      rcases he with rfl | rfl | rfl <;> rfl
    refine ⟨?_, fun e he => by rw [neg e he]; omega, fun e he h0 => by rw [neg e he] at h0; omega⟩
    refine List.Pairwise.imp_of_mem (R := fun _ _ => True) ?_ (List.pairwise_of_forall (fun _ _ => trivial))
    intro a b ha _ _
    intro _ h0
    rw [neg a ha] at h0
    omega
  | n + 1 => by
    obtain ⟨h1, h2, h3⟩ := evs_ord dss n
    obtain ⟨g1, g2, g3⟩ := clk_ord (i := n) h1 h2 h3 (dss.getD n []).length
    rw [evsW]
    exact ⟨g1, fun e he => by rcases g2 e he with h | ⟨h, _⟩ <;> omega, g3⟩
end Go.Proofs.Ytkbkdlaknmgjpaa

/- Plain mathematics of Waited: waits between each two deeds, and no groups. -/
namespace Go.Proofs.Ytkbkdlaknmgjpaa

def waitD : Dd := (4, 0, 0, 0)
def bareD (d : Dd) : Dd := (d.1, d.2.1, d.2.2.1, 0)
/-- What Waited has made of the first k deeds of a clerk. -/
def waitK (ds : List Dd) : Nat → List Dd
  | 0 => []
  | k + 1 => if (ds.getD k zD).1 = 4 then waitK ds k else if waitK ds k = [] then [bareD (ds.getD k zD)] else waitK ds k ++ [waitD] ++ [bareD (ds.getD k zD)]
def waitC (ds : List Dd) : List Dd := waitK ds ds.length
def waitW (dss : List (List Dd)) : List (List Dd) := dss.map waitC
def waitB (dss : List (List Dd)) : List (List Dd) := if workB dss = true then (if workB (waitW dss) = true then waitW dss else []) else []
def btw : List Dd → List Dd
  | [] => []
  | [d] => [d]
  | d :: e :: r => d :: waitD :: btw (e :: r)
def strip : List Dd → List Dd
  | [] => []
  | d :: r => if d.1 = 4 then strip r else bareD d :: strip r
theorem btw_cons (d : Dd) {r : List Dd} (h : r ≠ []) : btw (d :: r) = d :: waitD :: btw r := by
  cases r with
  | nil => exact absurd rfl h
  | cons e r => rfl
theorem btw_snoc (d : Dd) : ∀ {l : List Dd}, l ≠ [] → btw (l ++ [d]) = btw l ++ [waitD] ++ [d]
  | [], h => absurd rfl h
  | [e], _ => rfl
  | e :: f :: r, _ => by
    rw [List.cons_append, btw_cons e (by simp), btw_snoc d (l := f :: r) (by simp), btw_cons e (by simp)]
    simp
theorem btw_nil {l : List Dd} : btw l = [] ↔ l = [] := by
  cases l with
  | nil => simp [btw]
  | cons d r =>
    cases r with
    | nil => simp [btw]
    | cons e r => simp [btw]
theorem strip_app : ∀ (l m : List Dd), strip (l ++ m) = strip l ++ strip m
  | [], m => by simp [strip]
  | d :: r, m => by
    rw [List.cons_append, strip, strip, strip_app r m]
    split
    · rfl
    · rfl
theorem take_moreW {α : Type} (l : List α) (k : Nat) (z : α) (h : k < l.length) : l.take (k + 1) = l.take k ++ [l.getD k z] := by
  rw [List.take_add_one, List.getElem?_eq_getElem h, List.getD_eq_getElem?_getD, List.getElem?_eq_getElem h]
  rfl
theorem waitK_btw (ds : List Dd) : ∀ k : Nat, k ≤ ds.length → waitK ds k = btw (strip (ds.take k))
  | 0, _ => by simp [waitK, strip, btw]
  | k + 1, h => by
    rw [waitK, waitK_btw ds k (by omega), take_moreW ds k zD (by omega), strip_app]
    simp only [strip]
    split
    · simp
    · split
      · rename_i h0
        rw [btw_nil] at h0
        rw [h0]
        rfl
      · rename_i h0
        rw [btw_nil] at h0
        rw [btw_snoc _ h0]
theorem waitC_btw (ds : List Dd) : waitC ds = btw (strip ds) := by
  rw [waitC, waitK_btw ds _ (Nat.le_refl _), List.take_length]
def bareB (l : List Dd) : Prop := ∀ d, d ∈ l → d.1 ≠ 4 ∧ d.2.2.2 = 0
theorem strip_bare : ∀ l : List Dd, bareB (strip l)
  | [] => by simp [bareB, strip]
  | d :: r => by
    have ih := strip_bare r
    rw [strip]
    split
    · exact ih
    · rename_i h
      intro x hx
      rcases List.mem_cons.1 hx with rfl | hx
      · exact ⟨h, rfl⟩
      · exact ih x hx
theorem bareD_same {d : Dd} (h : d.2.2.2 = 0) : bareD d = d := by
  obtain ⟨a, b, c, e⟩ := d
  simp only at h
  subst h
  rfl
theorem strip_btw : ∀ {l : List Dd}, bareB l → strip (btw l) = l
  | [], _ => rfl
  | [d], h => by
    have h1 := h d (by simp)
    simp only [btw, strip]
    rw [if_neg h1.1, bareD_same h1.2]
  | d :: e :: r, h => by
    have h1 := h d (by simp)
    have ih := strip_btw (l := e :: r) (fun x hx => h x (by simp only [List.mem_cons] at hx ⊢; exact .inr hx))
    rw [btw_cons d (by simp), strip, if_neg h1.1, bareD_same h1.2, strip, if_pos (show waitD.1 = 4 from rfl), ih]
/-- What is waited stays so. -/
theorem waitC_twice (ds : List Dd) : waitC (waitC ds) = waitC ds := by
  rw [waitC_btw, waitC_btw, strip_btw (strip_bare ds)]
theorem waitW_twice (dss : List (List Dd)) : waitW (waitW dss) = waitW dss := by
  simp only [waitW, List.map_map]
  congr 1
  funext ds
  exact waitC_twice ds
def evS (ds : List Dd) : Int := (ds.map evD).sum
theorem evK_take (ds : List Dd) : ∀ k : Nat, k ≤ ds.length → evK ds k = evS (ds.take k)
  | 0, _ => by simp [evK, evS]
  | k + 1, h => by
    rw [evK, evK_take ds k (by omega), take_moreW ds k zD (by omega)]
    simp [evS]
theorem evK_sum (ds : List Dd) : evK ds ds.length = evS ds := by rw [evK_take ds _ (Nat.le_refl _), List.take_length]
theorem evD_bare (d : Dd) : evD (bareD d) = evD d := rfl
theorem evS_strip : ∀ l : List Dd, evS (strip l) = evS l
  | [] => rfl
  | d :: r => by
    have ih := evS_strip r
    rw [strip]
    split
    · rename_i h
      rw [ih]
      simp [evS, evD, h]
    · simp only [evS, List.map_cons, List.sum_cons, evD_bare] at ih ⊢
      rw [ih]
theorem evS_btw : ∀ l : List Dd, evS (btw l) = evS l
  | [] => rfl
  | [d] => rfl
  | d :: e :: r => by
    have ih := evS_btw (e :: r)
    rw [btw_cons d (by simp)]
    simp only [evS, List.map_cons, List.sum_cons] at ih ⊢
    rw [ih]
    simp [evD, waitD]
theorem evS_wait (ds : List Dd) : evS (waitC ds) = evS ds := by rw [waitC_btw, evS_btw, evS_strip]
theorem evW_map (dss : List (List Dd)) (f : List Dd → List Dd) (hf : ∀ ds, evS (f ds) = evS ds) (h0 : f [] = []) : ∀ i : Nat, evW (dss.map f) i = evW dss i
  | 0 => rfl
  | i + 1 => by
    have e1 : (dss.map f).getD i [] = f (dss.getD i []) := by
      rw [List.getD_eq_getElem?_getD, List.getElem?_map, List.getD_eq_getElem?_getD]
      cases dss[i]? with
      | none => exact h0.symm
      | some x => rfl
    rw [evW, evW, evW_map dss f hf h0 i, e1, evK_sum, evK_sum, hf]
/-- A waited work has as many events. -/
theorem evW_wait (dss : List (List Dd)) : evW (waitW dss) (waitW dss).length = evW dss dss.length := by
  rw [waitW, List.length_map, evW_map dss waitC evS_wait rfl]
theorem waitK_pre (ds : List Dd) (k : Nat) : ∀ n : Nat, k ≤ n → ∃ t, waitK ds n = waitK ds k ++ t
  | 0, h => by
    obtain rfl : k = 0 := by omega
    exact ⟨[], by simp⟩
  | n + 1, h => by
    by_cases e : k = n + 1
    · subst e; exact ⟨[], by simp⟩
    · obtain ⟨t, ht⟩ := waitK_pre ds k n (by omega)
      rw [waitK]
      split
      · exact ⟨t, ht⟩
      · split
        · rename_i h0
          rw [h0] at ht
          have h1 : waitK ds k = [] := by
            cases hw : waitK ds k with
            | nil => rfl
            | cons a b => rw [hw] at ht; cases ht
          rw [h1]
          exact ⟨_, rfl⟩
        · rw [ht]
          exact ⟨t ++ [waitD] ++ [bareD (ds.getD n zD)], by simp⟩
theorem waitK_len (ds : List Dd) : ∀ k : Nat, (waitK ds k).length ≤ 2 * k
  | 0 => by simp [waitK]
  | k + 1 => by
    have ih := waitK_len ds k
    rw [waitK]
    split
    · omega
    · split
      · simp; omega
      · simp; omega
end Go.Proofs.Ytkbkdlaknmgjpaa

/- What the law on kept lines asks: they are of those behind, which do not go round and go on by themselves; of a waited work all are kept. -/
namespace Go.Proofs.Ytkbkdlaknmgjpaa
open Go.RowKit

theorem kep_in {dss : List (List Dd)} {es : List Ev} (h : es.length ≤ 12) : inL (kepL dss es) (behL es) = true := by
  have h1 := beh_line h
  have h2 := kep_line (dss := dss) h
  refine inL_web h2.1 h1.1 (fun i j hi hj hl => ?_)
  rw [h2.2 i j hi] at hl
  rw [h1.2 i j hi]
  simp only [Bool.and_eq_true] at hl ⊢
  exact hl.1
theorem plc_in {es : List Ev} (h : es.length ≤ 12) : inL (plcL es) (behL es) = true := by
  have h1 := beh_line h
  have h2 := plc_line h
  refine inL_web h2.1 h1.1 (fun i j hi hj hl => ?_)
  rw [h2.2 i j hi] at hl
  rw [h1.2 i j hi]
  simp only [Bool.and_eq_true] at hl ⊢
  exact hl.1
theorem behP_lt {es : List Ev} {i j : Nat} (h : behP es i j = true) : i < j := by
  apply Classical.byContradiction
  intro hn
  rw [behP_up (by omega)] at h
  cases h
theorem behP_trans {es : List Ev} {i k j : Nat} (h1 : behP es i k = true) (h2 : behP es k j = true) : behP es i j = true := by
  have a := behP_lt h1
  have b := behP_lt h2
  unfold behP at h1 h2 ⊢
  simp only [Bool.and_eq_true, Bool.or_eq_true, decide_eq_true_eq, beq_iff_eq] at h1 h2 ⊢
  refine ⟨by omega, ?_⟩
  rcases h1.2 with ⟨h3, h4⟩ | ⟨h3, h4⟩
  · exact .inl ⟨h3, by omega⟩
  · rcases h2.2 with ⟨h5, h6⟩ | ⟨h5, h6⟩
    · omega
    · exact .inr ⟨h3, h4.trans h6⟩
theorem beh_on {es : List Ev} (h : es.length ≤ 12) : inL (thenL (behL es) (behL es)) (behL es) = true := by
  have h1 := beh_line h
  have h2 := web_then h1.1 h1.1
  refine inL_web h2.1 h1.1 (fun i j hi hj hl => ?_)
  obtain ⟨k, hk, a, b⟩ := (h2.2 i j hi).1 hl
  rw [h1.2 i k hi] at a
  rw [h1.2 k j hk] at b
  rw [h1.2 i j hi]
  simp only [Bool.and_eq_true, decide_eq_true_eq] at a b ⊢
  exact ⟨hj, behP_trans a.2 b.2⟩
theorem beh_way {es : List Ev} (h : es.length ≤ 12) {i j : Nat} (hi : i < es.length) (hw : Way (behL es) i j) : i < j := by
  have h1 := beh_line h
  have step : ∀ a b, a < es.length → line (behL es) a b = true → a < b := fun a b ha hl => by
    rw [h1.2 a b ha] at hl
    simp only [Bool.and_eq_true] at hl
    exact behP_lt hl.2
  induction hw with
  | one h2 => exact step _ _ hi h2
  | more h2 g ih =>
    have a := ih
    have b := step _ _ (h2.lt h1.1 hi) g
    omega
theorem beh_round {es : List Ev} (h : es.length ≤ 12) : roundB (behL es) = false := by
  cases hr : roundB (behL es) with
  | false => rfl
  | true =>
    obtain ⟨i, hi, hw⟩ := (round_iff (beh_line h).1).1 hr
    have := beh_way h hi hw
    omega
theorem btw_odd : ∀ (l : List Dd) (m : Nat), 2 * m + 1 < (btw l).length → (btw l).getD (2 * m + 1) zD = waitD
  | [], m, h => by simp [btw] at h
  | [d], m, h => by simp [btw] at h
  | d :: e :: r, 0, h => by rw [btw_cons d (by simp)]; rfl
  | d :: e :: r, m + 1, h => by
    rw [btw_cons d (by simp)] at h ⊢
    have ih := btw_odd (e :: r) m (by simp at h; omega)
    rw [show 2 * (m + 1) + 1 = (2 * m + 1) + 1 + 1 by omega, List.getD_cons_succ, List.getD_cons_succ]
    exact ih
/-- In a list that is waited a wait stands between each two other deeds. -/
theorem wait_between {ds : List Dd} {lo hi : Nat} (h : lo < hi) (hh : hi < (waitC ds).length) (h1 : ((waitC ds).getD lo zD).1 ≠ 4) (h2 : ((waitC ds).getD hi zD).1 ≠ 4) : waitsD (waitC ds) lo hi = true := by
  rw [waitC_btw] at hh h1 h2 ⊢
  have even : ∀ q, q < (btw (strip ds)).length → ((btw (strip ds)).getD q zD).1 ≠ 4 → q % 2 = 0 := by
    intro q hq hn
    apply Classical.byContradiction
    intro ho
    have e : q = 2 * (q / 2) + 1 := by omega
    rw [e] at hq hn
    rw [btw_odd _ _ hq] at hn
    exact hn rfl
  have a := even lo (by omega) h1
  have b := even hi hh h2
  have e : lo + 1 = 2 * (lo / 2) + 1 := by omega
  refine waitsD_yes (j := lo + 1) (by omega) (by omega) ?_
  rw [e, btw_odd _ _ (by omega)]
  rfl
/-- Of a waited work all lines behind are kept. -/
theorem kept_waited {dss : List (List Dd)} (hw : workB (waitW dss) = true) : kepL (waitW dss) (eventsB (waitW dss)) = behL (eventsB (waitW dss)) := by
  obtain ⟨h12, _, _, _, hG⟩ := events_law hw
  have e1 : eventsB (waitW dss) = evsW (waitW dss) (waitW dss).length := by rw [eventsB, if_pos hw]
  rw [e1]
  obtain ⟨ho, _, hN⟩ := evs_ord (waitW dss) (waitW dss).length
  generalize evsW (waitW dss) (waitW dss).length = es at h12 hG ho hN
  have b1 := beh_line h12
  have k1 := kep_line (dss := waitW dss) h12
  refine Web.ext k1.1 b1.1 (fun i j hi hj => ?_)
  rw [k1.2 i j hi, b1.2 i j hi]
  suffices hs : behP es i j = true → kepP (waitW dss) es i j = false by
    cases hb : behP es i j with
    | false => simp
    | true => rw [hs hb]; simp
  intro hb
  cases hk : kepP (waitW dss) es i j with
  | false => rfl
  | true =>
    exfalso
    have hij := behP_lt hb
    unfold kepP kepQ at hk
    simp only [Bool.and_eq_true, decide_eq_true_eq, Bool.not_eq_true'] at hk
    obtain ⟨⟨h3, _⟩, ⟨⟨h4, h5⟩, _⟩, ⟨h6, h7⟩, h8⟩ := hk
    have hcl : (es.getD i zE).1 = (es.getD j zE).1 := by
      unfold behP at hb
      simp only [Bool.and_eq_true, Bool.or_eq_true, decide_eq_true_eq, beq_iff_eq] at hb
      rcases hb.2 with h | h
      · omega
      · exact h.2
    obtain ⟨ci, qi, _, _, _, ei, hci, hqi, _⟩ := hG i h3 hi
    obtain ⟨cj, qj, _, _, _, ej, hcj, hqj, _⟩ := hG j (by omega) hj
    have xi : es[i]? = some (es.getD i zE) := by rw [List.getD_eq_getElem?_getD, List.getElem?_eq_getElem hi]; rfl
    have xj : es[j]? = some (es.getD j zE) := by rw [List.getD_eq_getElem?_getD, List.getElem?_eq_getElem hj]; rfl
    have mi : es.getD i zE ∈ es := List.mem_of_getElem? xi
    have mj : es.getD j zE ∈ es := List.mem_of_getElem? xj
    have hord : OrdE (waitW dss) (es.getD i zE) (es.getD j zE) := by
      have := List.pairwise_iff_getElem.1 ho i j hi hj hij
      rw [List.getElem?_eq_getElem hi] at xi
      rw [List.getElem?_eq_getElem hj] at xj
      rw [Option.some.inj xi, Option.some.inj xj] at this
      exact this
    have gi := Option.some.inj (xi.symm.trans ei)
    have gj := Option.some.inj (xj.symm.trans ej)
    have hni := hN _ mi
    have hnj := hN _ mj
    clear hN ho hG xi xj mi mj ei ej
    generalize es.getD i zE = a at gi h4 h6 h7 hcl hord hni
    generalize es.getD j zE = b at gj h5 h6 h8 hcl hord hnj
    subst gi gj
    simp only at hcl
    have hcc : ci = cj := by omega
    subst hcc
    have hord := hord rfl (by simp only; omega)
    unfold dOf at hord h7 h8 hni hnj
    simp only [Int.toNat_natCast] at hord h6 h7 h8 hni hnj
    have hni := hni (by omega)
    have hnj := hnj (by omega)
    have hk3 : (((waitW dss).getD ci []).getD qi zD).1 ≠ 3 := fun e => by unfold wholeD at h7; rw [e] at h7; simp at h7
    have hq : qi < qj := by
      rcases hord with h | h
      · omega
      · exact absurd h.2 hk3
    have hg : (waitW dss).getD ci [] = waitC (dss.getD ci []) := by
      have hl : ci < dss.length := by simpa [waitW] using hci
      rw [waitW, List.getD_eq_getElem?_getD, List.getElem?_map, List.getD_eq_getElem?_getD, List.getElem?_eq_getElem hl]
      rfl
    rw [hg] at h6 hni hnj hqj
    rw [wait_between hq hqj hni hnj] at h6
    cases h6
theorem kept_waitB (dss : List (List Dd)) : kepL (waitB dss) (eventsB (waitB dss)) = behL (eventsB (waitB dss)) := by
  have e0 : kepL [] (eventsB []) = behL (eventsB []) := by
    have : workB [] = false := by decide
    rw [eventsB, this]
    rfl
  unfold waitB
  split
  · split
    · rename_i h
      exact kept_waited h
    · exact e0
  · exact e0
/-- What the law asks of two events of which one stands behind the other. -/
theorem kept_cell {dss : List (List Dd)} {es : List Ev} (h : es.length ≤ 12) {i j : Nat} (hi : i < es.length) (hj : j < es.length) (hB : inSetB ((behL es).getD i 0) j = true) :
    (inSetB ((kepL dss es).getD i 0) j = true ∨ (inSetB ((kepL dss es).getD i 0) j = false ∧ 3 ≤ i ∧ (es.getD i zE).2.2.1 = false ∧ (es.getD j zE).2.2.1 = true)) ∧
    inSetB ((plcL es).getD i 0) j = ((es.getD i zE).2.2.2.1 == (es.getD j zE).2.2.2.1) := by
  have b1 := (beh_line h).2 i j hi
  have k1 := (kep_line (dss := dss) h).2 i j hi
  have p1 := (plc_line h).2 i j hi
  unfold line at b1 k1 p1
  rw [hB] at b1
  have hd : decide (j < es.length) = true := decide_eq_true hj
  rw [hd, Bool.true_and] at b1 k1 p1
  rw [← b1, Bool.true_and] at k1 p1
  refine ⟨?_, ?_⟩
  · cases hk : kepP dss es i j with
    | false => rw [hk] at k1; exact .inl k1
    | true =>
      rw [hk] at k1
      refine .inr ⟨k1, ?_⟩
      unfold kepP kepQ rdE at hk
      simp only [Bool.and_eq_true, decide_eq_true_eq, Bool.not_eq_true'] at hk
      exact ⟨hk.1.1, hk.2.1.1.1, hk.2.1.1.2⟩
  · rw [p1]
    unfold plcP
    rw [bne, Bool.not_not]
end Go.Proofs.Ytkbkdlaknmgjpaa

/- Plain mathematics of the webs of a tale: each place by itself, slow ink, quick ink; where none of them goes round. -/
namespace Go.Proofs.Ytkbkdlaknmgjpaa
open Go.RowKit

/-- Where each line goes up in some measure, none goes round. -/
theorem up_way {n : Nat} {zs : List Int} (hz : Web n zs) (μ : Nat → Nat) (h : ∀ i j, i < n → j < n → line zs i j = true → μ i < μ j) {i j : Nat} (hi : i < n) (hw : Way zs i j) : μ i < μ j := by
  induction hw with
  | one g => exact h _ _ hi (hz.lt hi g) g
  | more g l ih => exact Nat.lt_trans ih (h _ _ (g.lt hz hi) (hz.lt (g.lt hz hi) l) l)
theorem up_round {n : Nat} {zs : List Int} (hz : Web n zs) (μ : Nat → Nat) (h : ∀ i j, i < n → j < n → line zs i j = true → μ i < μ j) : roundB zs = false := by
  cases hr : roundB zs with
  | false => rfl
  | true =>
    obtain ⟨i, hi, hw⟩ := (round_iff hz).1 hr
    exact absurd (up_way hz μ h hi hw) (Nat.lt_irrefl _)
theorem up_lift {n : Nat} {zs cl : List Int} (hz : Web n zs) (hc : cl.length = n) (τ : Nat → Nat) (h1 : ∀ i j, i < n → j < n → cl.getD i 0 = cl.getD j 0 → τ i = τ j)
    (h2 : ∀ i j, i < n → j < n → line zs i j = true → cl.getD i 0 ≠ cl.getD j 0 → τ i < τ j) : roundB (liftL zs cl) = false := by
  obtain ⟨w1, _, w3⟩ := web_lift hz hc
  refine up_round w1 τ (fun i j hi hj hl => ?_)
  obtain ⟨_, hne, a, b, ha, hb, ea, eb, hab⟩ := (w3 i j hi).1 hl
  have := h2 a b ha hb hab (by rw [ea, eb]; exact fun e => hne e.symm)
  rw [h1 a i ha hi ea, h1 b j hb hj eb] at this
  exact this
/-- A web with fewer lines goes round no sooner. -/
theorem less_way {n : Nat} {a b : List Int} (ha : Web n a) (h : ∀ i j, i < n → j < n → line a i j = true → line b i j = true) {i j : Nat} (hi : i < n) (hw : Way a i j) : Way b i j := by
  induction hw with
  | one g => exact .one (h _ _ hi (ha.lt hi g) g)
  | more g l ih => exact .more ih (h _ _ (g.lt ha hi) (ha.lt (g.lt ha hi) l) l)
theorem less_round {n : Nat} {a b : List Int} (ha : Web n a) (hb : Web n b) (h : ∀ i j, i < n → j < n → line a i j = true → line b i j = true) (hr : roundB b = false) : roundB a = false := by
  cases hq : roundB a with
  | false => rfl
  | true =>
    obtain ⟨i, hi, hw⟩ := (round_iff ha).1 hq
    rw [(round_iff hb).2 ⟨i, hi, less_way ha h hi hw⟩] at hr
    cases hr
theorem less_lift {n : Nat} {a b cl : List Int} (ha : Web n a) (hb : Web n b) (hc : cl.length = n) (h : ∀ i j, i < n → j < n → line a i j = true → line b i j = true) (hr : roundB (liftL b cl) = false) : roundB (liftL a cl) = false := by
  obtain ⟨wa, _, la⟩ := web_lift ha hc
  obtain ⟨wb, _, lb⟩ := web_lift hb hc
  refine less_round wa wb (fun i j hi hj hl => ?_) hr
  obtain ⟨h1, h2, x, y, hx, hy, ex, ey, hxy⟩ := (la i j hi).1 hl
  exact (lb i j hi).2 ⟨h1, h2, x, y, hx, hy, ex, ey, h x y hx hy hxy⟩

/-- The webs of chapters 11 to 13, in the specification's order. -/
def pwL (es : List Ev) (f rows : List Int) : List Int := mixL orI (mixL orI (plcL es) (fwL es f)) (mixL orI (rwL es rows) (agL es f rows))
def owP (es : List Ev) (i k : Nat) : Bool := decide (3 ≤ i) && decide (3 ≤ k) && ((es.getD i zE).1 == (es.getD k zE).1)
def owL (es : List Ev) (f : List Int) : List Int := offAll (owP es) es.length (fwL es f) es.length
def swL (dss : List (List Dd)) (es : List Ev) (f rows : List Int) : List Int := mixL orI (mixL orI (kepL dss es) (owL es f)) (mixL orI (rwL es rows) (agL es f rows))
def xwL (es : List Ev) (f rows : List Int) : List Int := mixL orI (mixL orI (behL es) (fwL es f)) (mixL orI (rwL es rows) (agL es f rows))
def pwB (dss : List (List Dd)) (f rows : List Int) : List Int := if taleB dss f rows = true then pwL (eventsB dss) f rows else []
def owB (dss : List (List Dd)) (f : List Int) : List Int := if sourceB dss f = true then owL (eventsB dss) f else []
def swB (dss : List (List Dd)) (f rows : List Int) : List Int := if taleB dss f rows = true then swL dss (eventsB dss) f rows else []
def xwB (dss : List (List Dd)) (f rows : List Int) : List Int := if taleB dss f rows = true then xwL (eventsB dss) f rows else []
def eachB (dss : List (List Dd)) (f rows : List Int) : Bool := taleB dss f rows && !roundB (pwL (eventsB dss) f rows)
def slowB (dss : List (List Dd)) (f rows : List Int) : Bool := taleB dss f rows && (!roundB (pwL (eventsB dss) f rows) && !roundB (liftL (swL dss (eventsB dss) f rows) (clsB (eventsB dss))))
def strictB (dss : List (List Dd)) (f rows : List Int) : Bool := taleB dss f rows && (!roundB (pwL (eventsB dss) f rows) && !roundB (liftL (xwL (eventsB dss) f rows) (clsB (eventsB dss))))

/-- The number of the read that stands i-th. -/
theorem rd_in {es : List Ev} (hx : es.length ≤ 12) {i : Nat} (hi : i < (idxB rdE es).length) : 0 ≤ (idxB rdE es).getD i 0 ∧ (idxB rdE es).getD i 0 < (es.length : Int) := idxB_range hx hi
theorem rd_is {es : List Ev} (hx : es.length ≤ 12) {i : Nat} (hi : i < (idxB rdE es).length) : (es.getD ((idxB rdE es).getD i 0).toNat zE).2.2.1 = true := by
  have hm : (idxB rdE es).getD i 0 ∈ idxB rdE es := getD_mem hi
  unfold idxB at hm ⊢
  rw [if_pos hx] at hm ⊢
  exact idxK_mem rdE es _ _ hm
theorem rd_nodup {es : List Ev} (hx : es.length ≤ 12) : (idxB rdE es).Nodup := by
  unfold idxB
  rw [if_pos hx]
  exact rises_nodup _ (idxK_rises rdE es _)
theorem fr_is {es : List Ev} {f : List Int} (hx : es.length ≤ 12) (h : srcB (chcL es) f = true) {i : Nat} (hi : i < (idxB rdE es).length) : (es.getD (f.getD i 0).toNat zE).2.2.1 = false := by
  unfold srcB at h
  rw [Bool.and_eq_true, decide_eq_true_eq] at h
  obtain ⟨h1, h2⟩ := h
  have hc : (chcL es).length = (idxB rdE es).length := chcK_len _ _ _
  have h3 := (srcK_iff (chcL es).length).1 h2 i (by omega)
  unfold chcL at h3
  rw [chcK_get _ _ _ _ hi] at h3
  have h4 := isB_mem h3
  unfold idxB at h4
  rw [if_pos hx] at h4
  have h6 := idxK_mem _ _ _ _ h4
  unfold toE at h6
  simp only [Bool.and_eq_true, Bool.not_eq_true'] at h6
  exact h6.1
structure Webs (es : List Ev) (f rows : List Int) : Prop where
  fw : Web es.length (fwL es f)
  rw' : Web es.length (rwL es rows)
  ag : Web es.length (agL es f rows)
  fwl : ∀ a j : Nat, a < es.length → (line (fwL es f) a j = true ↔ ∃ i, i < (idxB rdE es).length ∧ f.getD i 0 = (a : Int) ∧ (idxB rdE es).getD i 0 = (j : Int))
  rwl : ∀ a b : Nat, a < es.length → (line (rwL es rows) a b = true ↔ ∃ i q, i < rows.length ∧ q < rows.length ∧ rwP es rows i q = true ∧ rows.getD i 0 = (a : Int) ∧ rows.getD q 0 = (b : Int))
  agl : ∀ a j : Nat, a < es.length → (line (agL es f rows) a j = true ↔ ∃ i, i < (idxB rdE es).length ∧ (idxB rdE es).getD i 0 = (a : Int) ∧ line (rwL es rows) (f.getD i 0).toNat j = true)
theorem webs_of {es : List Ev} {f rows : List Int} (hx : es.length ≤ 12) (hs : srcB (chcL es) f = true) (hr : rowsL es rows = true) : Webs es f rows := by
  obtain ⟨sl, su⟩ := src_use hx hs
  obtain ⟨rn, _, ru⟩ := rows_use hx hr
  have w1 := web_rwAll hx ru rows.length (Nat.le_refl _)
  have w2 := fw_line (n := es.length) (rs := idxB rdE es) (f := f) hx (idxB rdE es).length (fun i hi => rd_in hx hi) (fun i hi => (su i hi).1)
  have w3 := web_ag (n := es.length) (rs := idxB rdE es) (f := f) (row := rwL es rows) hx (rd_nodup hx) w1.1 (idxB rdE es).length (Nat.le_refl _) (fun i hi => rd_in hx hi) (fun i hi => (su i hi).1)
  exact ⟨w2.1, w1.1, w3.1, w2.2, w1.2, w3.2⟩
theorem web_four {n : Nat} {a b c d : List Int} (ha : Web n a) (hb : Web n b) (hc : Web n c) (hd : Web n d) : Web n (mixL orI (mixL orI a b) (mixL orI c d)) ∧
    ∀ i j, i < n → line (mixL orI (mixL orI a b) (mixL orI c d)) i j = (line a i j || line b i j || (line c i j || line d i j)) := by
  obtain ⟨h1, l1⟩ := web_join ha hb
  obtain ⟨h2, l2⟩ := web_join hc hd
  obtain ⟨h3, l3⟩ := web_join h1 h2
  exact ⟨h3, fun i j hi => by rw [l3 i j hi, l1 i j hi, l2 i j hi]⟩
theorem ow_line {es : List Ev} {f rows : List Int} (W : Webs es f rows) : Web es.length (owL es f) ∧ ∀ a j : Nat, a < es.length → line (owL es f) a j = (line (fwL es f) a j && !owP es a j) := by
  obtain ⟨h1, h2⟩ := web_offAll (p := owP es) W.fw es.length (Nat.le_refl _)
  refine ⟨h1, fun a j ha => ?_⟩
  unfold owL
  rw [h2 a j ha]
  cases hl : line (fwL es f) a j with
  | false => rfl
  | true =>
    have hj := W.fw.lt ha hl
    simp [ha, hj]
end Go.Proofs.Ytkbkdlaknmgjpaa

/- Plain mathematics of events as the program lists them: a deed of the Group of the deed ahead has the class of the last event. Of a right work that is what the specification lists. -/
namespace Go.Proofs.Ytkbkdlaknmgjpaa

/-- Does the deed k go on with the Group of the deed ahead? -/
def goB (ds : List Dd) (k : Nat) : Bool := decide (0 < k) && ((ds.getD k zD).2.2.2 != 0) && ((ds.getD k zD).2.2.2 == (ds.getD (k - 1) zD).2.2.2)
def lastC (out : List Ev) : Int := csE (out.getD (out.length - 1) zE)
def ncE (out : List Ev) (go : Bool) : Int := if go = true then lastC out else (out.length : Int)
def clkP (i : Nat) (ds : List Dd) (out : List Ev) : Nat → List Ev
  | 0 => out
  | k + 1 => clkP i ds out k ++ oneE i k (ds.getD k zD) (ncE (clkP i ds out k) (goB ds k))
def evsP (dss : List (List Dd)) : Nat → List Ev
  | 0 => evBeg
  | i + 1 => clkP i (dss.getD i []) (evsP dss i) (dss.getD i []).length
/-- Deeds of one Group stand side by side. -/
def Tog (ds : List Dd) : Prop := ∀ k j, k < ds.length → j < k → (ds.getD k zD).2.2.2 ≠ 0 → (ds.getD j zD).2.2.2 = (ds.getD k zD).2.2.2 → (ds.getD (k - 1) zD).2.2.2 = (ds.getD k zD).2.2.2
theorem grpK_own {i : Nat} {own : List Int} {ds : List Dd} (hl : own.length = 10) : ∀ (k : Nat) (o : List Int), grpK i own ds k = some o → (∀ j, j < k → okD (ds.getD j zD) = true) →
    ∀ j, j < k → (ds.getD j zD).2.2.2 ≠ 0 → o.getD (ds.getD j zD).2.2.2.toNat 0 = (i : Int) + 1
  | 0, o, h, _, j, hj, _ => by omega
  | k + 1, o', h, hok, j, hj, h0 => by
    rw [grpK] at h
    cases hq : grpK i own ds k with
    | none => rw [hq] at h; cases h
    | some o =>
      rw [hq] at h
      have ih := grpK_own hl k o hq (fun j hj => hok j (by omega))
      have hol := grpK_len hq
      simp only at h
      have okj := okD_restE (hok j hj)
      split at h
      · rename_i hz
        simp only [Option.some.injEq] at h
        subst h
        by_cases e : j = k
        · subst e; exact absurd hz h0
        · exact ih j (by omega) h0
      · rename_i hz
        split at h
        · cases h
        · simp only [Option.some.injEq] at h
          subst h
          have okk := okD_restE (hok k (by omega))
          rw [getD_setE o _ _ _ (by omega)]
          by_cases e : (ds.getD k zD).2.2.2.toNat = (ds.getD j zD).2.2.2.toNat
          · rw [if_pos e]
          · rw [if_neg e]
            by_cases e2 : j = k
            · subst e2; exact absurd rfl e
            · exact ih j (by omega) h0
theorem grpK_tog {i : Nat} {own : List Int} {ds : List Dd} (hl : own.length = 10) {o : List Int} (h : grpK i own ds ds.length = some o) (hok : ∀ j, j < ds.length → okD (ds.getD j zD) = true) : Tog ds := by
  intro k j hk hj h0 he
  have step : ∃ o', grpK i own ds (k + 1) = some o' := by
    cases hq : grpK i own ds (k + 1) with
    | none => rw [grpK_none hq ds.length (by omega)] at h; cases h
    | some o' => exact ⟨o', rfl⟩
  obtain ⟨o', ho'⟩ := step
  rw [grpK] at ho'
  cases hq : grpK i own ds k with
  | none => rw [hq] at ho'; cases ho'
  | some o1 =>
    rw [hq] at ho'
    have hown := grpK_own hl k o1 hq (fun j hj => hok j (by omega)) j hj (by rw [he]; exact h0)
    rw [he] at hown
    simp only at ho'
    rw [if_neg h0] at ho'
    split at ho'
    · cases ho'
    · rename_i hn
      apply Classical.byContradiction
      intro hc
      exact hn ⟨by rw [hown]; omega, .inr (.inr hc)⟩
theorem work_tog {dss : List (List Dd)} (hb : workB dss = true) : ∀ i, i < dss.length → Tog (dss.getD i []) := by
  intro i hi
  simp only [workB, Bool.and_eq_true, decide_eq_true_eq] at hb
  obtain ⟨⟨⟨⟨_, h2⟩, _⟩, _⟩, hg⟩ := hb
  have hok := all_get [] h2 i hi
  simp only [okL, Bool.and_eq_true, decide_eq_true_eq] at hok
  have hs : ∀ n, n ≤ dss.length → ∃ o, grpW dss n = some o := by
    intro n hn
    cases hq : grpW dss n with
    | none => rw [grpB, grpW_none hq dss.length hn] at hg; cases hg
    | some o => exact ⟨o, rfl⟩
  obtain ⟨o, ho⟩ := hs i (by omega)
  obtain ⟨o', ho'⟩ := hs (i + 1) (by omega)
  rw [grpW, ho] at ho'
  exact grpK_tog (grpW_len ho) ho' (fun j hj => all_get zD hok.1 j hj)
theorem last_snoc (out t : List Ev) (e : Ev) : lastC (out ++ (t ++ [e])) = csE e := by
  unfold lastC
  rw [← List.append_assoc, List.length_append, List.getD_eq_getElem?_getD]
  simp
theorem clkP_same {i : Nat} {ds : List Dd} {out : List Ev} (ht : Tog ds) (hok : ∀ j, j < ds.length → okD (ds.getD j zD) = true) (ho : 1 ≤ out.length) :
    ∀ k : Nat, k ≤ ds.length → clkP i ds out k = (clkE i ds out k).1 ∧ (clkE i ds out k).2.length = 10 ∧ 1 ≤ (clkE i ds out k).1.length ∧
      (∀ g : Nat, 0 < g → g < 10 → (∀ j, j < k → (ds.getD j zD).2.2.2 ≠ (g : Int)) → (clkE i ds out k).2.getD g 0 = 0) ∧
      (∀ j, j < k → (ds.getD j zD).2.2.2 ≠ 0 → (clkE i ds out k).2.getD (ds.getD j zD).2.2.2.toNat 0 ≠ 0) ∧
      (0 < k → (ds.getD (k - 1) zD).2.2.2 ≠ 0 → (clkE i ds out k).2.getD (ds.getD (k - 1) zD).2.2.2.toNat 0 = lastC (clkE i ds out k).1)
  | 0, _ => ⟨rfl, by simp [clkE], ho, fun g _ hg _ => by simp only [clkE]; rw [List.getD_eq_getElem?_getD, List.getElem?_replicate, if_pos hg]; rfl, fun j hj => by omega, fun h => by omega⟩
  | k + 1, hk => by
    obtain ⟨h1, h2, h3, h4, h5, h6⟩ := clkP_same ht hok ho k (by omega)
    have hd := hok k (by omega)
    obtain ⟨r0, r1, r2, r3, r4⟩ := okD_restE hd
    have hkd := okD_kindE hd
    rw [clkP, clkE, h1, Nat.add_sub_cancel]
    generalize hS : clkE i ds out k = S at h2 h3 h4 h5 h6
    obtain ⟨L, f⟩ := S
    simp only at h2 h3 h4 h5 h6
    generalize hdd : ds.getD k zD = d at hd r0 r1 r2 r3 r4 hkd
    have hg : goB ds k = (decide (0 < k) && (d.2.2.2 != 0) && (d.2.2.2 == (ds.getD (k - 1) zD).2.2.2)) := by rw [goB, hdd]
    -- deeds ahead that have Group 0 or not
    have old5 : ∀ j, j < k → (ds.getD j zD).2.2.2 ≠ 0 → (ds.getD j zD).2.2.2.toNat < 10 := fun j hj _ => by
      have := okD_restE (hok j (by omega)); omega
    by_cases h4k : d.1 = 4
    · have g0 : d.2.2.2 = 0 := r4 (by omega)
      have e1 : oneE i k d (ncE L (goB ds k)) = [] := by unfold oneE; rw [if_pos h4k]
      rw [stepE, if_pos h4k, e1, List.append_nil]
      refine ⟨rfl, h2, h3, fun g hg0 hg10 hn => h4 g hg0 hg10 (fun j hj => hn j (by omega)), fun j hj hne => ?_, fun _ hne => absurd g0 hne⟩
      by_cases e : j = k
      · subst e; rw [hdd] at hne; exact absurd g0 hne
      · exact h5 j (by omega) hne
    · rw [stepE, if_neg h4k]
      by_cases g0 : d.2.2.2 = 0
      · have e1 : ncE L (goB ds k) = clsE d.2.2.2 L.length f := by
          rw [hg, g0]
          simp [ncE, clsE]
        have e2 : fstE d.2.2.2 L.length f = f := by unfold fstE; rw [if_neg (by rw [g0]; omega)]
        rw [e1]
        simp only
        rw [e2]
        refine ⟨by trivial, h2, by rw [List.length_append]; omega, fun g hg0 hg10 hn => h4 g hg0 hg10 (fun j hj => hn j (by omega)), fun j hj hne => ?_, fun _ hne => absurd g0 hne⟩
        by_cases e : j = k
        · subst e; rw [hdd] at hne; exact absurd g0 hne
        · exact h5 j (by omega) hne
      · have gp : (0 : Int) < d.2.2.2 := by omega
        have k2 : d.1 = 1 ∨ d.1 = 2 := by
          apply Classical.byContradiction
          intro hn
          exact g0 (r4 (by omega))
        have one : ∀ c, ∃ e, oneE i k d c = [e] ∧ csE e = c := by
          intro c
          unfold oneE
          rcases k2 with e | e
          · exact ⟨_, by rw [if_neg h4k, if_neg (by omega), if_neg (by omega)], rfl⟩
          · exact ⟨_, by rw [if_neg h4k, if_neg (by omega), if_pos e], rfl⟩
        have fin : ∀ c, lastC (L ++ oneE i k d c) = c := fun c => by
          obtain ⟨e, he, hc⟩ := one c
          rw [he, ← hc]
          exact last_snoc L [] e
        by_cases hgo : 0 < k ∧ (ds.getD (k - 1) zD).2.2.2 = d.2.2.2
        · obtain ⟨k0, hgo⟩ := hgo
          have e0 : goB ds k = true := by rw [hg, hgo]; simp [k0, g0]
          have f0 : f.getD d.2.2.2.toNat 0 ≠ 0 := by have := h5 (k - 1) (by omega) (by rw [hgo]; exact g0); rw [hgo] at this; exact this
          have f1 : f.getD d.2.2.2.toNat 0 = lastC L := by have := h6 k0 (by rw [hgo]; exact g0); rw [hgo] at this; exact this
          have e2 : fstE d.2.2.2 L.length f = f := by unfold fstE; rw [if_neg (fun h => f0 h.2)]
          have e1 : ncE L (goB ds k) = clsE d.2.2.2 L.length f := by
            rw [e0]
            unfold ncE clsE
            rw [if_pos rfl, if_pos gp, e2, f1]
          have e3 : clsE d.2.2.2 L.length f = f.getD d.2.2.2.toNat 0 := by unfold clsE; rw [if_pos gp, e2]
          rw [e1]
          simp only
          rw [e2]
          refine ⟨by trivial, h2, by rw [List.length_append]; omega, fun g hg0 hg10 hn => h4 g hg0 hg10 (fun j hj => hn j (by omega)), fun j hj hne => ?_, fun _ _ => ?_⟩
          · by_cases e : j = k
            · subst e; rw [hdd]; exact f0
            · exact h5 j (by omega) hne
          · rw [fin, e3]
        · have none : ∀ j, j < k → (ds.getD j zD).2.2.2 ≠ d.2.2.2 := by
            intro j hj he
            refine hgo ⟨by omega, ?_⟩
            have := ht k j (by omega) hj (by rw [hdd]; exact g0) (by rw [hdd]; exact he)
            rw [hdd] at this
            exact this
          obtain ⟨g, hgg⟩ := Int.eq_ofNat_of_zero_le r2
          have g10 : g < 10 := by omega
          have f0 : f.getD d.2.2.2.toNat 0 = 0 := by
            rw [hgg, Int.toNat_natCast]
            exact h4 g (by omega) g10 (fun j hj => by rw [← hgg]; exact none j hj)
          have e0 : goB ds k = false := by
            rw [hg]
            by_cases k0 : 0 < k
            · have : ¬ (d.2.2.2 = (ds.getD (k - 1) zD).2.2.2) := fun e => hgo ⟨k0, e.symm⟩
              have e : (d.2.2.2 == (ds.getD (k - 1) zD).2.2.2) = false := by simpa using this
              rw [e, Bool.and_false]
            · simp [k0]
          have e2 : fstE d.2.2.2 L.length f = f.set d.2.2.2.toNat (L.length : Int) := by unfold fstE; rw [if_pos ⟨gp, f0⟩]
          have e3 : clsE d.2.2.2 L.length f = (L.length : Int) := by
            unfold clsE
            rw [if_pos gp, e2, getD_setE f _ _ _ (by omega), if_pos rfl]
          have e1 : ncE L (goB ds k) = clsE d.2.2.2 L.length f := by rw [e0, e3]; simp [ncE]
          rw [e1]
          simp only
          rw [e2]
          refine ⟨by trivial, by rw [List.length_set]; exact h2, by rw [List.length_append]; omega, fun q hq0 hq10 hn => ?_, fun j hj hne => ?_, fun _ _ => ?_⟩
          · have hqk := hn k (by omega)
            rw [hdd] at hqk
            rw [getD_setE f _ _ _ (by omega), if_neg (by omega)]
            exact h4 q hq0 hq10 (fun j hj => hn j (by omega))
          · by_cases e : j = k
            · subst e
              rw [hdd, getD_setE f _ _ _ (by omega), if_pos rfl]
              omega
            · have nj := none j (by omega)
              have okj := okD_restE (hok j (by omega))
              rw [getD_setE f _ _ _ (by omega), if_neg (by omega)]
              exact h5 j (by omega) hne
          · rw [fin, e3, getD_setE f _ _ _ (by omega), if_pos rfl]
theorem evsP_same {dss : List (List Dd)} (hb : workB dss = true) : ∀ n : Nat, n ≤ dss.length → evsP dss n = evsW dss n ∧ 1 ≤ (evsW dss n).length
  | 0, _ => ⟨rfl, by simp [evsW, evBeg]⟩
  | n + 1, h => by
    obtain ⟨h1, h2⟩ := evsP_same hb n (by omega)
    have ht := work_tog hb n (by omega)
    simp only [workB, Bool.and_eq_true, decide_eq_true_eq] at hb
    obtain ⟨⟨⟨⟨_, ha⟩, _⟩, _⟩, _⟩ := hb
    have hok := all_get [] ha n (by omega)
    simp only [okL, Bool.and_eq_true, decide_eq_true_eq] at hok
    obtain ⟨q1, _, q3, _⟩ := clkP_same (i := n) ht (fun j hj => all_get zD hok.1 j hj) h2 (dss.getD n []).length (Nat.le_refl _)
    rw [evsP, evsW, h1, q1]
    exact ⟨rfl, q3⟩
end Go.Proofs.Ytkbkdlaknmgjpaa

/- Plain mathematics: where the events of each deed stand in the list of all events, and their classes. -/
namespace Go.Proofs.Ytkbkdlaknmgjpaa

abbrev dAt (dss : List (List Dd)) (c k : Nat) : Dd := (dss.getD c []).getD k zD
/-- How many events stand ahead of deed k of clerk c. -/
def offN (dss : List (List Dd)) (c k : Nat) : Nat := (clkE c (dss.getD c []) (evsW dss c) k).1.length
def numD (d : Dd) : Nat := if d.1 = 4 then 0 else if d.1 = 3 then 2 else 1
theorem oneE_num (i k : Nat) (d : Dd) (c : Int) : (oneE i k d c).length = numD d := by
  unfold oneE numD
  split
  · rfl
  · split
    · rfl
    · split <;> rfl
/-- The class that deed k of clerk c has. -/
def clsD (dss : List (List Dd)) (c k : Nat) : Int := clsE (dAt dss c k).2.2.2 (offN dss c k) (clkE c (dss.getD c []) (evsW dss c) k).2
theorem clk_step (dss : List (List Dd)) (c k : Nat) : (clkE c (dss.getD c []) (evsW dss c) (k + 1)).1 = (clkE c (dss.getD c []) (evsW dss c) k).1 ++ oneE c k (dAt dss c k) (clsD dss c k) := by
  rw [clkE, stepE]
  split
  · rename_i h
    have e : oneE c k (dAt dss c k) (clsD dss c k) = [] := by unfold oneE; rw [if_pos h]
    rw [e, List.append_nil]
  · rfl
theorem off_succ (dss : List (List Dd)) (c k : Nat) : offN dss c (k + 1) = offN dss c k + numD (dAt dss c k) := by
  unfold offN
  rw [clk_step, List.length_append, oneE_num]
theorem off_zero (dss : List (List Dd)) (c : Nat) : offN dss c 0 = (evsW dss c).length := rfl
theorem off_end (dss : List (List Dd)) (c : Nat) : (evsW dss (c + 1)).length = offN dss c (dss.getD c []).length := rfl
theorem clk_pre (dss : List (List Dd)) (c k : Nat) : ∀ n : Nat, k ≤ n → ∃ t, (clkE c (dss.getD c []) (evsW dss c) n).1 = (clkE c (dss.getD c []) (evsW dss c) k).1 ++ t
  | 0, h => by
    obtain rfl : k = 0 := by omega
    exact ⟨[], by simp⟩
  | n + 1, h => by
    by_cases e : k = n + 1
    · subst e; exact ⟨[], by simp⟩
    · obtain ⟨t, ht⟩ := clk_pre dss c k n (by omega)
      exact ⟨t ++ oneE c n (dAt dss c n) (clsD dss c n), by rw [clk_step, ht, List.append_assoc]⟩
theorem evs_pre (dss : List (List Dd)) (c : Nat) : ∀ n : Nat, c ≤ n → ∃ t, evsW dss n = evsW dss c ++ t
  | 0, h => by
    obtain rfl : c = 0 := by omega
    exact ⟨[], by simp⟩
  | n + 1, h => by
    by_cases e : c = n + 1
    · subst e; exact ⟨[], by simp⟩
    · obtain ⟨t, ht⟩ := evs_pre dss c n (by omega)
      obtain ⟨t2, h2⟩ := clk_pre dss n 0 (dss.getD n []).length (Nat.zero_le _)
      refine ⟨t ++ t2, ?_⟩
      show (clkE n (dss.getD n []) (evsW dss n) (dss.getD n []).length).1 = _
      rw [h2]
      show evsW dss n ++ t2 = _
      rw [ht, List.append_assoc]
/-- What stands where a deed's events begin. -/
theorem es_at {dss : List (List Dd)} {c k n : Nat} (hc : c < n) (hk : k < (dss.getD c []).length) {i : Nat} {e : Ev} (h : (oneE c k (dAt dss c k) (clsD dss c k))[i]? = some e) : (evsW dss n)[offN dss c k + i]? = some e := by
  obtain ⟨t1, h1⟩ := evs_pre dss (c + 1) n hc
  obtain ⟨t2, h2⟩ := clk_pre dss c (k + 1) (dss.getD c []).length hk
  rw [h1]
  refine at_left t1 ?_
  show (clkE c (dss.getD c []) (evsW dss c) (dss.getD c []).length).1[offN dss c k + i]? = some e
  rw [h2]
  refine at_left t2 ?_
  rw [clk_step, List.getElem?_append_right (by unfold offN; omega)]
  show (oneE c k (dAt dss c k) (clsD dss c k))[offN dss c k + i - offN dss c k]? = some e
  rw [show offN dss c k + i - offN dss c k = i by omega]
  exact h
theorem clk_dec (dss : List (List Dd)) (c : Nat) {j : Nat} (h0 : offN dss c 0 ≤ j) : ∀ k : Nat, j < offN dss c k → ∃ k' i, k' < k ∧ i < numD (dAt dss c k') ∧ j = offN dss c k' + i
  | 0, h => by omega
  | k + 1, h => by
    by_cases hj : j < offN dss c k
    · obtain ⟨k', i, h1, h2, h3⟩ := clk_dec dss c h0 k hj
      exact ⟨k', i, by omega, h2, h3⟩
    · rw [off_succ] at h
      exact ⟨k, j - offN dss c k, by omega, by omega, by omega⟩
theorem es_dec (dss : List (List Dd)) {j : Nat} (h3 : 3 ≤ j) : ∀ n : Nat, j < (evsW dss n).length → ∃ c k i, c < n ∧ k < (dss.getD c []).length ∧ i < numD (dAt dss c k) ∧ j = offN dss c k + i
  | 0, h => by simp [evsW, evBeg] at h; omega
  | n + 1, h => by
    by_cases hj : j < (evsW dss n).length
    · obtain ⟨c, k, i, h1, h2⟩ := es_dec dss h3 n hj
      exact ⟨c, k, i, by omega, h2⟩
    · rw [off_end] at h
      obtain ⟨k, i, h1, h2⟩ := clk_dec dss n (by rw [off_zero]; omega) _ h
      exact ⟨n, k, i, by omega, h1, h2⟩
theorem off_le (dss : List (List Dd)) (c : Nat) {k k' : Nat} (h : k ≤ k') : offN dss c k ≤ offN dss c k' := by
  obtain ⟨t, ht⟩ := clk_pre dss c k k' h
  unfold offN
  rw [ht, List.length_append]
  omega
/-- Deeds stand in order: clerk by clerk, each clerk's one behind the other. -/
theorem off_lt {dss : List (List Dd)} {c c' k k' : Nat} (hk : k < (dss.getD c []).length) (h : c < c' ∨ (c = c' ∧ k < k')) : offN dss c k + numD (dAt dss c k) ≤ offN dss c' k' := by
  rcases h with h | ⟨rfl, h⟩
  · have h1 := off_le dss c (k := k + 1) (k' := (dss.getD c []).length) hk
    rw [off_succ] at h1
    obtain ⟨t, ht⟩ := evs_pre dss (c + 1) c' h
    have h2 := off_le dss c' (Nat.zero_le k')
    rw [off_zero, ht, List.length_append, off_end] at h2
    omega
  · have h1 := off_le dss c (k := k + 1) (k' := k') h
    rw [off_succ] at h1
    exact h1
theorem off_three (dss : List (List Dd)) (c k : Nat) : 3 ≤ offN dss c k := by
  obtain ⟨t, ht⟩ := evs_pre dss 0 c (Nat.zero_le _)
  have h := off_le dss c (Nat.zero_le k)
  rw [off_zero, ht, List.length_append] at h
  simp [evsW, evBeg] at h
  omega
end Go.Proofs.Ytkbkdlaknmgjpaa

/- Plain mathematics: which events are of one class. -/
namespace Go.Proofs.Ytkbkdlaknmgjpaa

abbrev gAt (dss : List (List Dd)) (c k : Nat) : Int := (dAt dss c k).2.2.2
/-- Of a clerk of right deeds. -/
def OkC (dss : List (List Dd)) (c : Nat) : Prop := ∀ k, k < (dss.getD c []).length → okD (dAt dss c k) = true
theorem okC_of {dss : List (List Dd)} (h : workB dss = true) {c : Nat} (hc : c < dss.length) : OkC dss c := by
  simp only [workB, Bool.and_eq_true, decide_eq_true_eq] at h
  obtain ⟨⟨⟨⟨_, h2⟩, _⟩, _⟩, _⟩ := h
  have h3 := all_get [] h2 c hc
  unfold okL at h3
  rw [Bool.and_eq_true] at h3
  exact fun k hk => all_get zD h3.1 k hk
theorem g_in {dss : List (List Dd)} {c k : Nat} (h : OkC dss c) (hk : k < (dss.getD c []).length) : 0 ≤ gAt dss c k ∧ gAt dss c k ≤ 9 ∧ (2 < (dAt dss c k).1 → gAt dss c k = 0) :=
  ⟨(okD_restE (h k hk)).2.2.1, (okD_restE (h k hk)).2.2.2.1, (okD_restE (h k hk)).2.2.2.2⟩
theorem fst_len (dss : List (List Dd)) (c : Nat) : ∀ k : Nat, (clkE c (dss.getD c []) (evsW dss c) k).2.length = 10
  | 0 => by simp [clkE]
  | k + 1 => by
    have ih := fst_len dss c k
    rw [clkE, stepE]
    split
    · exact ih
    · show (fstE _ _ _).length = 10
      unfold fstE
      split
      · rw [List.length_set]; exact ih
      · exact ih
/-- Where each group began. -/
theorem fst_at {dss : List (List Dd)} {c : Nat} (hok : OkC dss c) {g : Nat} (h0 : 0 < g) (h9 : g ≤ 9) : ∀ k : Nat, k ≤ (dss.getD c []).length →
    ((clkE c (dss.getD c []) (evsW dss c) k).2.getD g 0 = 0 ∧ ∀ j, j < k → gAt dss c j ≠ g) ∨
    ∃ j, j < k ∧ gAt dss c j = g ∧ (∀ i, i < j → gAt dss c i ≠ g) ∧ (clkE c (dss.getD c []) (evsW dss c) k).2.getD g 0 = (offN dss c j : Int)
  | 0, _ => .inl ⟨by
      show (List.replicate 10 (0 : Int)).getD g 0 = 0
      rw [List.getD_eq_getElem?_getD, List.getElem?_replicate]
      split <;> rfl, fun j hj => by omega⟩
  | k + 1, hk => by
    have ih := fst_at hok h0 h9 k (by omega)
    have hl := fst_len dss c k
    have hd := g_in hok (k := k) (by omega)
    have hkk := okD_kindE (hok k (by omega))
    by_cases h4 : (dAt dss c k).1 = 4
    · have e : (clkE c (dss.getD c []) (evsW dss c) (k + 1)).2 = (clkE c (dss.getD c []) (evsW dss c) k).2 := by
        rw [clkE, stepE, if_pos h4]
      have hg : gAt dss c k = 0 := hd.2.2 (by omega)
      rw [e]
      rcases ih with ⟨h1, h2⟩ | ⟨j, h1, h2, h3, h5⟩
      · refine .inl ⟨h1, fun j hj => ?_⟩
        by_cases e : j = k
        · subst e; omega
        · exact h2 j (by omega)
      · exact .inr ⟨j, by omega, h2, h3, h5⟩
    · have e : (clkE c (dss.getD c []) (evsW dss c) (k + 1)).2 = fstE (gAt dss c k) (offN dss c k) (clkE c (dss.getD c []) (evsW dss c) k).2 := by
        rw [clkE, stepE, if_neg h4]
        rfl
      rw [e]
      by_cases hg : gAt dss c k = (g : Int)
      · rcases ih with ⟨h1, h2⟩ | ⟨j, h1, h2, h3, h5⟩
        · refine .inr ⟨k, by omega, hg, h2, ?_⟩
          unfold fstE
          rw [hg, Int.toNat_natCast, if_pos ⟨by omega, h1⟩, getD_setE _ _ _ _ (by omega), if_pos rfl]
        · refine .inr ⟨j, by omega, h2, h3, ?_⟩
          have h6 := off_three dss c j
          unfold fstE
          rw [hg, Int.toNat_natCast, if_neg (by rw [h5]; omega)]
          exact h5
      · have e2 : (fstE (gAt dss c k) (offN dss c k) (clkE c (dss.getD c []) (evsW dss c) k).2).getD g 0 = (clkE c (dss.getD c []) (evsW dss c) k).2.getD g 0 := by
          unfold fstE
          split
          · rename_i hp
            have hx : (gAt dss c k).toNat ≤ 9 := by have := hd.2.1; omega
            rw [getD_setE _ _ _ _ (by omega), if_neg (by omega)]
          · rfl
        rw [e2]
        rcases ih with ⟨h1, h2⟩ | ⟨j, h1, h2, h3, h5⟩
        · refine .inl ⟨h1, fun j hj => ?_⟩
          by_cases e : j = k
          · subst e; exact hg
          · exact h2 j (by omega)
        · exact .inr ⟨j, by omega, h2, h3, h5⟩
/-- The class of a deed: where its group began, or where it stands itself. -/
theorem cls_at {dss : List (List Dd)} {c k : Nat} (hok : OkC dss c) (hk : k < (dss.getD c []).length) (h4 : (dAt dss c k).1 ≠ 4) :
    (gAt dss c k = 0 ∧ clsD dss c k = (offN dss c k : Int)) ∨ (gAt dss c k ≠ 0 ∧ ∃ j, j ≤ k ∧ gAt dss c j = gAt dss c k ∧ (∀ i, i < j → gAt dss c i ≠ gAt dss c k) ∧ clsD dss c k = (offN dss c j : Int)) := by
  have hd := g_in hok hk
  by_cases hg : gAt dss c k = 0
  · refine .inl ⟨hg, ?_⟩
    unfold clsD clsE
    rw [if_neg (by have : (dAt dss c k).2.2.2 = 0 := hg; omega)]
  · obtain ⟨g, hgg⟩ := Int.eq_ofNat_of_zero_le hd.1
    have hgg' : gAt dss c k = (g : Int) := hgg
    have h9 : g ≤ 9 := by have := hd.2.1; omega
    refine .inr ⟨hg, ?_⟩
    have h1 := fst_at hok (g := g) (by omega) h9 (k + 1) hk
    have e : (clkE c (dss.getD c []) (evsW dss c) (k + 1)).2 = fstE (gAt dss c k) (offN dss c k) (clkE c (dss.getD c []) (evsW dss c) k).2 := by
      rw [clkE, stepE, if_neg h4]
      rfl
    rw [e] at h1
    rcases h1 with ⟨_, h2⟩ | ⟨j, h1, h2, h3, h5⟩
    · exact absurd hgg' (h2 k (by omega))
    · refine ⟨j, by omega, by rw [hgg']; exact h2, fun i hi => by rw [hgg']; exact h3 i hi, ?_⟩
      unfold clsD clsE
      rw [if_pos (by have : (dAt dss c k).2.2.2 = (g : Int) := hgg'; omega)]
      have hq : (dAt dss c k).2.2.2.toNat = g := by have : (dAt dss c k).2.2.2 = (g : Int) := hgg'; omega
      rw [hq]
      exact h5
/-- Two deeds that have events begin at two places. -/
theorem off_inj {dss : List (List Dd)} {c c' k k' : Nat} (hk : k < (dss.getD c []).length) (hk' : k' < (dss.getD c' []).length) (h1 : 0 < numD (dAt dss c k)) (h2 : 0 < numD (dAt dss c' k')) (e : offN dss c k = offN dss c' k') : c = c' ∧ k = k' := by
  by_cases hc : c < c'
  · have := off_lt (k' := k') hk (.inl hc); omega
  by_cases hc' : c' < c
  · have := off_lt (k' := k) hk' (.inl hc'); omega
  obtain rfl : c = c' := by omega
  refine ⟨rfl, ?_⟩
  by_cases hkk : k < k'
  · have := off_lt (c' := c) (k' := k') hk (.inr ⟨rfl, hkk⟩); omega
  by_cases hkk' : k' < k
  · have := off_lt (c' := c) (k' := k) hk' (.inr ⟨rfl, hkk'⟩); omega
  omega
theorem num_grp {dss : List (List Dd)} {c k : Nat} (hok : OkC dss c) (hk : k < (dss.getD c []).length) (hg : gAt dss c k ≠ 0) : (dAt dss c k).1 ≠ 4 ∧ (dAt dss c k).1 ≠ 3 ∧ 0 < numD (dAt dss c k) := by
  have hd := g_in hok hk
  have hkk := okD_kindE (hok k hk)
  have h3 : ¬ 2 < (dAt dss c k).1 := fun h => hg (hd.2.2 h)
  refine ⟨by omega, by omega, ?_⟩
  unfold numD
  rw [if_neg (by omega), if_neg (by omega)]
  omega
theorem num_pos {d : Dd} (h : d.1 ≠ 4) : 0 < numD d := by
  unfold numD
  rw [if_neg h]
  split <;> omega
/-- Which deeds are of one class. -/
theorem cls_iff {dss : List (List Dd)} {c c' k k' : Nat} (hok : OkC dss c) (hok' : OkC dss c') (hk : k < (dss.getD c []).length) (hk' : k' < (dss.getD c' []).length) (h4 : (dAt dss c k).1 ≠ 4) (h4' : (dAt dss c' k').1 ≠ 4) :
    clsD dss c k = clsD dss c' k' ↔ c = c' ∧ (k = k' ∨ (gAt dss c k ≠ 0 ∧ gAt dss c k = gAt dss c' k')) := by
  constructor
  · intro e
    rcases cls_at hok hk h4 with ⟨g1, e1⟩ | ⟨g1, j, j1, j2, j3, e1⟩
    · rcases cls_at hok' hk' h4' with ⟨g2, e2⟩ | ⟨g2, j', l1, l2, l3, e2⟩
      · rw [e1, e2] at e
        obtain ⟨rfl, rfl⟩ := off_inj hk hk' (num_pos h4) (num_pos h4') (by omega)
        exact ⟨rfl, .inl rfl⟩
      · rw [e1, e2] at e
        obtain ⟨rfl, rfl⟩ := off_inj (k' := j') hk (by omega) (num_pos h4) (num_grp (k := j') hok' (by omega) (by rw [l2]; exact g2)).2.2 (by omega)
        exact absurd (l2.symm.trans g1) g2
    · rcases cls_at hok' hk' h4' with ⟨g2, e2⟩ | ⟨g2, j', l1, l2, l3, e2⟩
      · rw [e1, e2] at e
        obtain ⟨rfl, rfl⟩ := off_inj (k := j) (by omega) hk' (num_grp (k := j) hok (by omega) (by rw [j2]; exact g1)).2.2 (num_pos h4') (by omega)
        exact absurd (j2.symm.trans g2) g1
      · rw [e1, e2] at e
        obtain ⟨rfl, rfl⟩ := off_inj (k := j) (k' := j') (by omega) (by omega) (num_grp (k := j) hok (by omega) (by rw [j2]; exact g1)).2.2 (num_grp (k := j') hok' (by omega) (by rw [l2]; exact g2)).2.2 (by omega)
        exact ⟨rfl, .inr ⟨g1, by rw [← j2, l2]⟩⟩
  · rintro ⟨rfl, rfl | ⟨g1, g2⟩⟩
    · rfl
    · rcases cls_at hok hk h4 with ⟨g0, _⟩ | ⟨_, j, j1, j2, j3, e1⟩
      · exact absurd g0 g1
      rcases cls_at hok' hk' h4' with ⟨g0, _⟩ | ⟨_, j', l1, l2, l3, e2⟩
      · rw [g0] at g2; exact absurd g2 g1
      rw [e1, e2]
      have : j = j' := by
        by_cases a : j < j'
        · exact absurd (by rw [j2, g2]) (l3 j a)
        by_cases a' : j' < j
        · exact absurd (by rw [l2, g2]) (j3 j' a')
        omega
      rw [this]
end Go.Proofs.Ytkbkdlaknmgjpaa

/- Plain mathematics: what FnEach asks; what may be told with quick ink may be told with slow ink; where all lines are kept it is the other way round too. -/
namespace Go.Proofs.Ytkbkdlaknmgjpaa
open Go.RowKit

theorem place_ev {dss : List (List Dd)} (hb : workB dss = true) {j : Nat} (hj : j < (eventsB dss).length) : 0 ≤ ((eventsB dss).getD j zE).2.2.2.1 ∧ ((eventsB dss).getD j zE).2.2.2.1 ≤ 2 := by
  have e1 : eventsB dss = evsW dss dss.length := by rw [eventsB, if_pos hb]
  rw [e1] at hj ⊢
  exact place_in hb j hj
theorem row_has {es : List Ev} {rows : List Int} (hx : es.length ≤ 12) (hr : rowsL es rows = true) {x : Nat} (hxn : x < es.length) (hw : (es.getD x zE).2.2.1 = false) (hp : 0 ≤ (es.getD x zE).2.2.2.1 ∧ (es.getD x zE).2.2.2.1 ≤ 2) : ∃ i, i < rows.length ∧ rows.getD i 0 = (x : Int) := by
  have hm : ∀ p : Nat, (es.getD x zE).2.2.2.1 = (p : Int) → (x : Int) ∈ plcW es p := by
    intro p e
    unfold plcW idxB
    rw [if_pos hx]
    refine idxK_has _ _ ?_ _ hxn
    unfold toE
    rw [hw, e]
    simp
  have ha : (x : Int) ∈ allW es := by
    unfold allW
    simp only [List.mem_append]
    rcases (by omega : (es.getD x zE).2.2.2.1 = ((0 : Nat) : Int) ∨ (es.getD x zE).2.2.2.1 = ((1 : Nat) : Int) ∨ (es.getD x zE).2.2.2.1 = ((2 : Nat) : Int)) with h | h | h
    · exact .inl (.inl (hm 0 h))
    · exact .inl (.inr (hm 1 h))
    · exact .inr (hm 2 h)
  exact at_of_mem ((rows_perm hx hr).mem_iff.1 ha)
theorem row_tot {es : List Ev} {rows : List Int} (hx : es.length ≤ 12) (hr : rowsL es rows = true) {x y : Nat} (hxn : x < es.length) (hyn : y < es.length) (hwx : (es.getD x zE).2.2.1 = false) (hwy : (es.getD y zE).2.2.1 = false)
    (hp : 0 ≤ (es.getD x zE).2.2.2.1 ∧ (es.getD x zE).2.2.2.1 ≤ 2) (he : (es.getD x zE).2.2.2.1 = (es.getD y zE).2.2.2.1) (hne : x ≠ y) : line (rwL es rows) x y = true ∨ line (rwL es rows) y x = true := by
  obtain ⟨i, hi, ei⟩ := row_has hx hr hxn hwx hp
  obtain ⟨k, hk, ek⟩ := row_has hx hr hyn hwy (by rw [← he]; exact hp)
  have c1 := row_cell hx hr hi hk
  have c2 := row_cell hx hr hk hi
  rw [ei, ek, Int.toNat_natCast, Int.toNat_natCast] at c1 c2
  rw [c1, c2]
  unfold rwP plE
  rw [ei, ek, Int.toNat_natCast, Int.toNat_natCast, he]
  by_cases h : i < k
  · left; simp [h]
  · have h2 : i ≠ k := fun e => hne (by subst e; rw [ei] at ek; omega)
    have h3 : k < i := by omega
    right; simp [h3]
theorem row_use {es : List Ev} {f rows : List Int} (W : Webs es f rows) (hx : es.length ≤ 12) (hr : rowsL es rows = true) {a b : Nat} (ha : a < es.length) (h : line (rwL es rows) a b = true) :
    b < es.length ∧ a ≠ b ∧ (es.getD a zE).2.2.2.1 = (es.getD b zE).2.2.2.1 := by
  obtain ⟨i, q, hi, hq, hp, e1, e2⟩ := (W.rwl a b ha).1 h
  obtain ⟨rn, _, ru⟩ := rows_use hx hr
  unfold rwP plE at hp
  rw [e1, e2, Int.toNat_natCast, Int.toNat_natCast] at hp
  simp only [Bool.and_eq_true, decide_eq_true_eq, beq_iff_eq] at hp
  refine ⟨by have := (ru q hq).2; omega, fun e => ?_, hp.2⟩
  have := nodup_get rn hi hq (by rw [e1, e2, e])
  omega
theorem two_round {n : Nat} {zs : List Int} (hz : Web n zs) (hr : roundB zs = false) {i j : Nat} (hi : i < n) (h1 : line zs i j = true) (h2 : line zs j i = true) : False := by
  rw [(round_iff hz).2 ⟨i, hi, (Way.one h1).more h2⟩] at hr
  cases hr
theorem each_parts {dss : List (List Dd)} {f rows : List Int} (h : eachB dss f rows = true) : taleB dss f rows = true ∧ roundB (pwL (eventsB dss) f rows) = false := by
  unfold eachB at h
  rw [Bool.and_eq_true, Bool.not_eq_true'] at h
  exact h
/-- What stands at the head of the list. -/
theorem beg_ev {dss : List (List Dd)} (hb : workB dss = true) : 3 ≤ (eventsB dss).length ∧ (eventsB dss).getD 0 zE = (-1, -1, false, 0, 0, 0) ∧ (eventsB dss).getD 1 zE = (-1, -1, false, 1, 0, 1) ∧ (eventsB dss).getD 2 zE = (-1, -1, false, 2, 0, 2) := by
  have e1 : eventsB dss = evsW dss dss.length := by rw [eventsB, if_pos hb]
  obtain ⟨t, ht⟩ := evs_pre dss 0 dss.length (Nat.zero_le _)
  have ht' : evsW dss dss.length = evBeg ++ t := ht
  rw [e1]
  refine ⟨by rw [ht']; simp [evBeg], beg_get ht'⟩
theorem beg_place {dss : List (List Dd)} (hb : workB dss = true) {i : Nat} (hi : i < 3) : ((eventsB dss).getD i zE).2.2.2.1 = (i : Int) ∧ ((eventsB dss).getD i zE).2.2.1 = false ∧ csE ((eventsB dss).getD i zE) = (i : Int) ∧ ((eventsB dss).getD i zE).1 = -1 := by
  obtain ⟨_, h0, h1, h2⟩ := beg_ev hb
  rcases (by omega : i = 0 ∨ i = 1 ∨ i = 2) with rfl | rfl | rfl
  · rw [h0]; exact ⟨rfl, rfl, rfl, rfl⟩
  · rw [h1]; exact ⟨rfl, rfl, rfl, rfl⟩
  · rw [h2]; exact ⟨rfl, rfl, rfl, rfl⟩
structure Told (dss : List (List Dd)) (f rows : List Int) : Prop where
  work : workB dss = true
  twelve : (eventsB dss).length ≤ 12
  webs : Webs (eventsB dss) f rows
  src : srcB (chcL (eventsB dss)) f = true
  rws : rowsL (eventsB dss) rows = true
  pw : Web (eventsB dss).length (pwL (eventsB dss) f rows)
  pwl : ∀ i j, i < (eventsB dss).length → line (pwL (eventsB dss) f rows) i j = (line (plcL (eventsB dss)) i j || line (fwL (eventsB dss) f) i j || (line (rwL (eventsB dss) rows) i j || line (agL (eventsB dss) f rows) i j))
  sw : Web (eventsB dss).length (swL dss (eventsB dss) f rows)
  swl : ∀ i j, i < (eventsB dss).length → line (swL dss (eventsB dss) f rows) i j = (line (kepL dss (eventsB dss)) i j || line (owL (eventsB dss) f) i j || (line (rwL (eventsB dss) rows) i j || line (agL (eventsB dss) f rows) i j))
  xw : Web (eventsB dss).length (xwL (eventsB dss) f rows)
  xwl : ∀ i j, i < (eventsB dss).length → line (xwL (eventsB dss) f rows) i j = (line (behL (eventsB dss)) i j || line (fwL (eventsB dss) f) i j || (line (rwL (eventsB dss) rows) i j || line (agL (eventsB dss) f rows) i j))
  cls : (clsB (eventsB dss)).length = (eventsB dss).length
theorem told_of {dss : List (List Dd)} {f rows : List Int} (h : taleB dss f rows = true) : Told dss f rows := by
  obtain ⟨hb, hs, hr⟩ := tale_use h
  have hx := eventsB_12 dss
  have W := webs_of hx hs hr
  have p := web_four (plc_line hx).1 W.fw W.rw' W.ag
  have s := web_four (kep_line (dss := dss) hx).1 (ow_line W).1 W.rw' W.ag
  have x := web_four (beh_line hx).1 W.fw W.rw' W.ag
  exact ⟨hb, hx, W, hs, hr, p.1, p.2, s.1, s.2, x.1, x.2, by unfold clsB; rw [if_pos hx, List.length_map]⟩
theorem beh_is {es : List Ev} {i k : Nat} (hi : i < k) (h : (i < 3 ∧ 3 ≤ k) ∨ (3 ≤ i ∧ (es.getD i zE).1 = (es.getD k zE).1)) : behP es i k = true := by
  unfold behP
  rcases h with ⟨h1, h2⟩ | ⟨h1, h2⟩
  · simp [hi, h1, h2]
  · rw [h2]; simp [hi, h1]
/-- A line between two at one place, of one clerk or from the beginning. -/
theorem plc_is {es : List Ev} (hx : es.length ≤ 12) {i k : Nat} (hi : i < k) (hk : k < es.length) (h : (i < 3 ∧ 3 ≤ k) ∨ (3 ≤ i ∧ (es.getD i zE).1 = (es.getD k zE).1)) (hp : (es.getD i zE).2.2.2.1 = (es.getD k zE).2.2.2.1) : line (plcL es) i k = true := by
  rw [(plc_line hx).2 i k (by omega)]
  have h1 : behP es i k = true := beh_is hi h
  have h2 : plcP es i k = false := by unfold plcP; rw [hp]; simp
  simp [hk, h1, h2]
theorem each_use {dss : List (List Dd)} {f rows : List Int} (h : eachB dss f rows = true) {i r k : Nat} (hi : i < (idxB rdE (eventsB dss)).length) (er : (idxB rdE (eventsB dss)).getD i 0 = (r : Int)) (hk : k < (eventsB dss).length)
    (hw : ((eventsB dss).getD k zE).2.2.1 = false) (hc : (k < 3 ∧ 3 ≤ r) ∨ (3 ≤ k ∧ 3 ≤ r ∧ ((eventsB dss).getD k zE).1 = ((eventsB dss).getD r zE).1)) (hp : ((eventsB dss).getD k zE).2.2.2.1 = ((eventsB dss).getD r zE).2.2.2.1) :
    (r < k → f.getD i 0 ≠ (k : Int)) ∧ (k < r → f.getD i 0 ≠ (k : Int) → line (rwL (eventsB dss) rows) k (f.getD i 0).toNat = true) := by
  obtain ⟨ht, hr0⟩ := each_parts h
  have T := told_of ht
  obtain ⟨sl, su⟩ := src_use T.twelve T.src
  have hrn : r < (eventsB dss).length := by have := (rd_in T.twelve hi).2; omega
  constructor
  · intro hlt e
    refine two_round T.pw hr0 hk (j := r) ?_ ?_
    · rw [T.pwl k r hk, (T.webs.fwl k r hk).2 ⟨i, hi, e, er⟩]; simp
    · have := plc_is T.twelve hlt hk (.inr (by rcases hc with h | h <;> omega)) hp.symm
      rw [T.pwl r k hrn, this]; simp
  · intro hlt hne
    obtain ⟨⟨q1, q2⟩, q3⟩ := su i hi
    obtain ⟨a, ea⟩ := Int.eq_ofNat_of_zero_le q1
    have ha : a < (eventsB dss).length := by omega
    have hfw := fr_is T.twelve T.src hi
    rw [ea, Int.toNat_natCast] at hfw q3 ⊢
    unfold plE at q3
    rw [er, Int.toNat_natCast] at q3
    rcases row_tot T.twelve T.rws hk ha hw hfw (place_ev T.work hk) (by rw [hp, q3]) (by omega) with h1 | h1
    · exact h1
    · exfalso
      refine two_round T.pw hr0 hrn (j := k) ?_ ?_
      · have : line (agL (eventsB dss) f rows) r k = true := (T.webs.agl r k hrn).2 ⟨i, hi, er, by rw [ea, Int.toNat_natCast]; exact h1⟩
        rw [T.pwl r k hrn, this]; simp
      · have := plc_is T.twelve hlt hrn (by rcases hc with h | h <;> omega) hp
        rw [T.pwl k r hk, this]; simp
theorem slow_each {dss : List (List Dd)} {f rows : List Int} (h : slowB dss f rows = true) : eachB dss f rows = true := by
  unfold slowB at h
  simp only [Bool.and_eq_true] at h
  unfold eachB
  rw [h.1, h.2.1]; rfl
/-- Slow ink asks for fewer lines than quick ink. -/
theorem slow_in {dss : List (List Dd)} {f rows : List Int} (T : Told dss f rows) : ∀ i j, i < (eventsB dss).length → j < (eventsB dss).length → line (swL dss (eventsB dss) f rows) i j = true → line (xwL (eventsB dss) f rows) i j = true := by
  intro i j hi hj hl
  rw [T.swl i j hi] at hl
  rw [T.xwl i j hi]
  simp only [Bool.or_eq_true] at hl ⊢
  rcases hl with (h | h) | h
  · refine .inl (.inl ?_)
    rw [(kep_line T.twelve).2 i j hi] at h
    rw [(beh_line T.twelve).2 i j hi]
    simp only [Bool.and_eq_true] at h ⊢
    exact h.1
  · refine .inl (.inr ?_)
    rw [(ow_line T.webs).2 i j hi, Bool.and_eq_true] at h
    exact h.1
  · exact .inr h
theorem strict_slow {dss : List (List Dd)} {f rows : List Int} (h : strictB dss f rows = true) : slowB dss f rows = true := by
  unfold strictB at h
  simp only [Bool.and_eq_true, Bool.not_eq_true'] at h
  have T := told_of h.1
  unfold slowB
  rw [h.1, h.2.1, less_lift T.sw T.xw T.cls (slow_in T) h.2.2]
  rfl
/-- Where all lines are kept, slow ink is as quick ink. -/
theorem kept_strict {dss : List (List Dd)} {f rows : List Int} (hk : kepL dss (eventsB dss) = behL (eventsB dss)) : slowB dss f rows = strictB dss f rows := by
  cases hs : strictB dss f rows with
  | true => exact strict_slow hs
  | false =>
    cases hq : slowB dss f rows with
    | false => rfl
    | true =>
      exfalso
      have he := slow_each hq
      obtain ⟨ht, hr0⟩ := each_parts he
      have T := told_of ht
      unfold slowB at hq
      simp only [Bool.and_eq_true, Bool.not_eq_true'] at hq
      have : roundB (liftL (xwL (eventsB dss) f rows) (clsB (eventsB dss))) = false := by
        refine less_lift T.xw T.sw T.cls (fun i j hi hj hl => ?_) hq.2.2
        rw [T.xwl i j hi] at hl
        rw [T.swl i j hi, hk]
        simp only [Bool.or_eq_true] at hl ⊢
        rcases hl with (h | h) | h
        · exact .inl (.inl h)
        · cases ho : owP (eventsB dss) i j with
          | false => exact .inl (.inr (by rw [(ow_line T.webs).2 i j hi, h, ho]; rfl))
          | true =>
            unfold owP at ho
            simp only [Bool.and_eq_true, decide_eq_true_eq, beq_iff_eq] at ho
            obtain ⟨q, hq1, hq2, hq3⟩ := (T.webs.fwl i j hi).1 h
            obtain ⟨sl, su⟩ := src_use T.twelve T.src
            have hw := fr_is T.twelve T.src hq1
            have hp := (su q hq1).2
            have hrd := rd_is T.twelve hq1
            unfold plE at hp
            rw [hq2, Int.toNat_natCast] at hw hp
            rw [hq3, Int.toNat_natCast] at hp hrd
            have hu := (each_use he hq1 hq3 hi hw (.inr ⟨ho.1.1, ho.1.2, ho.2⟩) hp).1
            have hne : i ≠ j := fun e => by rw [e, hrd] at hw; cases hw
            have hlt : i < j := by
              apply Classical.byContradiction
              intro hno
              exact hu (by omega) hq2
            refine .inl (.inl ?_)
            rw [(beh_line T.twelve).2 i j hi]
            rw [beh_is hlt (.inr ⟨ho.1.1, ho.2⟩)]
            simp [hj]
        · exact .inr h
      unfold strictB at hs
      rw [hq.1, hq.2.1, this] at hs
      cases hs
/-- A work of reads and swaps alone keeps all its lines. -/
theorem kept_swaps {dss : List (List Dd)} (h : ∀ j, 3 ≤ j → j < (eventsB dss).length → ((eventsB dss).getD j zE).2.2.1 = false → (dOf dss ((eventsB dss).getD j zE)).1 = 3) : kepL dss (eventsB dss) = behL (eventsB dss) := by
  have hx := eventsB_12 dss
  obtain ⟨w1, l1⟩ := kep_line (dss := dss) hx
  obtain ⟨w2, l2⟩ := beh_line hx
  refine Web.ext w1 w2 (fun i j hi hj => ?_)
  rw [l1 i j hi, l2 i j hi]
  have : (kepP dss (eventsB dss) i j) = false := by
    unfold kepP kepQ rdE
    by_cases h3 : 3 ≤ i
    · cases hr : ((eventsB dss).getD i zE).2.2.1 with
      | true => simp
      | false =>
        have : wholeD (dOf dss ((eventsB dss).getD i zE)) = true := by unfold wholeD; rw [h i h3 hi hr]; rfl
        rw [this]; simp
    · simp [h3]
  rw [this]; simp
end Go.Proofs.Ytkbkdlaknmgjpaa

/- How long the webs of chapters 11 to 13 are. -/
namespace Go.Proofs.Ytkbkdlaknmgjpaa
open Go.RowKit

theorem pwB_len (dss : List (List Dd)) (f rows : List Int) : (pwB dss f rows).length ≤ 12 := by
  unfold pwB
  split
  · rename_i h
    have T := told_of h
    rw [T.pw.2.1]
    exact T.twelve
  · simp
theorem swB_len (dss : List (List Dd)) (f rows : List Int) : (swB dss f rows).length ≤ 12 := by
  unfold swB
  split
  · rename_i h
    have T := told_of h
    rw [T.sw.2.1]
    exact T.twelve
  · simp
theorem xwB_len (dss : List (List Dd)) (f rows : List Int) : (xwB dss f rows).length ≤ 12 := by
  unfold xwB
  split
  · rename_i h
    have T := told_of h
    rw [T.xw.2.1]
    exact T.twelve
  · simp
theorem rd_at {es : List Ev} (hx : es.length ≤ 12) {i : Nat} (hi : i < (idxB rdE es).length) : (0 ≤ (idxB rdE es).getD i 0 ∧ (idxB rdE es).getD i 0 < (es.length : Int)) ∧ (es.getD ((idxB rdE es).getD i 0).toNat zE).2.2.1 = true := by
  refine ⟨rd_in hx hi, ?_⟩
  have hm : (idxB rdE es).getD i 0 ∈ idxB rdE es := by
    rw [List.getD_eq_getElem?_getD, List.getElem?_eq_getElem hi]
    exact List.getElem_mem hi
  unfold idxB at hm ⊢
  rw [if_pos hx] at hm ⊢
  exact idxK_mem _ _ _ _ hm
theorem beg_wr {dss : List (List Dd)} (hb : workB dss = true) {j : Nat} (hj : j < 3) : ((eventsB dss).getD j zE).2.2.1 = false := by
  obtain ⟨t, ht⟩ := (evs_good (dss := dss) (by simp only [workB, Bool.and_eq_true, decide_eq_true_eq] at hb; intro i hi; have := List.all_eq_true.1 hb.1.1.1.2 _ (List.getElem_mem hi); rw [List.getD_eq_getElem?_getD, List.getElem?_eq_getElem hi]; exact this) dss.length (Nat.le_refl _)).1
  rw [eventsB, if_pos hb, ht, List.getD_eq_getElem?_getD, List.getElem?_append_left (by simp [evBeg]; omega)]
  have : j = 0 ∨ j = 1 ∨ j = 2 := by omega
  rcases this with rfl | rfl | rfl <;> rfl
end Go.Proofs.Ytkbkdlaknmgjpaa

/- Plain mathematics: each event of a right work, by its deed. Classes rise along the list. -/
namespace Go.Proofs.Ytkbkdlaknmgjpaa

/-- Does the i-th event of such a deed read? -/
def rdI (d : Dd) (i : Nat) : Bool := decide (d.1 ≠ 2) && decide (i = 0)
def vlI (d : Dd) (i : Nat) : Int := if rdI d i = true then 0 else d.2.2.1
theorem oneE_at {c k : Nat} {d : Dd} {z : Int} (hd : d.1 = 1 ∨ d.1 = 2 ∨ d.1 = 3 ∨ d.1 = 4) {i : Nat} (hi : i < numD d) : (oneE c k d z)[i]? = some ((c : Int), (k : Int), rdI d i, d.2.1, vlI d i, z) := by
  unfold numD at hi
  unfold oneE vlI rdI
  rcases hd with h | h | h | h
  · rw [if_neg (by omega), if_neg (by omega)] at hi
    rw [if_neg (by omega), if_neg (by omega), if_neg (by omega)]
    obtain rfl : i = 0 := by omega
    simp [h]
  · rw [if_neg (by omega), if_neg (by omega)] at hi
    rw [if_neg (by omega), if_neg (by omega), if_pos h]
    obtain rfl : i = 0 := by omega
    simp [h]
  · rw [if_neg (by omega), if_pos h] at hi
    rw [if_neg (by omega), if_pos h]
    rcases (by omega : i = 0 ∨ i = 1) with rfl | rfl
    · simp [h]
    · simp
  · rw [if_pos h] at hi
    omega
/-- The j-th event is the i-th of deed k of clerk c. -/
structure EvIs (dss : List (List Dd)) (j c k i : Nat) : Prop where
  hc : c < dss.length
  hk : k < (dss.getD c []).length
  hi : i < numD (dAt dss c k)
  hj : j = offN dss c k + i
theorem EvIs.kind {dss : List (List Dd)} {j c k i : Nat} (h : EvIs dss j c k i) : (dAt dss c k).1 ≠ 4 := by
  intro e
  have := h.hi
  unfold numD at this
  rw [if_pos e] at this
  omega
theorem ev_dec {dss : List (List Dd)} (hb : workB dss = true) {j : Nat} (h3 : 3 ≤ j) (hj : j < (eventsB dss).length) : ∃ c k i, EvIs dss j c k i := by
  rw [eventsB, if_pos hb] at hj
  obtain ⟨c, k, i, h1, h2, h4, h5⟩ := es_dec dss h3 dss.length hj
  exact ⟨c, k, i, h1, h2, h4, h5⟩
theorem EvIs.at {dss : List (List Dd)} (hb : workB dss = true) {j c k i : Nat} (h : EvIs dss j c k i) : (eventsB dss).getD j zE = ((c : Int), (k : Int), rdI (dAt dss c k) i, (dAt dss c k).2.1, vlI (dAt dss c k) i, clsD dss c k) := by
  have hd := okD_kindE (okC_of hb h.hc k h.hk)
  rw [eventsB, if_pos hb, List.getD_eq_getElem?_getD, h.hj, es_at h.hc h.hk (oneE_at hd h.hi)]
  rfl
theorem EvIs.lt {dss : List (List Dd)} (hb : workB dss = true) {j c k i : Nat} (h : EvIs dss j c k i) : 3 ≤ j ∧ j < (eventsB dss).length := by
  have hd := okD_kindE (okC_of hb h.hc k h.hk)
  have h1 := es_at (n := dss.length) h.hc h.hk (oneE_at (z := clsD dss c k) (c := c) (k := k) hd h.hi)
  have h2 := off_three dss c k
  rw [eventsB, if_pos hb, h.hj]
  exact ⟨by omega, (List.getElem?_eq_some_iff.1 h1).1⟩
/-- Which of two comes first. -/
theorem EvIs.ord {dss : List (List Dd)} {j c k i j' c' k' i' : Nat} (h : EvIs dss j c k i) (h' : EvIs dss j' c' k' i') : j < j' ↔ c < c' ∨ (c = c' ∧ (k < k' ∨ (k = k' ∧ i < i'))) := by
  have e1 := h.hj
  have e2 := h'.hj
  have l1 := h.hi
  have l2 := h'.hi
  constructor
  · intro hlt
    by_cases a : c < c'
    · exact .inl a
    by_cases b : c' < c
    · have := off_lt (k' := k) h'.hk (.inl b); omega
    obtain rfl : c = c' := by omega
    refine .inr ⟨rfl, ?_⟩
    by_cases a : k < k'
    · exact .inl a
    by_cases b : k' < k
    · have := off_lt (c' := c) (k' := k) h'.hk (.inr ⟨rfl, b⟩); omega
    obtain rfl : k = k' := by omega
    exact .inr ⟨rfl, by omega⟩
  · rintro (a | ⟨rfl, a | ⟨rfl, a⟩⟩)
    · have := off_lt (k' := k') h.hk (.inl a); omega
    · have := off_lt (c' := c) (k' := k') h.hk (.inr ⟨rfl, a⟩); omega
    · omega
theorem EvIs.one {dss : List (List Dd)} {j c k i c' k' i' : Nat} (h : EvIs dss j c k i) (h' : EvIs dss j c' k' i') : c = c' ∧ k = k' ∧ i = i' := by
  have a := h.ord h'
  have b := h'.ord h
  by_cases hc : c = c'
  · subst hc
    by_cases hk : k = k'
    · subst hk
      exact ⟨rfl, rfl, by have := h.hj; have := h'.hj; omega⟩
    · by_cases hlt : k < k'
      · have := a.2 (.inr ⟨rfl, .inl hlt⟩); omega
      · have := b.2 (.inr ⟨rfl, .inl (by omega)⟩); omega
  · by_cases hlt : c < c'
    · have := a.2 (.inl hlt); omega
    · have := b.2 (.inl (by omega)); omega
theorem tog_between {ds : List Dd} (ht : Tog ds) {j k : Nat} (hk : k < ds.length) (hg : (ds.getD k zD).2.2.2 ≠ 0) (e : (ds.getD j zD).2.2.2 = (ds.getD k zD).2.2.2) : ∀ m : Nat, j + m < k → (ds.getD (k - 1 - m) zD).2.2.2 = (ds.getD k zD).2.2.2
  | 0, h => ht k j hk (by omega) hg e
  | m + 1, h => by
    have ih := tog_between ht hk hg e m (by omega)
    have h2 := ht (k - 1 - m) j (by omega) (by omega) (by rw [ih]; exact hg) (by rw [ih]; exact e)
    rw [show k - 1 - (m + 1) = k - 1 - m - 1 by omega, h2, ih]
/-- What lies between two of one group is of it. -/
theorem grp_between {dss : List (List Dd)} (hb : workB dss = true) {c j k l : Nat} (hc : c < dss.length) (h1 : j ≤ k) (h2 : k ≤ l) (hl : l < (dss.getD c []).length) (hg : gAt dss c l ≠ 0) (e : gAt dss c j = gAt dss c l) : gAt dss c k = gAt dss c l := by
  by_cases a : k = l
  · rw [a]
  by_cases b : k = j
  · rw [b]; exact e
  have := tog_between (work_tog hb c hc) hl hg e (l - 1 - k) (by omega)
  rw [show l - 1 - (l - 1 - k) = k by omega] at this
  exact this
/-- Classes rise along the deeds. -/
theorem cls_mono {dss : List (List Dd)} (hb : workB dss = true) {c c' k k' : Nat} (hc : c < dss.length) (hc' : c' < dss.length) (hk : k < (dss.getD c []).length) (hk' : k' < (dss.getD c' []).length) (h4 : (dAt dss c k).1 ≠ 4) (h4' : (dAt dss c' k').1 ≠ 4)
    (h : c < c' ∨ (c = c' ∧ k ≤ k')) : clsD dss c k ≤ clsD dss c' k' := by
  have hok := okC_of hb hc
  have hok' := okC_of hb hc'
  obtain ⟨j, j1, e1⟩ : ∃ j, j ≤ k ∧ clsD dss c k = (offN dss c j : Int) := by
    rcases cls_at hok hk h4 with ⟨_, e⟩ | ⟨_, j, j1, _, _, e⟩
    · exact ⟨k, Nat.le_refl _, e⟩
    · exact ⟨j, j1, e⟩
  have hjk := off_le dss c j1
  rcases h with h | ⟨rfl, h⟩
  · have hle : ∀ j', offN dss c k ≤ offN dss c' j' := fun j' => by have := off_lt (k' := j') hk (.inl h); omega
    rcases cls_at hok' hk' h4' with ⟨_, e2⟩ | ⟨_, j', l1, _, _, e2⟩
    · have := hle k'; omega
    · have := hle j'; omega
  · rcases cls_at hok' hk' h4' with ⟨_, e2⟩ | ⟨g2, j', l1, l2, l3, e2⟩
    · have := off_le dss c h; omega
    · by_cases a : k ≤ j'
      · have := off_le dss c a; omega
      · have hg : gAt dss c k = gAt dss c k' := grp_between hb hc (by omega) h hk' g2 l2
        have := (cls_iff hok hok' hk hk' h4 h4').2 ⟨rfl, .inr ⟨by rw [hg]; exact g2, hg⟩⟩
        omega
end Go.Proofs.Ytkbkdlaknmgjpaa

/- Plain mathematics: what FnSlow asks. -/
namespace Go.Proofs.Ytkbkdlaknmgjpaa
open Go.RowKit

theorem beg_ck {dss : List (List Dd)} (hb : workB dss = true) {j : Nat} (hj : j < 3) : ((eventsB dss).getD j zE).1 = -1 := by
  obtain ⟨t, ht⟩ := (evs_good (dss := dss) (by simp only [workB, Bool.and_eq_true, decide_eq_true_eq] at hb; intro i hi; have := List.all_eq_true.1 hb.1.1.1.2 _ (List.getElem_mem hi); rw [List.getD_eq_getElem?_getD, List.getElem?_eq_getElem hi]; exact this) dss.length (Nat.le_refl _)).1
  rw [eventsB, if_pos hb, ht, List.getD_eq_getElem?_getD, List.getElem?_append_left (by simp [evBeg]; omega)]
  have : j = 0 ∨ j = 1 ∨ j = 2 := by omega
  rcases this with rfl | rfl | rfl <;> rfl
theorem ow_cell {dss : List (List Dd)} {f : List Int} (h : sourceB dss f = true) : (owB dss f).length = (eventsB dss).length ∧ (fwB dss f).length = (eventsB dss).length ∧
    ∀ i k : Nat, i < (eventsB dss).length → k < (eventsB dss).length → inSetB ((owB dss f).getD i 0) (k : Int) = (inSetB ((fwB dss f).getD i 0) (k : Int) && (decide (i < 3) || (((eventsB dss).getD i zE).1 != ((eventsB dss).getD k zE).1))) := by
  have hbs := h
  rw [sourceB, Bool.and_eq_true] at hbs
  obtain ⟨hb, hs⟩ := hbs
  have hx := eventsB_12 dss
  obtain ⟨sl, su⟩ := src_use hx hs
  have wf := fw_line (f := f) hx (idxB rdE (eventsB dss)).length (fun i hi => rd_in hx hi) (fun i hi => (su i hi).1)
  have wo := web_offAll (p := owP (eventsB dss)) (st := fwL (eventsB dss) f) wf.1 (eventsB dss).length (Nat.le_refl _)
  have eo : owB dss f = owL (eventsB dss) f := by rw [owB, if_pos h]
  have ef : fwB dss f = fwL (eventsB dss) f := by rw [fwB, if_pos h]
  refine ⟨by rw [eo]; exact wo.1.2.1, by rw [ef]; exact wf.1.2.1, fun i k hi hk => ?_⟩
  rw [eo, ef]
  have h1 := wo.2 i k hi
  have e1 : line (owL (eventsB dss) f) i k = (line (fwL (eventsB dss) f) i k && !owP (eventsB dss) i k) := by
    unfold owL
    rw [h1]
    simp [hi, hk]
  unfold line at e1
  rw [e1]
  congr 1
  unfold owP
  by_cases h3 : i < 3
  · simp [h3, show ¬ 3 ≤ i by omega]
  · by_cases k3 : k < 3
    · have a := beg_ck hb k3
      obtain ⟨c, q, m, E⟩ := ev_dec hb (show 3 ≤ i by omega) hi
      have b := E.at hb
      rw [a, b]
      have : ((c : Int) != -1) = true := by simp
      simp [h3, this, show ¬ 3 ≤ k by omega]
    · simp [h3, show 3 ≤ i by omega, show 3 ≤ k by omega, bne]
theorem owB_len (dss : List (List Dd)) (f : List Int) : (owB dss f).length ≤ 12 := by
  cases h : sourceB dss f with
  | true => rw [(ow_cell h).1]; exact eventsB_12 dss
  | false => rw [owB, h]; simp
theorem slow_form {dss : List (List Dd)} {f rows : List Int} (h : taleB dss f rows = true) : slowB dss f rows = (eachB dss f rows && !roundB (liftL (swB dss f rows) (clsB (eventsB dss)))) := by
  unfold slowB eachB swB
  rw [h, if_pos rfl]
  rfl
end Go.Proofs.Ytkbkdlaknmgjpaa

/- Plain mathematics: the lines of a web one by one, those between two clerks alone, drawn anew: as the program makes FromOthers. -/
namespace Go.Proofs.Ytkbkdlaknmgjpaa
open Go.RowKit

/-- The lines of one event, of the first k events, of all. -/
def linI (i : Nat) (l : List Int) : List (Int × Int) := l.map (fun j => ((i : Int), j))
def linK (zs : List Int) : Nat → List (Int × Int)
  | 0 => []
  | k + 1 => linK zs k ++ linI k (mem (zs.getD k 0) 12)
def linL (zs : List Int) : List (Int × Int) := linK zs zs.length
/-- A line between two clerks. -/
def othP (es : List Ev) (x : Int × Int) : Bool := (es.getD x.1.toNat zE).1 != (es.getD x.2.toNat zE).1
def othL (es : List Ev) (zs : List Int) : List (Int × Int) := (linL zs).filter (othP es)
/-- The lines drawn into a new web. -/
def drwK (n : Nat) (l : List (Int × Int)) (k : Nat) : List Int := fwK n (l.map (·.2)) (l.map (·.1)) k

theorem lin_iff (zs : List Int) (x : Int × Int) : ∀ k : Nat, x ∈ linK zs k ↔ ∃ a j : Nat, a < k ∧ j < 12 ∧ x = ((a : Int), (j : Int)) ∧ line zs a j = true
  | 0 => by simp [linK]
  | k + 1 => by
    rw [linK, List.mem_append, lin_iff zs x k, linI, List.mem_map]
    constructor
    · rintro (⟨a, j, ha, hj, hx, hl⟩ | ⟨j, hj, rfl⟩)
      · exact ⟨a, j, by omega, hj, hx, hl⟩
      · obtain ⟨m, hm, rfl, hi⟩ := (mem_iff _ _ _).1 hj
        exact ⟨k, m, by omega, hm, rfl, hi⟩
    · rintro ⟨a, j, ha, hj, rfl, hl⟩
      by_cases e : a = k
      · subst e
        exact .inr ⟨j, (mem_iff _ _ _).2 ⟨j, hj, rfl, hl⟩, rfl⟩
      · exact .inl ⟨a, j, by omega, hj, rfl, hl⟩
theorem lin_len (zs : List Int) : ∀ k : Nat, (linK zs k).length ≤ k * 12
  | 0 => by simp [linK]
  | k + 1 => by
    have := lin_len zs k
    have h2 := mem_len (zs.getD k 0) 12
    rw [linK, List.length_append, linI, List.length_map, Nat.add_mul]
    omega
theorem pr_get (l : List (Int × Int)) (i : Nat) (hi : i < l.length) : ((l.map (·.1)).getD i 0, (l.map (·.2)).getD i 0) = l[i] := by
  rw [List.getD_eq_getElem?_getD, List.getD_eq_getElem?_getD, List.getElem?_map, List.getElem?_map, List.getElem?_eq_getElem hi]
  rfl
theorem lin_in {n : Nat} {zs : List Int} (hz : Web n zs) {x : Int × Int} (h : x ∈ linL zs) : ∃ a j : Nat, x = ((a : Int), (j : Int)) ∧ a < n ∧ j < n ∧ line zs a j = true := by
  unfold linL at h
  rw [hz.2.1] at h
  obtain ⟨a, j, ha, -, rfl, hl⟩ := (lin_iff zs x n).1 h
  exact ⟨a, j, rfl, ha, hz.lt ha hl, hl⟩
theorem drw_web {n : Nat} {zs : List Int} (hz : Web n zs) {l : List (Int × Int)} (hl : ∀ x ∈ l, x ∈ linL zs) : ∀ k : Nat, k ≤ l.length →
    Web n (drwK n l k) ∧ ∀ a j : Nat, a < n → (line (drwK n l k) a j = true ↔ ((a : Int), (j : Int)) ∈ l.take k) := by
  intro k hk
  have hb : ∀ i, i < k → ∃ a j : Nat, (l.map (·.1)).getD i 0 = (a : Int) ∧ (l.map (·.2)).getD i 0 = (j : Int) ∧ a < n ∧ j < n := by
    intro i hi
    have e := pr_get l i (by omega)
    obtain ⟨a, j, hx, ha, hj, -⟩ := lin_in hz (hl _ (List.getElem_mem (show i < l.length by omega)))
    rw [hx] at e
    exact ⟨a, j, congrArg Prod.fst e, congrArg Prod.snd e, ha, hj⟩
  have F := fw_line (n := n) (rs := l.map (·.2)) (f := l.map (·.1)) hz.1 k
    (fun i hi => by obtain ⟨a, j, h1, h2, h3, h4⟩ := hb i hi; rw [h2]; omega)
    (fun i hi => by obtain ⟨a, j, h1, h2, h3, h4⟩ := hb i hi; rw [h1]; omega)
  refine ⟨F.1, fun a j ha => ?_⟩
  rw [drwK, F.2 a j ha]
  constructor
  · rintro ⟨i, hi, h1, h2⟩
    have e := pr_get l i (by omega)
    rw [h1, h2] at e
    rw [e]
    exact List.mem_take_iff_getElem.2 ⟨i, by omega, rfl⟩
  · intro h
    obtain ⟨i, hi, e⟩ := List.mem_take_iff_getElem.1 h
    have e2 := pr_get l i (by omega)
    rw [e] at e2
    exact ⟨i, by omega, congrArg Prod.fst e2, congrArg Prod.snd e2⟩
theorem oth_sub (es : List Ev) (zs : List Int) : ∀ x ∈ othL es zs, x ∈ linL zs := fun _ h => (List.mem_filter.1 h).1
/-- The program's FromOthers of a right source is the specification's. -/
theorem fo_same {dss : List (List Dd)} {f : List Int} (h : sourceB dss f = true) : drwK (eventsB dss).length (othL (eventsB dss) (fwB dss f)) (othL (eventsB dss) (fwB dss f)).length = owB dss f := by
  have hbs := h
  rw [sourceB, Bool.and_eq_true] at hbs
  obtain ⟨hb, hs⟩ := hbs
  have hx := eventsB_12 dss
  obtain ⟨sl, su⟩ := src_use hx hs
  have wf := fw_line (f := f) hx (idxB rdE (eventsB dss)).length (fun i hi => rd_in hx hi) (fun i hi => (su i hi).1)
  have wo := web_offAll (p := owP (eventsB dss)) (st := fwL (eventsB dss) f) wf.1 (eventsB dss).length (Nat.le_refl _)
  have eo : owB dss f = owL (eventsB dss) f := by rw [owB, if_pos h]
  have ef : fwB dss f = fwL (eventsB dss) f := by rw [fwB, if_pos h]
  have OC := (ow_cell h).2.2
  have WF : Web (eventsB dss).length (fwB dss f) := by rw [ef]; exact wf.1
  have WO : Web (eventsB dss).length (owB dss f) := by rw [eo]; exact wo.1
  have WD := drw_web WF (oth_sub (eventsB dss) (fwB dss f)) _ (Nat.le_refl _)
  refine Web.ext WD.1 WO (fun i j hi hj => ?_)
  rw [Bool.eq_iff_iff, WD.2 i j hi, List.take_length]
  unfold line
  rw [OC i j hi hj, othL, List.mem_filter]
  unfold linL
  rw [WF.2.1, lin_iff]
  have e1 : (∃ a m : Nat, a < (eventsB dss).length ∧ m < 12 ∧ ((i : Int), (j : Int)) = ((a : Int), (m : Int)) ∧ line (fwB dss f) a m = true) ↔ inSetB ((fwB dss f).getD i 0) (j : Int) = true := by
    constructor
    · rintro ⟨a, m, _, _, e, hl⟩
      have e1 := congrArg Prod.fst e
      have e2 := congrArg Prod.snd e
      simp only at e1 e2
      obtain rfl : i = a := by omega
      obtain rfl : j = m := by omega
      exact hl
    · intro hl
      exact ⟨i, j, hi, by omega, rfl, hl⟩
  rw [e1, Bool.and_eq_true]
  refine and_congr_right (fun hl => ?_)
  have hr : ((eventsB dss).getD j zE).2.2.1 = true := by
    rw [ef] at hl
    obtain ⟨k, hk, -, h2⟩ := (wf.2 i j hi).1 hl
    have := (rd_at hx hk).2
    rw [h2] at this
    exact this
  have j3 : 3 ≤ j := by
    by_cases h3 : j < 3
    · rw [beg_wr hb h3] at hr; cases hr
    · omega
  unfold othP
  dsimp only
  rw [Int.toNat_natCast, Int.toNat_natCast]
  by_cases i3 : i < 3
  · have a := beg_ck hb i3
    obtain ⟨c, q, m, E⟩ := ev_dec hb j3 hj
    have b := E.at hb
    rw [a, b]
    simp [i3]
  · simp [i3]
/-- Of none it is none. -/
theorem fo_none {dss : List (List Dd)} {f : List Int} (h : sourceB dss f = false) : fwB dss f = [] ∧ owB dss f = [] := by
  rw [fwB, owB, h]
  exact ⟨rfl, rfl⟩
end Go.Proofs.Ytkbkdlaknmgjpaa

/- Contracts of the small methods on the program's sets: each answers as a plain function says and turns nothing. -/
namespace Go.Proofs.Ytkbkdlaknmgjpaa
open Go.ChangeShapes Go.WideShapes Go.ChangeAt Go.RowKit

theorem inSize_any (x : Int) (w : World) :
    Calls Try.prog 63 #[.int .i64 x] w fun e w' => e = .returned (.bool (inB x 0 11)) ∧ w' = w := by
  go_enter Try.func63, Try.ntmps63
  go_wp2
  all_goals
    go_ret
    exact ⟨ret_bool (by rw [Bool.eq_iff_iff]; unfold inB; simp; omega), rfl⟩
theorem isOf_any (n s : Int) (w : World) :
    Calls Try.prog 70 #[.int .i64 s, .int .i64 n] w fun e w' => e = .returned (.bool (okB n s)) ∧ w' = w := by
  go_enter Try.func70, Try.ntmps70
  go_wp2
  · go_ret
    exact ⟨ret_bool (by rw [wrap64_pow n (by assumption) (by assumption), Bool.eq_iff_iff]; unfold okB; simp; omega), rfl⟩
  all_goals
    go_ret
    exact ⟨ret_bool (by rw [Bool.eq_iff_iff]; unfold okB; simp; omega), rfl⟩
theorem has_any (s i : Int) (w : World) :
    Calls Try.prog 62 #[.int .i64 s, .int .i64 i] w fun e w' => e = .returned (.bool (inSetB s i)) ∧ w' = w := by
  have key : okB 12 s = inB s 0 4095 := by rw [Bool.eq_iff_iff]; unfold okB inB; simp; omega
  cases hs : inB s 0 4095
  · have hk : okB 12 s = false := key.trans hs
    clear key
    go_enter Try.func62, Try.ntmps62
    go_wp2_with (go_at_call 70; refine (isOf_any _ _ _).mono ?_; rintro e w' ⟨rfl, rfl⟩)
    go_ret
    exact ⟨ret_bool (by simp [inSetB, hs]), rfl⟩
  · have hk : okB 12 s = true := key.trans hs
    clear key
    cases hi : inB i 0 11
    · go_enter Try.func62, Try.ntmps62
      go_wp2_with (first | (go_at_call 70; refine (isOf_any _ _ _).mono ?_; rintro e w' ⟨rfl, rfl⟩) | (go_at_call 63; refine (inSize_any _ _).mono ?_; rintro e w' ⟨rfl, rfl⟩))
      go_ret
      exact ⟨ret_bool (by simp [inSetB, hi]), rfl⟩
    · have hi' := hi
      simp only [inB, decide_eq_true_eq] at hi'
      obtain ⟨i1, i2⟩ := hi'
      go_enter Try.func62, Try.ntmps62
      go_wp2_with (first | (go_at_call 70; refine (isOf_any _ _ _).mono ?_; rintro e w' ⟨rfl, rfl⟩) | (go_at_call 63; refine (inSize_any _ _).mono ?_; rintro e w' ⟨rfl, rfl⟩))
      go_ret
      exact ⟨ret_bool (by simp [inSetB, hs, hi, bitB]), rfl⟩
end Go.Proofs.Ytkbkdlaknmgjpaa

/- Contract of the program's Members: a new list of those that are in the set. -/
namespace Go.Proofs.Ytkbkdlaknmgjpaa
open Go.ChangeShapes Go.WideShapes Go.ChangeAt Go.RowKit

theorem mem_hit (s : Int) (k : Nat) (h : inSetB s k = true) : mem s (k + 1) = mem s k ++ [(k : Int)] := by simp [mem, h]
theorem mem_miss (s : Int) (k : Nat) (h : inSetB s k = false) : mem s (k + 1) = mem s k := by simp [mem, h]
set_option maxRecDepth 100000 in
set_option maxHeartbeats 400000 in
theorem chosen_has (s : Int) (w : World) :
    Calls Try.prog 61 #[.func (Fn.func 62) #[.int .i64 s] #[]] w fun e w' => ∃ v', e = .returned v' ∧ Own w' w.heap.size v' (mem s 12) ∧ Keep w w' := by
  have hown0 : Own (w.alloc (.cells #[] 2)) w.heap.size (.slice (some ⟨w.heap.size, 0, none⟩) 0 0) [] := World.ownsRow_lit w #[] 0 (Nat.le_refl _) (by decide) rfl
  obtain ⟨i0, hi, hz0, hz1, hz2⟩ := info_parts Try.infoI
  go_enter Try.func61, Try.ntmps61
  go_wp2
  go_loopw [3, 6] (fun v i wr => ∃ k : Nat, k ≤ 12 ∧ i = .int .i64 k ∧ Own wr w.heap.size v (mem s k) ∧ Keep w wr) (fun _ i _ => 12 - (intOf i).toNat)
  case atStart => exact ⟨0, Nat.zero_le _, rfl, hown0, (Keep.refl _).alloc _⟩
  case round =>
    obtain ⟨k, hk, rfl, ho, hK⟩ := hrel
    clear hown0
    by_cases hlt : k < 12
    · have hml := mem_len s k
      have hsz := hK.size
      cases hb : inSetB s k
      · have HM : Hid (mem s (k + 1) = mem s k) := mem_miss s k hb
        go_wp2_with (go_at_call 62; refine (has_any _ _ _).mono ?_; rintro e w' ⟨rfl, rfl⟩)
        go_roundw
        case rel => exact ⟨k + 1, by omega, by go_num, by rw [HM.out]; exact ho, hK⟩
        case measure => simp [intOf]; omega
      · have HM : Hid (mem s (k + 1) = mem s k ++ [(k : Int)]) := mem_hit s k hb
        go_wp2_with (first | (go_at_call 62; refine (has_any _ _ _).mono ?_; rintro e w' ⟨rfl, rfl⟩) | (at_builtin; refine wpList_append_own _ rfl _ _ 23 rfl w.heap.size 2 i0 (.int .i64 0) 1 8 Try.underlying23 hi hz0 hz1 hz2 rfl (by decide) _ _ _ rfl (World.ownsRow.alloc ho _) ⟨_, 0, none⟩ 1 1 [.int .i64 k] rfl rfl ?c1 ?c2 ?c3 ?c4 ?c5 ?_))
        case c1 =>
          intro j u hj
          match j, hj with
          | 0, hj => simp at hj; subst hj; simp [Addr.add]
        case c2 => intro u hu; simp at hu; subst hu; rfl
        case c3 => unfold maxLen; omega
        case c4 => omega
        case c5 => simp; omega
        intro v' w1 hown' hgrow _
        have hK1 : Keep w w1 := (hK.alloc _).grown hgrow ho.ge
        clear hgrow
        go_wp2
        go_roundw
        case rel => exact ⟨k + 1, by omega, by go_num, by rw [HM.out]; exact own_hit hown', hK1⟩
        case measure => simp [intOf]; omega
    · obtain rfl : k = 12 := by omega
      go_wp2
      go_ret
      exact ⟨_, rfl, ho, hK⟩
theorem implMembers_any (s : Int) (w : World) :
    Calls Try.prog 42 #[.int .i64 s] w fun e w' => ∃ v', e = .returned v' ∧ Own w' w.heap.size v' (mem s 12) ∧ Keep w w' := by
  go_enter Try.func42, Try.ntmps42
  go_wp2_with (go_at_call 61; refine (chosen_has _ _).mono ?_; rintro e w' ⟨v', rfl, ho, hK⟩)
  go_ret
  exact ⟨_, rfl, ho, hK⟩
end Go.Proofs.Ytkbkdlaknmgjpaa

/- Lists of lists of numbers in memory: that can be read ('RdL'); that grow, each part in a block apart from the row's ('AppL'). -/
namespace Go.Proofs.Ytkbkdlaknmgjpaa
open Go.ChangeShapes Go.WideShapes Go.ChangeAt Go.RowKit

def RdL (w : World) (v : Value) (zss : List (List Int)) : Prop :=
  ∃ (a : Option Addr) (cap : Nat), v = .slice a zss.length cap ∧
    (zss = [] ∨ ∃ b off, a = some ⟨b, off, none⟩ ∧ b < w.heap.size ∧ ∀ i, i < zss.length → ∃ vi, w.cell? ⟨b, off + i, none⟩ = some vi ∧ Rd w vi (zss.getD i []))
theorem RdL.keep {w w' : World} {v : Value} {zss : List (List Int)} (h : RdL w v zss) (k : Keep w w') : RdL w' v zss := by
  obtain ⟨a, cap, hv, h⟩ := h
  refine ⟨a, cap, hv, ?_⟩
  rcases h with h | ⟨b, off, ha, hb, hc⟩
  · exact .inl h
  · refine .inr ⟨b, off, ha, Nat.lt_of_lt_of_le hb k.size, fun i hi => ?_⟩
    obtain ⟨vi, h1, h2⟩ := hc i hi
    exact ⟨vi, (k.cell hb).trans h1, h2.keep k⟩
theorem Rd.keptR {w w' : World} {v : Value} {zs : List Int} {row : Option Nat} (h : Rd w v zs) (hg : w.grownBy w' row) (hne : v.ownBlock = none ∨ v.ownBlock ≠ row) : Rd w' v zs := by
  obtain ⟨a, cap, rfl, h⟩ := h
  refine ⟨a, cap, rfl, ?_⟩
  rcases h with h | ⟨b, off, rfl, hb, hc⟩
  · exact .inl h
  · refine .inr ⟨b, off, rfl, Nat.lt_of_lt_of_le hb hg.size, fun i hi => ?_⟩
    rw [World.cell?_of_block (w := w) (hg.block b hb (fun e => by rcases hne with h | h <;> simp [Value.ownBlock] at h; exact h e))]
    exact hc i hi
/-- The room of a slice. -/
def capZ : Value → Nat
  | .slice _ _ c => c
  | _ => 0
theorem Own.capz {w : World} {base : Nat} {v : Value} {zs : List Int} (h : Own w base v zs) : zs.length ≤ capZ v := by
  rcases h.2 with ⟨rfl, hz⟩ | ⟨g, cap, cur, rfl, hb, hg, hc, _⟩
  · rw [hz]; exact Nat.zero_le _
  · exact hc
/-- A list of numbers that can be read, in a block apart from that of x. -/
structure Beside (w : World) (x u : Value) (zs : List Int) : Prop where
  rd : Rd w u zs
  ne : u.ownBlock = none ∨ u.ownBlock ≠ x.ownBlock
  lt : ∀ k, u.ownBlock = some k → k < w.heap.size
  cap : zs.length ≤ capZ u
theorem Beside.keep {w w' : World} {x u : Value} {zs : List Int} (h : Beside w x u zs) (k : Keep w w') : Beside w' x u zs :=
  ⟨h.rd.keep k, h.ne, fun j hj => Nat.lt_of_lt_of_le (h.lt j hj) k.size, h.cap⟩
theorem Beside.grow {w w' : World} {x x' u : Value} {zs : List Int} (h : Beside w x u zs) (hg : w.grownBy w' x.ownBlock) (hb : x'.ownBlock = x.ownBlock ∨ x'.ownBlock = some w.heap.size) : Beside w' x' u zs := by
  refine ⟨h.rd.keptR hg h.ne, ?_, fun j hj => Nat.lt_of_lt_of_le (h.lt j hj) hg.size, h.cap⟩
  rcases hb with hb | hb
  · rw [hb]; exact h.ne
  · cases hu : u.ownBlock with
    | none => exact .inl rfl
    | some k => exact .inr (fun e => by rw [hb] at e; have := h.lt k hu; have := Option.some.inj e; omega)
theorem Own.beside {w' : World} {x u : Value} {zs : List Int} {base : Nat} (h : Own w' base u zs) (hx : ∀ k, x.ownBlock = some k → k < base) : Beside w' x u zs :=
  ⟨h.rd, by
    cases hu : u.ownBlock with
    | none => exact .inl rfl
    | some k => exact .inr (fun e => by have := hx k e.symm; have := h.ge k hu; omega), fun k hk => (World.ownsRow.lt h k hk).2, h.capz⟩
structure AppL (w : World) (base : Nat) (x : Value) (vs : List Value) (zss : List (List Int)) : Prop where
  row : w.ownsRow base 23 1 x zss.length vs
  each : ∀ i u, vs[i]? = some u → Beside w x u (zss.getD i [])
theorem AppL.keep {w w' : World} {base : Nat} {x : Value} {vs : List Value} {zss : List (List Int)} (h : AppL w base x vs zss) (k : Keep w w') : AppL w' base x vs zss :=
  ⟨World.ownsRow.kept h.row k.grownBy (by cases x.ownBlock <;> simp), fun i u hu => (h.each i u hu).keep k⟩
theorem AppL.lt {w : World} {base : Nat} {x : Value} {vs : List Value} {zss : List (List Int)} (h : AppL w base x vs zss) : ∀ k, x.ownBlock = some k → base ≤ k ∧ k < w.heap.size := World.ownsRow.lt h.row
theorem AppL.rd {w : World} {base : Nat} {x : Value} {vs : List Value} {zss : List (List Int)} (h : AppL w base x vs zss) : RdL w x zss := by
  have hl := h.row.1
  have hlt := h.lt
  have h2 := h.row
  rcases h.row.2 with ⟨rfl, hz⟩ | ⟨g, cap, cur, rfl, hb, hg, _⟩
  · exact ⟨none, 0, by rw [hz], .inl (List.eq_nil_of_length_eq_zero hz)⟩
  · refine ⟨_, _, rfl, .inr ⟨g, 0, rfl, (hlt g rfl).2, fun i hi => ?_⟩⟩
    have hi' : i < vs.length := by omega
    refine ⟨vs[i], ?_, (h.each i _ (List.getElem?_eq_getElem hi')).rd⟩
    rw [Nat.zero_add, World.ownsRow.cellAt h2 i (by omega), List.getElem?_eq_getElem hi']
/-- .. with the room of each list. -/
def RdLC (w : World) (v : Value) (zss : List (List Int)) : Prop :=
  ∃ (a : Option Addr) (cap : Nat), v = .slice a zss.length cap ∧
    (zss = [] ∨ ∃ b off, a = some ⟨b, off, none⟩ ∧ b < w.heap.size ∧ ∀ i, i < zss.length → ∃ vi, w.cell? ⟨b, off + i, none⟩ = some vi ∧ Rd w vi (zss.getD i []) ∧ (zss.getD i []).length ≤ capZ vi)
theorem RdLC.rd {w : World} {v : Value} {zss : List (List Int)} (h : RdLC w v zss) : RdL w v zss := by
  obtain ⟨a, cap, hv, h⟩ := h
  refine ⟨a, cap, hv, ?_⟩
  rcases h with h | ⟨b, off, ha, hb, hc⟩
  · exact .inl h
  · refine .inr ⟨b, off, ha, hb, fun i hi => ?_⟩
    obtain ⟨vi, h1, h2, _⟩ := hc i hi
    exact ⟨vi, h1, h2⟩
theorem AppL.rdc {w : World} {base : Nat} {x : Value} {vs : List Value} {zss : List (List Int)} (h : AppL w base x vs zss) : RdLC w x zss := by
  have hl := h.row.1
  have hlt := h.lt
  have h2 := h.row
  rcases h.row.2 with ⟨rfl, hz⟩ | ⟨g, cap, cur, rfl, hb, hg, _⟩
  · exact ⟨none, 0, by rw [hz], .inl (List.eq_nil_of_length_eq_zero hz)⟩
  · refine ⟨_, _, rfl, .inr ⟨g, 0, rfl, (hlt g rfl).2, fun i hi => ?_⟩⟩
    have hi' : i < vs.length := by omega
    have hE := h.each i _ (List.getElem?_eq_getElem hi')
    refine ⟨vs[i], ?_, hE.rd, hE.cap⟩
    rw [Nat.zero_add, World.ownsRow.cellAt h2 i (by omega), List.getElem?_eq_getElem hi']
theorem appL_empty (w : World) : AppL (w.alloc (.cells #[] 23)) w.heap.size (.slice (some ⟨w.heap.size, 0, none⟩) 0 0) [] [] :=
  ⟨World.ownsRow_lit w #[] 0 (Nat.le_refl _) (by decide) (by simp), by simp⟩
theorem AppL.push {w w' : World} {base : Nat} {x x' u : Value} {vs : List Value} {zss : List (List Int)} {zs : List Int} (h : AppL w base x vs zss) (hu : Beside w x u zs)
    (ho : w'.ownsRow base 23 1 x' (zss.length + 1) (vs ++ [u])) (hg : w.grownBy w' x.ownBlock) (hb : x'.ownBlock = x.ownBlock ∨ x'.ownBlock = some w.heap.size) : AppL w' base x' (vs ++ [u]) (zss ++ [zs]) := by
  have hl := h.row.1
  refine ⟨by rw [List.length_append]; exact ho, fun i y hy => ?_⟩
  by_cases hi : i < vs.length
  · rw [List.getElem?_append_left hi] at hy
    have := (h.each i y hy).grow hg hb
    rw [List.getD_eq_getElem?_getD, List.getElem?_append_left (by omega), ← List.getD_eq_getElem?_getD]
    exact this
  · have hi2 : i = vs.length := by
      have := (List.getElem?_eq_some_iff.1 hy).1
      simp at this
      omega
    subst hi2
    rw [List.getElem?_append_right (Nat.le_refl _), Nat.sub_self] at hy
    simp only [List.getElem?_cons_zero, Option.some.injEq] at hy
    subst hy
    rw [List.getD_eq_getElem?_getD, List.getElem?_append_right (by omega), show vs.length - zss.length = 0 by omega]
    exact hu.grow hg hb
theorem Try.infoL : (Try.prog.info? 23).map (fun i => (i.zero, i.size, i.bytes)) = some (some (.slice none 0 0), 1, 24) := by kernel_rfl
end Go.Proofs.Ytkbkdlaknmgjpaa

/- Contract of the program's linesIn: the lines of a web, one by one. -/
namespace Go.Proofs.Ytkbkdlaknmgjpaa
open Go.ChangeShapes Go.WideShapes Go.ChangeAt Go.RowKit

theorem linI_hit (k : Nat) (ms : List Int) (m : Nat) (hm : m < ms.length) : linI k (ms.take (m + 1)) = linI k (ms.take m) ++ [((k : Int), ms.getD m 0)] := by
  unfold linI
  rw [take_snoc ms m hm, List.map_append]
  rfl
theorem app_start {w : World} {base : Nat} {x : Value} {P : List (Int × Int)} (h : AppLn w base x P) (k : Nat) (ms : List Int) : AppLn w base x (P ++ linI k (ms.take 0)) := by
  simpa [linI] using h
set_option maxRecDepth 100000 in
set_option maxHeartbeats 2000000 in
theorem linesIn_any (w : World) (v : Value) (zs : List Int) (h : Rd w v zs) (hn : zs.length ≤ 12) :
    Calls Try.prog 21 #[v] w fun e w' => ∃ v', e = .returned v' ∧ AppLn w' w.heap.size v' (linL zs) ∧ Keep w w' := by
  obtain ⟨j0, hj, hy0, hy1, hy2⟩ := info_parts Try.infoLn
  have A0 : AppLn (w.alloc (.cells #[] 47)) w.heap.size (.slice (some ⟨w.heap.size, 0, none⟩) 0 0) [] := appT_empty w
  have HL : Hid (linL zs = linK zs zs.length) := Lib.hid rfl
  obtain ⟨a, cap, rfl, h⟩ := h
  go_enter Try.func21, Try.ntmps21
  go_wp2
  go_loopw [3, 11] (fun x i wr => ∃ k : Nat, k ≤ zs.length ∧ i = .int .i64 k ∧ AppLn wr w.heap.size x (linK zs k) ∧ Keep w wr) (fun _ i _ => zs.length - (intOf i).toNat)
  case atStart => exact ⟨0, Nat.zero_le _, rfl, A0, (Keep.refl _).alloc _⟩
  case round =>
    obtain ⟨k, hk, rfl, ho, hK⟩ := hrel
    clear A0
    by_cases hlt : k < zs.length
    · rcases h with h | ⟨b, off, rfl, hb, hc⟩
      · exfalso; rw [h] at hlt; simp at hlt
      have d1 := (hK.cell hb).trans (hc k hlt)
      have hbw : b < wr.heap.size := Nat.lt_of_lt_of_le hb hK.size
      clear hc
      have HP : Hid (linK zs (k + 1) = linK zs k ++ linI k (mem (zs.getD k 0) 12)) := Lib.hid rfl
      have hml := mem_len (zs.getD k 0) 12
      have hll := lin_len zs k
      have i1 : (0 : Int) ≤ (k : Int) := Int.natCast_nonneg _
      have i2 : (k : Int) < (zs.length : Int) := by omega
      generalize zs.getD k 0 = s at *
      generalize linK zs k = P at *
      go_wp2_with fail
      refine (implMembers_any _ _).mono ?_
      rintro e w2 ⟨vm, rfl, om, k2⟩
      generalize mem s 12 = ms at *
      have B2 := om.beside (fun g hg => (ho.lt g hg).2)
      have ho2 := app_start (ho.keep k2) k ms
      have hK2 := hK.trans k2
      obtain ⟨am, cm, rfl, -⟩ := id B2.rd
      clear om k2 ho hK d1 hbw
      go_wp2
      go_loopw [3, 19] (fun x i wr => ∃ m : Nat, m ≤ ms.length ∧ i = .int .i64 m ∧ AppLn wr w.heap.size x (P ++ linI k (ms.take m)) ∧ Keep w wr ∧ Beside wr x (.slice am ms.length cm) ms) (fun _ i _ => ms.length - (intOf i).toNat)
      case atStart => exact ⟨0, Nat.zero_le _, rfl, ho2, hK2, B2⟩
      case round =>
        clear ho2 hK2 B2
        obtain ⟨m, hm, rfl, ho, hK, B⟩ := hrel
        by_cases hmt : m < ms.length
        · obtain ⟨a', c', he', hR'⟩ := id B.rd
          simp only [Value.slice.injEq, true_and] at he'
          obtain ⟨rfl, rfl⟩ := he'
          rcases hR' with h0 | ⟨bm, om, rfl, hbm, hcm⟩
          · exfalso; rw [h0] at hmt; simp at hmt
          have d1 := hcm m hmt
          clear hcm
          have HM : Hid (P ++ linI k (ms.take (m + 1)) = P ++ linI k (ms.take m) ++ [((k : Int), ms.getD m 0)]) := Lib.hid (by rw [linI_hit k ms m hmt, List.append_assoc])
          have hql : (P ++ linI k (ms.take m)).length ≤ 300 := by
            rw [List.length_append, linI, List.length_map, List.length_take]
            omega
          generalize P ++ linI k (ms.take m) = Q at *
          generalize ms.getD m 0 = y at *
          have j1 : (0 : Int) ≤ (m : Int) := Int.natCast_nonneg _
          have j2 : (m : Int) < (ms.length : Int) := by omega
          have hsz := hK.size
          have ho3 := ho.keep ((Keep.refl wr).alloc (lnO k y))
          have K3 := hK.alloc (lnO k y)
          have B3 := B.keep ((Keep.refl wr).alloc (lnO k y))
          go_wp2_with (at_builtin; refine wpList_append_own_at _ rfl _ _ 43 rfl w.heap.size 47 j0 (.agg #[.int .i64 0, .int .i64 0]) 2 16 Try.underlying43 hj hy0 hy1 hy2 rfl (by decide) _ _ _ rfl ho3 ⟨_, 0, none⟩ 1 1 (cLn ((k : Int), y)) rfl rfl ?c1 ?c2 ?c3 ?c4 ?c5 ?_)
          case c1 => exact cLn_new _ _ rfl _ _
          case c2 => exact cLn_one _
          case c3 => unfold maxLen; omega
          case c4 => omega
          case c5 => simp; omega
          intro v' w1 hown' hgrow _ hblk
          have B4 := B3.grow hgrow (by rw [heap_size]; exact hblk)
          have K4 := K3.grown hgrow ho3.ge
          have A4 := appT_hit hown'
          rw [← HM.out] at A4
          clear hgrow hown' hblk ho3 K3 B3 B hK ho d1 HM
          go_wp2
          go_roundw
          case rel => exact ⟨m + 1, by omega, by go_num, A4, K4, B4⟩
          case measure => simp [intOf]; omega
        · obtain rfl : m = ms.length := by omega
          rw [List.take_length, ← HP.out] at ho
          go_wp2
          go_roundw
          case rel => exact ⟨k + 1, by omega, by go_num, ho, hK⟩
          case measure => simp [intOf]; omega
    · obtain rfl : k = zs.length := by omega
      go_wp2
      go_ret
      exact ⟨_, rfl, by rw [HL.out]; exact ho, hK⟩
end Go.Proofs.Ytkbkdlaknmgjpaa

/- Lists of events in memory. -/
namespace Go.Proofs.Ytkbkdlaknmgjpaa
open Go.ChangeShapes Go.WideShapes Go.ChangeAt Go.RowKit

def cE (e : Ev) : List Value := [.int .i64 e.1, .int .i64 e.2.1, .bool e.2.2.1, .int .i64 e.2.2.2.1, .int .i64 e.2.2.2.2.1, .int .i64 e.2.2.2.2.2]
theorem cE_len (e : Ev) : (cE e).length = 6 := rfl
theorem Try.infoE : (Try.prog.info? 49).map (fun i => (i.zero, i.size, i.bytes)) = some (some (.agg #[.int .i64 0, .int .i64 0, .bool false, .int .i64 0, .int .i64 0, .int .i64 0]), 6, 48) := by kernel_rfl
abbrev RdE (w : World) (v : Value) (es : List Ev) : Prop := RdT cE 6 w v es
abbrev AppE (w : World) (base : Nat) (v : Value) (es : List Ev) : Prop := AppT cE 49 6 w base v es
theorem atE {w : World} {b o : Nat} {x0 x1 : Int} {r : Bool} {x3 x4 x5 : Int} (h : AtT cE w b o (x0, x1, r, x3, x4, x5)) :
    w.cell? ⟨b, o, none⟩ = some (.int .i64 x0) ∧ w.cell? ⟨b, o + 1, none⟩ = some (.int .i64 x1) ∧ w.cell? ⟨b, o + 2, none⟩ = some (.bool r) ∧ w.cell? ⟨b, o + 3, none⟩ = some (.int .i64 x3) ∧ w.cell? ⟨b, o + 4, none⟩ = some (.int .i64 x4) ∧ w.cell? ⟨b, o + 5, none⟩ = some (.int .i64 x5) :=
  ⟨h 0 _ rfl, h 1 _ rfl, h 2 _ rfl, h 3 _ rfl, h 4 _ rfl, h 5 _ rfl⟩
theorem AppE.rd {w : World} {base : Nat} {v : Value} {es : List Ev} (h : AppE w base v es) : RdE w v es := AppT.rd cE_len h
theorem evs_get {es : List Ev} {i : Nat} (h : i < es.length) : es[i]? = some (es.getD i zE) := by
  rw [List.getD_eq_getElem?_getD, List.getElem?_eq_getElem h]; rfl
end Go.Proofs.Ytkbkdlaknmgjpaa

/- Contracts of the program's test on a line (is it between two clerks), of 'only' at that test, and of FromOthers. -/
namespace Go.Proofs.Ytkbkdlaknmgjpaa
open Go.ChangeShapes Go.WideShapes Go.ChangeAt Go.RowKit

set_option maxRecDepth 100000 in
set_option maxHeartbeats 1000000 in
theorem other_any (w : World) (v : Value) (es : List Ev) (h : RdE w v es) (A : Nat) (hA : w.cell? ⟨A, 0, none⟩ = some v) (hAl : A < w.heap.size) (i j : Nat) (hi : i < es.length) (hj : j < es.length) :
    Calls Try.prog 23 #[.agg #[.int .i64 i, .int .i64 j], .pointer (some ⟨A, 0, none⟩)] w fun e w' => e = .returned (.bool (othP es ((i : Int), (j : Int)))) ∧ Keep w w' := by
  obtain ⟨a, c, rfl, h⟩ := h
  rcases h with h | ⟨b, off, rfl, hb, hc⟩
  · exfalso; rw [h] at hi; simp at hi
  have K0 : Keep w (w.alloc (lnO i j)) := (Keep.refl w).alloc _
  have a1 := (K0.cell hAl).trans hA
  have AI := (hc i _ (evs_get hi)).keep hb K0
  have AJ := (hc j _ (evs_get hj)).keep hb K0
  have HP : Hid (othP es ((i : Int), (j : Int)) = ((es.getD i zE).1 != (es.getD j zE).1)) := Lib.hid (by unfold othP; dsimp only; rw [Int.toNat_natCast, Int.toNat_natCast])
  clear hc hA
  generalize othP es ((i : Int), (j : Int)) = T at *
  generalize es.getD i zE = x at *
  generalize es.getD j zE = y at *
  obtain ⟨x0, x1, x2, x3, x4, x5⟩ := x
  obtain ⟨y0, y1, y2, y3, y4, y5⟩ := y
  obtain ⟨A3, -, -, -, -, -⟩ := atE AI
  obtain ⟨B3, -, -, -, -, -⟩ := atE AJ
  clear AI AJ
  have i1 : (0 : Int) ≤ (i : Int) := Int.natCast_nonneg _
  have i2 : (i : Int) < (es.length : Int) := by omega
  have j1 : (0 : Int) ≤ (j : Int) := Int.natCast_nonneg _
  have j2 : (j : Int) < (es.length : Int) := by omega
  have l1 := box_cell (w := w) (cs := #[.int .i64 i, .int .i64 j]) (t := 47) (Keep.refl _) 0
  have l2 := box_cell (w := w) (cs := #[.int .i64 i, .int .i64 j]) (t := 47) (Keep.refl _) 1
  go_enter Try.func23, Try.ntmps23
  go_wp2
  go_quiet (fail)
  go_wp2
  go_ret
  exact ⟨ret_bool (by rw [HP.out]), K0.drewN _⟩
set_option maxRecDepth 100000 in
set_option maxHeartbeats 2000000 in
theorem only_any (w : World) (v u : Value) (l : List (Int × Int)) (es : List Ev) (hl : RdLn w v l) (hn : l.length ≤ 144) (h : RdE w u es) (A : Nat) (hA : w.cell? ⟨A, 0, none⟩ = some u) (hAl : A < w.heap.size) (hin : ∀ x ∈ l, ∃ i j : Nat, x = ((i : Int), (j : Int)) ∧ i < es.length ∧ j < es.length) :
    Calls Try.prog 22 #[v, .func (Fn.func 23) #[] #[.pointer (some ⟨A, 0, none⟩)]] w fun e w' => ∃ v', e = .returned v' ∧ AppLn w' w.heap.size v' (l.filter (othP es)) ∧ Keep w w' := by
  obtain ⟨j0, hj, hy0, hy1, hy2⟩ := info_parts Try.infoLn
  have A0 : AppLn (w.alloc (.cells #[] 47)) w.heap.size (.slice (some ⟨w.heap.size, 0, none⟩) 0 0) [] := appT_empty w
  have C := fun (W : World) (k : Keep w W) (i q : Nat) (hi : i < es.length) (hq : q < es.length) => other_any W u es (h.keep k) A ((k.cell hAl).trans hA) (Nat.lt_of_lt_of_le hAl k.size) i q hi hq
  have HIN := Lib.hid hin
  have HC := Lib.hid C
  clear hin C h hA
  obtain ⟨a, c, rfl, hl⟩ := hl
  go_enter Try.func22, Try.ntmps22
  go_wp2
  go_loopw [5, 11] (fun x i wr => ∃ k : Nat, k ≤ l.length ∧ i = .int .i64 k ∧ AppLn wr w.heap.size x ((l.take k).filter (othP es)) ∧ Keep w wr) (fun _ i _ => l.length - (intOf i).toNat)
  case atStart => exact ⟨0, Nat.zero_le _, rfl, A0, (Keep.refl _).alloc _⟩
  case round =>
    obtain ⟨k, hk, rfl, ho, hK⟩ := hrel
    clear A0
    by_cases hlt : k < l.length
    · rcases hl with h | ⟨b, off, rfl, hb, hc⟩
      · exfalso; rw [h] at hlt; simp at hlt
      have AT := (hc k _ (ln_get hlt)).keep hb hK
      have hbw : b < wr.heap.size := Nat.lt_of_lt_of_le hb hK.size
      clear hc
      have hmem : l.getD k (0, 0) ∈ l := by
        rw [List.getD_eq_getElem?_getD, List.getElem?_eq_getElem hlt]
        exact List.getElem_mem hlt
      obtain ⟨i, q, hx, hi, hq⟩ := HIN.out _ hmem
      clear hmem
      have HP : Hid ((l.take (k + 1)).filter (othP es) = (l.take k).filter (othP es) ++ if othP es ((i : Int), (q : Int)) = true then [((i : Int), (q : Int))] else []) := Lib.hid (by
        rw [List.take_succ_eq_append_getElem hlt, List.filter_append]
        have e : l[k] = ((i : Int), (q : Int)) := by
          rw [List.getD_eq_getElem?_getD, List.getElem?_eq_getElem hlt] at hx
          exact hx
        rw [e, List.filter_cons, List.filter_nil])
      rw [hx] at AT
      clear hx
      obtain ⟨d1, d2⟩ := atLn AT
      clear AT
      have hll : ((l.take k).filter (othP es)).length ≤ 144 := by
        have := List.length_filter_le (othP es) (l.take k)
        rw [List.length_take] at this
        omega
      generalize (l.take k).filter (othP es) = P at *
      have i1 : (0 : Int) ≤ (k : Int) := Int.natCast_nonneg _
      have i2 : (k : Int) < (l.length : Int) := by omega
      have C := HC.out _ (hK.alloc (lnO i q)) i q hi hq
      generalize othP es ((i : Int), (q : Int)) = T at *
      go_wp2_with fail
      refine C.mono ?_
      rintro e w2 ⟨rfl, k2⟩
      have b0 := box_cell k2 0
      have b1 := box_cell k2 1
      simp at b0 b1
      have K1 := (Keep.refl wr).alloc (lnO i q) |>.trans k2
      have ho2 := ho.keep K1
      have hK2 := hK.trans K1
      have z2 := box_size k2
      clear ho hK k2 K1 d1 d2 C
      cases T
      · rw [if_neg (by simp), List.append_nil] at HP
        go_wp2
        go_roundw
        case rel => exact ⟨k + 1, by omega, by go_num, by rw [HP.out]; exact ho2, hK2⟩
        case measure => simp [intOf]; omega
      · rw [if_pos rfl] at HP
        have hsz := hK2.size
        have ho3 := ho2.keep ((Keep.refl w2).alloc (lnO i q))
        have K3 := hK2.alloc (lnO i q)
        go_wp2_with (at_builtin; refine wpList_append_own_at _ rfl _ _ 43 rfl w.heap.size 47 j0 (.agg #[.int .i64 0, .int .i64 0]) 2 16 Try.underlying43 hj hy0 hy1 hy2 rfl (by decide) _ _ _ rfl ho3 ⟨_, 0, none⟩ 1 1 (cLn ((i : Int), (q : Int))) rfl rfl ?c1 ?c2 ?c3 ?c4 ?c5 ?_)
        case c1 => exact cLn_new _ _ rfl _ _
        case c2 => exact cLn_one _
        case c3 => unfold maxLen; omega
        case c4 => omega
        case c5 => simp; omega
        intro v' w1 hown' hgrow _ _
        have K4 := K3.grown hgrow ho3.ge
        have A4 := appT_hit hown'
        rw [← HP.out] at A4
        clear hgrow hown' ho3 K3 hK2 ho2 HP b0 b1
        go_wp2
        go_roundw
        case rel => exact ⟨k + 1, by omega, by go_num, A4, K4⟩
        case measure => simp [intOf]; omega
    · obtain rfl : k = l.length := by omega
      rw [List.take_length] at ho
      go_wp2
      go_ret
      exact ⟨_, rfl, ho, hK⟩
end Go.Proofs.Ytkbkdlaknmgjpaa

/- A range over a function whose iterator hands out what lies in memory: what a round keeps ('But'), the iterator's contract ('SeqM'), the law for its caller ('wp_rangeM'). -/
namespace Go.Proofs.Ytkbkdlaknmgjpaa
open Go.RowKit

/-- All that lay is as it was, but for the blocks of C. -/
structure But (C : Nat → Prop) (w w' : World) : Prop where
  os : w'.os = w.os
  tape : w'.tape = w.tape
  output : w'.output = w.output
  size : w.heap.size ≤ w'.heap.size
  block : ∀ k, k < w.heap.size → ¬ C k → w'.heap[k]? = w.heap[k]?
theorem But.refl (C : Nat → Prop) (w : World) : But C w w := ⟨rfl, rfl, rfl, Nat.le_refl _, fun _ _ _ => rfl⟩
theorem But.trans {C : Nat → Prop} {a b c : World} (h : But C a b) (k : But C b c) : But C a c :=
  ⟨k.os.trans h.os, k.tape.trans h.tape, k.output.trans h.output, Nat.le_trans h.size k.size, fun i hi hn => (k.block i (Nat.lt_of_lt_of_le hi h.size) hn).trans (h.block i hi hn)⟩
theorem But.mono {C C' : Nat → Prop} {a b : World} (h : But C a b) (hc : ∀ k, k < a.heap.size → C k → C' k) : But C' a b :=
  ⟨h.os, h.tape, h.output, h.size, fun i hi hn => h.block i hi (fun e => hn (hc i hi e))⟩
theorem But.of_below {C : Nat → Prop} {a b : World} (h : Below a.heap.size a b) : But C a b := ⟨h.os, h.tape, h.output, h.size, fun i hi _ => h.block i hi⟩
theorem But.of_grown {C : Nat → Prop} {a b : World} {row : Option Nat} (h : a.grownBy b row) (hr : ∀ k, row = some k → C k) : But C a b :=
  ⟨h.os, h.tape, h.output, h.size, fun i hi hn => h.block i hi (fun e => hn (hr i e.symm))⟩
theorem But.alloc {C : Nat → Prop} {a b : World} (h : But C a b) (o : Obj) : But C a (b.alloc o) := h.trans (But.of_grown (World.grownBy_alloc b o none) (by simp))
theorem But.put {C : Nat → Prop} {a b : World} (h : But C a b) {l : Nat} (hl : C l) (o : Obj) : But C a (b.putObj l o) := h.trans (But.of_grown (grownBy_putObj' b l o) (fun k e => by cases e; exact hl))
theorem But.setCell {C : Nat → Prop} {a b : World} (h : But C a b) {l : Nat} (hl : C l) (o : Nat) (v : Value) : But C a (b.setCell ⟨l, o, none⟩ v) :=
  h.trans ⟨rfl, rfl, rfl, by simp [World.setCell], fun k _ hn => Below.heap_setCell _ _ _ _ (fun e => hn (by rw [e]; exact hl))⟩
theorem But.drew {C : Nat → Prop} {a b : World} (h : But C a b) : But C a b.drew := h.trans ⟨rfl, rfl, rfl, Nat.le_refl _, fun _ _ _ => rfl⟩
theorem But.below {C : Nat → Prop} {a b : World} (h : But C a b) (hc : ∀ k, C k → a.heap.size ≤ k) : Below a.heap.size a b := ⟨h.os, h.tape, h.output, h.size, fun k hk => h.block k hk (fun e => by have := hc k e; omega)⟩
/-- A block from s on that holds no cells (the record of a loop, deferred calls). -/
def NC (s : Nat) (A : World) (b : Nat) : Prop := s ≤ b ∧ ∃ o : Obj, A.heap[b]? = some o ∧ o.isCells = false
theorem NC.le {s s' : Nat} {A : World} {b : Nat} (h : NC s A b) (hs : s' ≤ s) : NC s' A b := ⟨Nat.le_trans hs h.1, h.2⟩
/-- It speaks of blocks below s, and of cells, alone. -/
def Stays (s : Nat) (J : World → Prop) : Prop := ∀ A B, J A → But (NC s A) A B → J B
/-- The contract of an iterator that hands out N things, the k-th being what Lie says. C: the blocks that a round may turn; Pr: those that the iterator reads. -/
def SeqM (P : Program) (gf : Nat) (lb : Array Value) (Pr : Nat → Prop) (N : Nat) (Lie : Nat → Nat → Value → World → Prop) (w0 : World) : Prop :=
  ∀ (C : Nat → Prop) (l : Nat) (J Jx : Nat → World → Prop) (W : World), But (fun b => ¬ Pr b) w0 W → (∀ b, C b → b < W.heap.size ∧ ¬ Pr b) →
    (∀ k, Stays W.heap.size (J k)) → (∀ k, Stays W.heap.size (Jx k)) →
    (∀ (m k : Nat) (v : Value) (W1 : World), k < N → J k W1 → Lie W.heap.size k v W1 → YieldAt Fence.wide m P l #[v] W1 fun e W' =>
      ∃ b : Bool, e = .returned (.bool b) ∧ But C W1 W' ∧ (b = true → J (k + 1) W') ∧ (b = false → Jx k W')) →
    J 0 W →
    Calls P gf (#[.func (.yield l) #[] #[]] ++ lb) W fun e W' => (∃ v, e = .returned v) ∧ (J N W' ∨ ∃ k, k < N ∧ Jx k W')
/-- How the body of a round may be left. -/
def postM (C : Nat → Prop) (I : Nat → World → Prop) (Ix : Code → Nat → World → Prop) (k : Nat) (W : World) : Exit → Act → World → Prop
  | .normal, _, W' => But C W W' ∧ I (k + 1) W'
  | .ret, _, W' => But C W W' ∧ Ix .ret k W'
  | .exit id, _, W' => But C W W' ∧ Ix (.exit id) k W'
  | .goto t, _, W' => But C W W' ∧ Ix (.goto t) k W'
  | .panic _, _, _ => False
  | .outgrown, _, _ => False
theorem wp_rangeM {n : Nat} {P : Program} {g : Operand} {ps : Array Tmp} {assign body : Code} {Q : Exit → Act → World → Prop} {a : Act} {w : World} {gf : Nat} {lb : Array Value} {Pr : Nat → Prop} {N : Nat} {Lie : Nat → Nat → Value → World → Prop} {w0 : World}
    (hg : a.eval g = .func (.func gf) #[] lb) (eg : ∀ args w, (callFunc gf args).run P w = .ok (.enter gf args) w) (hps : ps.size = 1)
    (hseq : SeqM P gf lb Pr N Lie w0) (hk0 : But (fun b => ¬ Pr b) w0 w) (hPr : ∀ b, Pr b → b < w0.heap.size)
    (C : Nat → Prop) (hC : ∀ b, C b → b < w.heap.size ∧ ¬ Pr b)
    (I : Nat → World → Prop) (Ix : Code → Nat → World → Prop) (hI : ∀ k, Stays w.heap.size (I k)) (hIx : ∀ c k, Stays w.heap.size (Ix c k))
    (hL : ∀ s k v A B, Lie s k v A → But (fun b => b < s) A B → Lie s k v B) (h0 : I 0 w) (a₁ : Value → Act)
    (hassign : ∀ (m : Nat) (v : Value) (W : World) (K : Act → World → Prop), K (a₁ v) W →
      assign.wpIn (Fence.wide.inRound (w.heap.size + 1)) m P (Exit.then K (fun _ _ _ => False)) { tmps := (ps.zip #[v]).foldl (fun t (p, v) => t.setIfInBounds p v) a.tmps, defers := [] } W)
    (hbody : ∀ (m k : Nat) (v : Value) (W : World), k < N → I k W → Lie (w.heap.size + 2) k v W → body.wpIn (Fence.wide.inRound (w.heap.size + 1)) m P (postM C I Ix k W) (a₁ v) W)
    (hdone : ∀ W, I N W → W.heap[w.heap.size]? = some (.deferred (some [])) → Q .normal { a with defers := { target := .collected w.heap.size, args := #[] } :: a.defers } W)
    (hstop : ∀ c k W, k < N → Ix c k W → W.heap[w.heap.size]? = some (.deferred (some [])) → c.wpIn Fence.wide n P Q { a with defers := { target := .collected w.heap.size, args := #[] } :: a.defers } W) :
    (Code.rangeFunc g ps assign body).wpIn Fence.wide n P Q a w := by
  have hs0 := hk0.size
  refine wpIn_rangeFunc ?_
  intro fn hfn
  -- the two blocks that the loop lays: D for deferred calls, its record behind it
  obtain ⟨rc, hrc⟩ : ∃ rc : LoopState → Option Code → Loop, rc = fun st pe => { state := st, pending := pe, fn, tmps := a.tmps, params := ps, assign, body, defers := w.heap.size } := ⟨_, rfl⟩
  obtain ⟨W1, hW1⟩ : ∃ W1, W1 = (w.alloc (.deferred (some []))).alloc (.loop (rc .ready none)) := ⟨_, rfl⟩
  have hz : W1.heap.size = w.heap.size + 2 := by rw [hW1]; simp
  have hB1 : Below w.heap.size w W1 := by rw [hW1]; exact ((Below.refl _ w).alloc (Nat.le_refl _) _).alloc (by simp) _
  have hl1 : W1.heap[w.heap.size + 1]? = some (.loop (rc .ready none)) := by
    rw [hW1]
    have := World.alloc_heap_new (w.alloc (.deferred (some []))) (.loop (rc .ready none))
    rwa [World.size_alloc] at this
  have hd1 : W1.heap[w.heap.size]? = some (.deferred (some [])) := by
    rw [hW1]
    exact (Below.heap_alloc _ _ _ (by simp)).trans (World.alloc_heap_new w _)
  refine ⟨w.heap.size + 1, [{ target := .collected w.heap.size, args := #[] }], W1, { target := .fn (.func gf) lb, args := #[.func (.yield (w.heap.size + 1)) #[] #[]] }, W1, gf, #[.func (.yield (w.heap.size + 1)) #[] #[]] ++ lb, W1, ?_, ?_, ?_, ?_, ?_, ?_⟩
  · rw [hW1, hrc]; exact run_enterLoop_outer _ _ _ _ _
  · simp only [resolve, hg]
    simp [go_sem]
  · intro f' _; exact trivial
  · simp [invoke, go_sem, eg]
  · intro h; cases h
  refine callsIn_wide.2 ((hseq (fun b => C b ∨ b = w.heap.size + 1) (w.heap.size + 1)
    (fun k A => I k A ∧ A.heap[w.heap.size + 1]? = some (.loop (rc .ready none)) ∧ A.heap[w.heap.size]? = some (.deferred (some [])))
    (fun k A => ∃ c, Ix c k A ∧ A.heap[w.heap.size + 1]? = some (.loop (rc .done (some c))) ∧ A.heap[w.heap.size]? = some (.deferred (some [])))
    W1 (hk0.trans (But.of_below hB1)) ?_ ?_ ?_ ?_ ⟨hI 0 _ _ h0 (But.of_below hB1), hl1, hd1⟩).mono ?_)
  · rintro b (hb | rfl)
    · exact ⟨by have := (hC b hb).1; omega, (hC b hb).2⟩
    · exact ⟨by omega, fun hp => by have := hPr _ hp; omega⟩
  · rintro k A B ⟨h1, h2, h3⟩ hB
    have e1 : w.heap.size + 1 < A.heap.size := (Array.getElem?_eq_some_iff.1 h2).1
    have nl : ∀ b, b < w.heap.size + 2 → ¬ NC W1.heap.size A b := fun b hb h => by have := h.1; omega
    exact ⟨hI k _ _ h1 (hB.mono (fun b _ hb => hb.le (by omega))), (hB.block _ e1 (nl _ (by omega))).trans h2, (hB.block _ (by omega) (nl _ (by omega))).trans h3⟩
  · rintro k A B ⟨c, h1, h2, h3⟩ hB
    have e1 : w.heap.size + 1 < A.heap.size := (Array.getElem?_eq_some_iff.1 h2).1
    have nl : ∀ b, b < w.heap.size + 2 → ¬ NC W1.heap.size A b := fun b hb h => by have := h.1; omega
    exact ⟨c, hIx c k _ _ h1 (hB.mono (fun b _ hb => hb.le (by omega))), (hB.block _ e1 (nl _ (by omega))).trans h2, (hB.block _ (by omega) (nl _ (by omega))).trans h3⟩
  · -- one round
    rintro m k v W hk ⟨hi, hl, hd⟩ hv
    rw [hz] at hv
    have hlt : w.heap.size + 1 < W.heap.size := (Array.getElem?_eq_some_iff.1 hl).1
    have hy := run_yield (P := P) (args := #[v]) hl (by rw [hrc]; exact hps.symm)
    rw [hrc] at hy
    refine ⟨fn, _, assign, body, hy, roundIn_of_wpIn hfn (hassign m v W _ ⟨_, run_beginRound hl (by rw [hrc]), ?_⟩)⟩
    clear hy
    obtain ⟨W2, hW2⟩ : ∃ W2, W2 = W.putObj (w.heap.size + 1) (.loop { rc .ready none with state := .busy }) := ⟨_, rfl⟩
    rw [← hW2]
    have hl2 : W2.heap[w.heap.size + 1]? = some (.loop { rc .ready none with state := .busy }) := by rw [hW2]; exact World.putObj_heap_same hlt
    have hd2 : W2.heap[w.heap.size]? = some (.deferred (some [])) := by rw [hW2]; exact (World.putObj_heap_other (by omega)).trans hd
    have hb2 : ∀ X : Nat → Prop, X (w.heap.size + 1) → But X W W2 := fun X hX => by rw [hW2]; exact (But.refl X W).put hX _
    refine wpIn_mono (hbody m k v W2 hk (hI k _ _ hi (hb2 _ ⟨by omega, _, hl, rfl⟩)) (hL _ _ _ _ _ hv (hb2 _ (by omega)))) ?_
    have fin : ∀ (jump : Option Code) (W3 : World), But C W2 W3 → ∃ W4, (Instr.endRound (w.heap.size + 1) jump).run P W3 = .ok (.bool jump.isNone) W4 ∧ (∀ X : Nat → Prop, X (w.heap.size + 1) → But X W3 W4) ∧ NC w.heap.size W3 (w.heap.size + 1) ∧
        W4.heap[w.heap.size + 1]? = some (.loop (rc (if jump.isNone then .ready else .done) jump)) ∧ W4.heap[w.heap.size]? = some (.deferred (some [])) := by
      intro jump W3 h3
      have e1 : w.heap.size + 1 < W2.heap.size := (Array.getElem?_eq_some_iff.1 hl2).1
      have hl3 : W3.heap[w.heap.size + 1]? = some (.loop { rc .ready none with state := .busy }) := (h3.block _ e1 (fun e => by have := (hC _ e).1; omega)).trans hl2
      have hd3 : W3.heap[w.heap.size]? = some (.deferred (some [])) := (h3.block _ (by omega) (fun e => by have := (hC _ e).1; omega)).trans hd2
      have e3 : w.heap.size + 1 < W3.heap.size := (Array.getElem?_eq_some_iff.1 hl3).1
      have := run_endRound (P := P) jump hl3
      refine ⟨_, this, fun X hX => (But.refl X W3).put hX _, ⟨by omega, _, hl3, rfl⟩, ?_, (World.putObj_heap_other (by omega)).trans hd3⟩
      rw [World.putObj_heap_same e3, hrc]
    have bu : ∀ {W3 W4 : World}, But C W2 W3 → (∀ X : Nat → Prop, X (w.heap.size + 1) → But X W3 W4) → But (fun b => C b ∨ b = w.heap.size + 1) W W4 := fun h3 h4 =>
      ((hb2 _ (.inr rfl)).trans (h3.mono (fun _ _ hc => .inl hc))).trans (h4 _ (.inr rfl))
    rintro e a3 W3 hp
    cases e with
    | normal =>
      obtain ⟨h3, hi3⟩ := hp
      obtain ⟨W4, hr, h4, hn4, hl4, hd4⟩ := fin none W3 h3
      exact ⟨_, W4, hr, true, rfl, bu h3 h4, fun _ => ⟨hI _ _ _ hi3 (h4 _ hn4), hl4, hd4⟩, fun e => by cases e⟩
    | ret =>
      obtain ⟨h3, hi3⟩ := hp
      obtain ⟨W4, hr, h4, hn4, hl4, hd4⟩ := fin (some .ret) W3 h3
      exact ⟨_, W4, hr, false, rfl, bu h3 h4, fun e => (by cases e), fun _ => ⟨.ret, hIx _ _ _ _ hi3 (h4 _ hn4), hl4, hd4⟩⟩
    | exit id =>
      obtain ⟨h3, hi3⟩ := hp
      obtain ⟨W4, hr, h4, hn4, hl4, hd4⟩ := fin (some (.exit id)) W3 h3
      exact ⟨_, W4, hr, false, rfl, bu h3 h4, fun e => (by cases e), fun _ => ⟨.exit id, hIx _ _ _ _ hi3 (h4 _ hn4), hl4, hd4⟩⟩
    | goto t =>
      obtain ⟨h3, hi3⟩ := hp
      obtain ⟨W4, hr, h4, hn4, hl4, hd4⟩ := fin (some (.goto t)) W3 h3
      exact ⟨_, W4, hr, false, rfl, bu h3 h4, fun e => (by cases e), fun _ => ⟨.goto t, hIx _ _ _ _ hi3 (h4 _ hn4), hl4, hd4⟩⟩
    | panic ch => exact hp.elim
    | outgrown => exact hp.elim
  · -- behind the iterator
    rintro e W2 ⟨⟨v, rfl⟩, (⟨hi, hl, hd⟩ | ⟨k, hk, c, hi, hl, hd⟩)⟩
    · have hr := run_endLoop (P := P) hl (by rw [hrc]; simp)
      exact ⟨none, _, by rw [hr, hrc], hdone _ (hI _ _ _ hi ((But.refl (NC w.heap.size W2) W2).put ⟨by omega, _, hl, rfl⟩ _)) ((World.putObj_heap_other (by omega)).trans hd)⟩
    · have hr := run_endLoop (P := P) hl (by rw [hrc]; simp)
      exact ⟨some c, _, by rw [hr, hrc], hstop c k _ hk (hIx _ _ _ _ hi ((But.refl (NC w.heap.size W2) W2).put ⟨by omega, _, hl, rfl⟩ _)) ((World.putObj_heap_other (by omega)).trans hd)⟩
end Go.Proofs.Ytkbkdlaknmgjpaa

/- A list of numbers that lies at the beginning of a block, whatever room stands behind it there: 'RowAt', 'Row'; what a store turns in it, and that it stays where others write. -/
namespace Go.Proofs.Ytkbkdlaknmgjpaa
open Go.ChangeShapes Go.WideShapes Go.ChangeAt Go.RowKit

/-- Block g begins with the numbers zs and may be written. -/
def RowAt (w : World) (g : Nat) (zs : List Int) : Prop :=
  ∃ (cur : Array Value) (e : TypeId), w.heap[g]? = some (.cells cur e (0, 0)) ∧ cur.toList.take zs.length = zs.map (Value.int .i64)
theorem RowAt.lt {w : World} {g : Nat} {zs : List Int} (h : RowAt w g zs) : g < w.heap.size := by
  obtain ⟨cur, e, hh, _⟩ := h
  exact (Array.getElem?_eq_some_iff.1 hh).1
theorem RowAt.cell {w : World} {g : Nat} {zs : List Int} (h : RowAt w g zs) {j : Nat} (hj : j < zs.length) : w.cell? ⟨g, j, none⟩ = some (.int .i64 (zs.getD j 0)) := by
  obtain ⟨cur, e, hh, ht⟩ := h
  rw [cell_of_row w g j cur e (0, 0) hh]
  have h1 : (cur.toList.take zs.length)[j]? = (zs.map (Value.int .i64))[j]? := by rw [ht]
  rw [List.getElem?_take, if_pos hj, List.getElem?_map, List.getElem?_eq_getElem hj] at h1
  rw [List.getD_eq_getElem?_getD, List.getElem?_eq_getElem hj]
  simpa using h1
theorem RowAt.free {w : World} {g : Nat} {zs : List Int} (h : RowAt w g zs) (j : Nat) : w.frozen? ⟨g, j, none⟩ = false := by
  obtain ⟨cur, e, hh, _⟩ := h
  exact frozen_of_row w g j _ _ hh
theorem RowAt.kept {w w' : World} {g : Nat} {zs : List Int} {row : Option Nat} (h : RowAt w g zs) (hg : w.grownBy w' row) (hne : row ≠ some g) : RowAt w' g zs := by
  have hlt := h.lt
  obtain ⟨cur, e, hh, ht⟩ := h
  exact ⟨cur, e, by rw [hg.block g hlt (fun e => hne e.symm)]; exact hh, ht⟩
theorem RowAt.keep {w w' : World} {g : Nat} {zs : List Int} (h : RowAt w g zs) (k : Keep w w') : RowAt w' g zs := h.kept k.grownBy (by simp)
theorem grown_set (w : World) (g j : Nat) (v : Value) : w.grownBy (w.setCell ⟨g, j, none⟩ v) (some g) :=
  ⟨rfl, rfl, rfl, by simp, fun k _ hk => heap_setCell_other w ⟨g, j, none⟩ k v (fun e => hk (by simp [e]))⟩
theorem grown_draw (w : World) (n : Nat) (row : Option Nat) : w.grownBy (w.drewN n) row := ⟨rfl, rfl, rfl, Nat.le_refl _, fun _ _ _ => rfl⟩
theorem grown_drew (w : World) (row : Option Nat) : w.grownBy w.drew row := ⟨rfl, rfl, rfl, Nat.le_refl _, fun _ _ _ => rfl⟩
theorem RowAt.drewN {w : World} {g : Nat} {zs : List Int} (h : RowAt w g zs) (n : Nat) : RowAt (w.drewN n) g zs := h.kept (row := none) (grown_draw w n none) (by simp)
theorem RowAt.drew {w : World} {g : Nat} {zs : List Int} (h : RowAt w g zs) : RowAt w.drew g zs := h.kept (row := none) (grown_drew w none) (by simp)
theorem take_set_val (l : List Value) (zs : List Int) (j : Nat) (x : Int) (h : l.take zs.length = zs.map (Value.int .i64)) :
    (l.set j (.int .i64 x)).take (zs.set j x).length = (zs.set j x).map (Value.int .i64) := by
  rw [List.length_set, List.take_set, h, List.map_set]
theorem RowAt.set {w : World} {g : Nat} {zs : List Int} (h : RowAt w g zs) (j : Nat) (x : Int) : RowAt (w.setCell ⟨g, j, none⟩ (.int .i64 x)) g (zs.set j x) := by
  obtain ⟨cur, e, hh, ht⟩ := h
  refine ⟨cur.setIfInBounds j (.int .i64 x), e, ?_, ?_⟩
  · rw [heap_setCell_same w g j _ _ _ hh]
  · rw [Array.toList_setIfInBounds]
    exact take_set_val _ zs j x ht

/-- A list in memory from block 'base' on. -/
def Row (w : World) (base : Nat) (v : Value) (zs : List Int) : Prop :=
  (v = .slice none 0 0 ∧ zs = []) ∨ ∃ g cap, v = .slice (some ⟨g, 0, none⟩) zs.length cap ∧ base ≤ g ∧ RowAt w g zs
theorem Own.row {w : World} {base : Nat} {v : Value} {zs : List Int} (h : Own w base v zs) : Row w base v zs := by
  rcases h.2 with ⟨rfl, hn⟩ | ⟨g, cap, cur, rfl, hb, hg, _, _, _, ht⟩
  · exact .inl ⟨rfl, List.eq_nil_of_length_eq_zero hn⟩
  · exact .inr ⟨g, cap, rfl, hb, cur, _, hg, by rw [Nat.mul_one] at ht; exact ht⟩
theorem Row.lt {w : World} {base : Nat} {v : Value} {zs : List Int} (h : Row w base v zs) : ∀ k, v.ownBlock = some k → base ≤ k ∧ k < w.heap.size := by
  intro k hk
  rcases h with ⟨rfl, _⟩ | ⟨g, cap, rfl, hb, hr⟩
  · simp [Value.ownBlock] at hk
  · simp [Value.ownBlock] at hk; subst hk; exact ⟨hb, hr.lt⟩
theorem Row.ge {w : World} {base : Nat} {v : Value} {zs : List Int} (h : Row w base v zs) : ∀ k, v.ownBlock = some k → base ≤ k := fun k hk => (h.lt k hk).1
theorem Row.kept {w w' : World} {base : Nat} {v : Value} {zs : List Int} {row : Option Nat} (h : Row w base v zs) (hg : w.grownBy w' row) (hne : v.ownBlock = none ∨ v.ownBlock ≠ row) : Row w' base v zs := by
  rcases h with h | ⟨g, cap, rfl, hb, hr⟩
  · exact .inl h
  · refine .inr ⟨g, cap, rfl, hb, hr.kept hg ?_⟩
    simp [Value.ownBlock] at hne
    exact fun e => hne e.symm
theorem Row.keep {w w' : World} {base : Nat} {v : Value} {zs : List Int} (h : Row w base v zs) (k : Keep w w') : Row w' base v zs :=
  h.kept k.grownBy (by cases v.ownBlock <;> simp)
theorem Row.rd {w : World} {base : Nat} {v : Value} {zs : List Int} (h : Row w base v zs) : Rd w v zs := by
  rcases h with ⟨rfl, rfl⟩ | ⟨g, cap, rfl, hb, hr⟩
  · exact ⟨none, 0, rfl, .inl rfl⟩
  · exact ⟨some ⟨g, 0, none⟩, cap, rfl, .inr ⟨g, 0, rfl, hr.lt, fun i hi => by rw [Nat.zero_add]; exact hr.cell hi⟩⟩
theorem Row.base_le {w : World} {base base' : Nat} {v : Value} {zs : List Int} (h : Row w base v zs) (hb : base' ≤ base) : Row w base' v zs := by
  rcases h with h | ⟨g, cap, hv, hg, hr⟩
  · exact .inl h
  · exact .inr ⟨g, cap, hv, Nat.le_trans hb hg, hr⟩
/-- Of two rows the later one was made behind the first. -/
theorem Row.apart {w w' : World} {base : Nat} {v v' : Value} {zs zs' : List Int} (h : Row w base v zs) (h' : Row w' w.heap.size v' zs') : v.ownBlock = none ∨ v.ownBlock ≠ v'.ownBlock := by
  cases hv : v.ownBlock with
  | none => exact .inl rfl
  | some k =>
    refine .inr fun e => ?_
    have h1 := (h.lt k hv).2
    have h2 := h'.ge k e.symm
    omega
/-- A row that lies above is another one. -/
theorem Row.apart' {w w' : World} {base : Nat} {v v' : Value} {zs zs' : List Int} (h : Row w base v zs) (h' : Row w' w.heap.size v' zs') : v'.ownBlock = none ∨ v'.ownBlock ≠ v.ownBlock := by
  cases hv : v'.ownBlock with
  | none => exact .inl rfl
  | some k =>
    refine .inr fun e => ?_
    have h1 := (h.lt k e.symm).2
    have h2 := h'.ge k hv
    omega
theorem row_new {w : World} {g n cap base : Nat} {zs : List Int} (h : RowAt w g zs) (hb : base ≤ g) (hn : zs.length = n) : Row w base (.slice (some ⟨g, 0, none⟩) n cap) zs := by
  subst hn; exact .inr ⟨g, cap, rfl, hb, h⟩
/-- A literal without an element. -/
theorem row_empty (w : World) (e : TypeId) : Row (w.alloc (.cells #[] e)) w.heap.size (.slice (some ⟨w.heap.size, 0, none⟩) 0 0) [] :=
  .inr ⟨w.heap.size, 0, rfl, Nat.le_refl _, #[], e, heap_alloc_new w _, rfl⟩
end Go.Proofs.Ytkbkdlaknmgjpaa

/- Lists of lists of numbers that an iterator reads, in blocks from s1 up to s2 alone; what stays of them where other blocks turn. -/
namespace Go.Proofs.Ytkbkdlaknmgjpaa
open Go.ChangeShapes Go.WideShapes Go.ChangeAt Go.RowKit

theorem But.cell {C : Nat → Prop} {w w' : World} (h : But C w w') {b o : Nat} (hb : b < w.heap.size) (hn : ¬ C b) : w'.cell? ⟨b, o, none⟩ = w.cell? ⟨b, o, none⟩ := World.cell?_of_block (w := w) (h.block b hb hn)
theorem But.free {C : Nat → Prop} {w w' : World} (h : But C w w') {b o : Nat} (hb : b < w.heap.size) (hn : ¬ C b) : w'.frozen? ⟨b, o, none⟩ = w.frozen? ⟨b, o, none⟩ := World.frozen?_of_block (w := w) (h.block b hb hn)
theorem But.drewN {C : Nat → Prop} {a b : World} (h : But C a b) (n : Nat) : But C a (b.drewN n) := h.trans ⟨rfl, rfl, rfl, Nat.le_refl _, fun _ _ _ => rfl⟩
theorem But.keep {C : Nat → Prop} {a b c : World} (h : But C a b) (k : Keep b c) : But C a c := h.trans (But.of_below k)
theorem Own.but {C : Nat → Prop} {w w' : World} {s : Nat} {v : Value} {zs : List Int} (h : Own w s v zs) (k : But C w w') (hc : ∀ b, s ≤ b → (∃ o : Obj, w.heap[b]? = some o ∧ o.isCells = true) → ¬ C b) : Own w' s v zs := by
  have hlt := World.ownsRow.lt h
  obtain ⟨h1, h2⟩ := h
  refine ⟨h1, ?_⟩
  rcases h2 with h2 | ⟨g, cap, cur, rfl, hb, hg, rest⟩
  · exact .inl h2
  · have := (hlt g rfl).2
    exact .inr ⟨g, cap, cur, rfl, hb, (k.block g this (hc g hb ⟨_, hg, rfl⟩)).trans hg, rest⟩
/-- A list that the call owns stays where no cells turn. -/
theorem Own.turn {s t : Nat} {w w' : World} {v : Value} {zs : List Int} (h : Own w s v zs) (k : But (NC t w) w w') : Own w' s v zs :=
  h.but k (fun b _ ⟨o, h1, h2⟩ ⟨_, o', h3, h4⟩ => by rw [h1] at h3; cases h3; rw [h2] at h4; cases h4)
/-- A list of numbers that can be read, in a block from s1 up to s2. -/
def RdR (s1 s2 : Nat) (w : World) (v : Value) (zs : List Int) : Prop :=
  ∃ (a : Option Addr) (cap : Nat), v = .slice a zs.length cap ∧
    (zs = [] ∨ ∃ b off, a = some ⟨b, off, none⟩ ∧ s1 ≤ b ∧ b < s2 ∧ ∀ i, i < zs.length → w.cell? ⟨b, off + i, none⟩ = some (.int .i64 (zs.getD i 0)))
theorem RdR.rd {s1 s2 : Nat} {w : World} {v : Value} {zs : List Int} (h : RdR s1 s2 w v zs) (hs : s2 ≤ w.heap.size) : Rd w v zs := by
  obtain ⟨a, cap, rfl, h⟩ := h
  refine ⟨a, cap, rfl, ?_⟩
  rcases h with h | ⟨b, off, rfl, h1, h2, hc⟩
  · exact .inl h
  · exact .inr ⟨b, off, rfl, by omega, hc⟩
theorem RdR.but {C : Nat → Prop} {s1 s2 : Nat} {w w' : World} {v : Value} {zs : List Int} (h : RdR s1 s2 w v zs) (hs : s2 ≤ w.heap.size) (k : But C w w') (hc : ∀ b, s1 ≤ b → b < s2 → ¬ C b) : RdR s1 s2 w' v zs := by
  obtain ⟨a, cap, rfl, h⟩ := h
  refine ⟨a, cap, rfl, ?_⟩
  rcases h with h | ⟨b, off, rfl, h1, h2, h3⟩
  · exact .inl h
  · exact .inr ⟨b, off, rfl, h1, h2, fun i hi => (k.cell (by omega) (hc b h1 h2)).trans (h3 i hi)⟩
/-- The first n of a list of such lists. -/
def RdP (s1 s2 : Nat) (w : World) (v : Value) (n : Nat) (css : List (List Int)) : Prop :=
  n ≤ css.length ∧ ∃ (a : Option Addr) (cap : Nat), v = .slice a n cap ∧ n ≤ cap ∧
    (n = 0 ∨ ∃ b off, a = some ⟨b, off, none⟩ ∧ s1 ≤ b ∧ b < s2 ∧ ∀ i, i < n → ∃ vi, w.cell? ⟨b, off + i, none⟩ = some vi ∧ RdR s1 s2 w vi (css.getD i []))
theorem RdP.but {C : Nat → Prop} {s1 s2 : Nat} {w w' : World} {v : Value} {n : Nat} {css : List (List Int)} (h : RdP s1 s2 w v n css) (hs : s2 ≤ w.heap.size) (k : But C w w') (hc : ∀ b, s1 ≤ b → b < s2 → ¬ C b) : RdP s1 s2 w' v n css := by
  obtain ⟨h0, a, cap, rfl, hn, h⟩ := h
  refine ⟨h0, a, cap, rfl, hn, ?_⟩
  rcases h with h | ⟨b, off, rfl, h1, h2, h3⟩
  · exact .inl h
  · refine .inr ⟨b, off, rfl, h1, h2, fun i hi => ?_⟩
    obtain ⟨vi, e1, e2⟩ := h3 i hi
    exact ⟨vi, (k.cell (by omega) (hc b h1 h2)).trans e1, e2.but hs k hc⟩
theorem AppL.rdp {w : World} {base : Nat} {x : Value} {vs : List Value} {zss : List (List Int)} (h : AppL w base x vs zss) (hge : ∀ (i : Nat) u, vs[i]? = some u → ∀ k, u.ownBlock = some k → base ≤ k) : RdP base w.heap.size w x zss.length zss := by
  have hl := h.row.1
  have hlt := h.lt
  have h2 := h.row
  refine ⟨Nat.le_refl _, ?_⟩
  rcases h.row.2 with ⟨rfl, hz⟩ | ⟨g, cap, cur, rfl, hb, hg, hcap, _⟩
  · exact ⟨none, 0, by rw [hz], by omega, .inl hz⟩
  · refine ⟨_, _, rfl, hcap, .inr ⟨g, 0, rfl, hb, (hlt g rfl).2, fun i hi => ?_⟩⟩
    have hi' : i < vs.length := by omega
    have hE := h.each i _ (List.getElem?_eq_getElem hi')
    refine ⟨vs[i], ?_, ?_⟩
    · rw [Nat.zero_add, World.ownsRow.cellAt h2 i (by omega), List.getElem?_eq_getElem hi']
    · have hG := hge i _ (List.getElem?_eq_getElem hi')
      obtain ⟨a, c, e, hr⟩ := hE.rd
      refine ⟨a, c, e, ?_⟩
      rcases hr with hr | ⟨b, off, rfl, hb2, hc2⟩
      · exact .inl hr
      · exact .inr ⟨b, off, rfl, hG b (by rw [e]; rfl), hb2, hc2⟩
theorem RdP.rdl {s1 s2 : Nat} {w : World} {v : Value} {css : List (List Int)} (h : RdP s1 s2 w v css.length css) (hs : s2 ≤ w.heap.size) : RdL w v css := by
  obtain ⟨_, a, cap, rfl, _, h⟩ := h
  refine ⟨a, cap, rfl, ?_⟩
  rcases h with h | ⟨b, off, rfl, h1, h2, h3⟩
  · exact .inl (List.eq_nil_of_length_eq_zero h)
  · refine .inr ⟨b, off, rfl, by omega, fun i hi => ?_⟩
    obtain ⟨vi, e1, e2⟩ := h3 i hi
    exact ⟨vi, e1, e2.rd hs⟩
end Go.Proofs.Ytkbkdlaknmgjpaa

/- Plain mathematics of the numbers that the program picks among twelve: those that there are and that pass a test. -/
namespace Go.Proofs.Ytkbkdlaknmgjpaa

def tstE (f : Ev → Bool) (es : List Ev) (k : Nat) : Bool := decide (k < es.length) && f (es.getD k zE)
def chK (f : Ev → Bool) (es : List Ev) : Nat → List Int
  | 0 => []
  | k + 1 => if tstE f es k = true then chK f es k ++ [(k : Int)] else chK f es k
theorem chK_min (f : Ev → Bool) (es : List Ev) : ∀ k, chK f es k = idxK f es (min k es.length)
  | 0 => by simp [chK, idxK]
  | k + 1 => by
    rw [chK, chK_min f es k]
    by_cases h : k < es.length
    · rw [show min (k + 1) es.length = k + 1 by omega, show min k es.length = k by omega, idxK]
      simp [tstE, h]
    · rw [show min (k + 1) es.length = min k es.length by omega]
      simp [tstE, h]
theorem chK_all (f : Ev → Bool) (es : List Ev) (k : Nat) (h : es.length ≤ k) : chK f es k = idxK f es es.length := by
  rw [chK_min, Nat.min_eq_right h]
theorem chK_len (f : Ev → Bool) (es : List Ev) (k : Nat) : (chK f es k).length ≤ k := by
  rw [chK_min]
  have := idxK_len f es (min k es.length)
  omega
end Go.Proofs.Ytkbkdlaknmgjpaa

/- Contract of the program's ReadsOf: a new list of numbers. (Written by mknum.py.) -/
namespace Go.Proofs.Ytkbkdlaknmgjpaa
open Go.ChangeShapes Go.WideShapes Go.ChangeAt Go.RowKit

theorem rClo_any (x0 x1 : Int) (x2 : Bool) (x3 x4 x5 : Int) (w : World) :
    Calls Try.prog 54 #[.agg #[.int .i64 x0, .int .i64 x1, .bool x2, .int .i64 x3, .int .i64 x4, .int .i64 x5]] w fun e w' => e = .returned (.bool (rdE (x0, x1, x2, x3, x4, x5))) ∧ Keep w w' := by
  go_enter Try.func54, Try.ntmps54
  go_wp2
  go_ret
  exact ⟨rfl, (Keep.refl w).alloc _⟩
set_option maxRecDepth 100000 in
set_option maxHeartbeats 2000000 in
theorem rNum_any (w : World) (v : Value) (es : List Ev) (h : RdE w v es) (k : Nat) (A B : Nat) (hA : w.cell? ⟨A, 0, none⟩ = some v) (hAl : A < w.heap.size) (hB : w.cell? ⟨B, 0, none⟩ = some (.func (Fn.func 54) #[] #[])) (hBl : B < w.heap.size) :
    Calls Try.prog 66 #[.int .i64 k, .pointer (some ⟨A, 0, none⟩), .pointer (some ⟨B, 0, none⟩)] w fun e w' => e = .returned (.bool (tstE rdE es k)) ∧ Keep w w' := by
  obtain ⟨a, c, rfl, h⟩ := h
  by_cases hlt : k < es.length
  · rcases h with h | ⟨b, o, rfl, hb, hc⟩
    · exfalso; rw [h] at hlt; simp at hlt
    have AT := hc k _ (evs_get hlt)
    have HE : Hid (tstE rdE es k = rdE (es.getD k zE)) := Lib.hid (by unfold tstE; simp [hlt])
    clear hc
    obtain ⟨e, he⟩ : ∃ e, e = es.getD k zE := ⟨_, rfl⟩
    rw [← he] at AT HE
    clear he
    obtain ⟨x0, x1, x2, x3, x4, x5⟩ := e
    obtain ⟨d0, d1, d2, d3, d4, d5⟩ := atE AT
    clear AT
    have i1 : (0 : Int) ≤ (k : Int) := Int.natCast_nonneg _
    have i2 : (k : Int) < (es.length : Int) := by omega
    have z1 : b < w.drew.heap.size := hb
    have z2 : A < w.drew.heap.size := hAl
    have z3 : B < w.drew.heap.size := hBl
    go_enter Try.func66, Try.ntmps66
    go_wp2_with fail
    go_region_held3 (fun w' => w'.cell? ⟨A, 0, none⟩ = some (.slice (some ⟨b, o, none⟩) es.length (es.length + c)) ∧ w'.cell? ⟨B, 0, none⟩ = some (.func (Fn.func 54) #[] #[]) ∧ w'.cell? ⟨b, o + k * 6, none⟩ = some (.int .i64 x0) ∧ w'.cell? ⟨b, o + k * 6 + 1, none⟩ = some (.int .i64 x1) ∧ w'.cell? ⟨b, o + k * 6 + 2, none⟩ = some (.bool x2) ∧ w'.cell? ⟨b, o + k * 6 + 3, none⟩ = some (.int .i64 x3) ∧ w'.cell? ⟨b, o + k * 6 + 4, none⟩ = some (.int .i64 x4) ∧ w'.cell? ⟨b, o + k * 6 + 5, none⟩ = some (.int .i64 x5))
      (first | go_keep | (go_split_ands; refine ⟨?_, ?_, ?_, ?_, ?_, ?_, ?_, ?_⟩ <;> (rw [kk.cell (by assumption)]; assumption)))
      ((go_at_call 54; refine (rClo_any x0 x1 x2 x3 x4 x5 _).mono ?_; rintro e wz ⟨rfl, kk⟩))
    all_goals
      go_wp2
      go_ret
      exact ⟨by rw [HE.out]; rfl, ((Keep.refl w).drew).trans kk⟩
  · have HE : Hid (tstE rdE es k = false) := Lib.hid (by unfold tstE; simp [hlt])
    have i2 : ¬ ((k : Int) < (es.length : Int)) := by omega
    go_enter Try.func66, Try.ntmps66
    go_wp2_with fail
    go_quiet (fail)
    go_wp2
    go_ret
    exact ⟨by rw [HE.out]; rfl, (Keep.refl w).drewN _⟩

set_option maxRecDepth 100000 in
set_option maxHeartbeats 1000000 in
theorem rChosen_any (w : World) (v : Value) (es : List Ev) (h : RdE w v es) (hx : es.length ≤ 12) (A B : Nat) (hA : w.cell? ⟨A, 0, none⟩ = some v) (hAl : A < w.heap.size) (hB : w.cell? ⟨B, 0, none⟩ = some (.func (Fn.func 54) #[] #[])) (hBl : B < w.heap.size) :
    Calls Try.prog 61 #[.func (Fn.func 66) #[] #[.pointer (some ⟨A, 0, none⟩), .pointer (some ⟨B, 0, none⟩)]] w fun e w' => ∃ v', e = .returned v' ∧ Own w' w.heap.size v' (idxK rdE es es.length) ∧ Keep w w' := by
  have hown0 : Own (w.alloc (.cells #[] 2)) w.heap.size (.slice (some ⟨w.heap.size, 0, none⟩) 0 0) [] := World.ownsRow_lit w #[] 0 (Nat.le_refl _) (by decide) rfl
  obtain ⟨i0, hi, hz0, hz1, hz2⟩ := info_parts Try.infoI
  go_enter Try.func61, Try.ntmps61
  go_wp2
  go_loopw [3, 6] (fun v i wr => ∃ k : Nat, k ≤ 12 ∧ i = .int .i64 k ∧ Own wr w.heap.size v (chK rdE es k) ∧ Keep w wr) (fun _ i _ => 12 - (intOf i).toNat)
  case atStart => exact ⟨0, Nat.zero_le _, rfl, hown0, (Keep.refl _).alloc _⟩
  case round =>
    obtain ⟨k, hk, rfl, ho, hK⟩ := hrel
    clear hown0
    by_cases hlt : k < 12
    · have hml := chK_len rdE es k
      have hsz := hK.size
      have C := rNum_any wr v es (h.keep hK) k A B (by rw [hK.cell hAl]; exact hA) (Nat.lt_of_lt_of_le hAl hK.size) (by rw [hK.cell hBl]; exact hB) (Nat.lt_of_lt_of_le hBl hK.size)
      clear h hA hB
      cases hb : tstE rdE es k
      · have HM : Hid (chK rdE es (k + 1) = chK rdE es k) := Lib.hid (by rw [chK, hb]; rfl)
        rw [hb] at C
        go_wp2_with fail
        refine C.mono ?_
        rintro e w1 ⟨rfl, k1⟩
        go_wp2
        go_roundw
        case rel => exact ⟨k + 1, by omega, by go_num, by rw [HM.out]; exact ho.keep k1, hK.trans k1⟩
        case measure => simp [intOf]; omega
      · have HM : Hid (chK rdE es (k + 1) = chK rdE es k ++ [(k : Int)]) := Lib.hid (by rw [chK, hb]; rfl)
        rw [hb] at C
        go_wp2_with fail
        refine C.mono ?_
        rintro e w1 ⟨rfl, k1⟩
        have ho1 := ho.keep k1
        have hK1 := hK.trans k1
        have hsz1 := hK1.size
        clear ho hK C
        go_wp2_with (at_builtin; refine wpList_append_own _ rfl _ _ 23 rfl w.heap.size 2 i0 (.int .i64 0) 1 8 Try.underlying23 hi hz0 hz1 hz2 rfl (by decide) _ _ _ rfl (World.ownsRow.alloc ho1 _) ⟨_, 0, none⟩ 1 1 [.int .i64 k] rfl rfl ?c1 ?c2 ?c3 ?c4 ?c5 ?_)
        case c1 =>
          intro j u hj
          match j, hj with
          | 0, hj => simp at hj; subst hj; simp [Addr.add]
        case c2 => intro u hu; simp at hu; subst hu; rfl
        case c3 => unfold maxLen; omega
        case c4 => omega
        case c5 => simp; omega
        intro v' w2 hown' hgrow _
        have hK2 : Keep w w2 := (hK1.alloc _).grown hgrow ho1.ge
        clear hgrow
        go_wp2
        go_roundw
        case rel => exact ⟨k + 1, by omega, by go_num, by rw [HM.out]; exact own_hit hown', hK2⟩
        case measure => simp [intOf]; omega
    · obtain rfl : k = 12 := by omega
      rw [chK_all rdE es 12 hx] at ho
      go_wp2
      go_ret
      exact ⟨_, rfl, ho, hK⟩

set_option maxRecDepth 100000 in
set_option maxHeartbeats 1000000 in
theorem rNumbers_any (w : World) (v : Value) (es : List Ev) (h : RdE w v es) (hx : es.length ≤ 1048576) :
    Calls Try.prog 53 #[v, (.func (Fn.func 54) #[] #[])] w fun e w' => ∃ v', e = .returned v' ∧ Own w' w.heap.size v' (idxB rdE es) ∧ Keep w w' := by
  by_cases hl : 12 < es.length
  · have HE : Hid (idxB rdE es = []) := Lib.hid (by unfold idxB; rw [if_neg (by omega)])
    have l1 : (12 : Int) < (es.length : Int) := by omega
    have O : ∀ o1 o2 : Obj, Own (((w.alloc o1).alloc o2).alloc (.cells #[] 2)) w.heap.size (.slice (some ⟨w.heap.size + 1 + 1, 0, none⟩) 0 0) [] := fun o1 o2 => by
      have q : Own (((w.alloc o1).alloc o2).alloc (.cells #[] 2)) ((w.alloc o1).alloc o2).heap.size (.slice (some ⟨((w.alloc o1).alloc o2).heap.size, 0, none⟩) 0 0) [] := World.ownsRow_lit _ #[] 0 (Nat.le_refl _) (by decide) rfl
      have z : ((w.alloc o1).alloc o2).heap.size = w.heap.size + 1 + 1 := by rw [heap_size, heap_size]
      rw [z] at q
      exact q.base_le (by omega)
    obtain ⟨a, c, rfl, h⟩ := h
    go_enter Try.func53, Try.ntmps53
    go_wp2
    go_ret
    refine ⟨_, rfl, ?_, (((Keep.refl w).alloc _).alloc _).alloc _⟩
    rw [HE.out]
    exact O _ _
  · have l1 : es.length ≤ 12 := by omega
    have HE : Hid (idxB rdE es = idxK rdE es es.length) := Lib.hid (by unfold idxB; rw [if_pos l1])
    clear hl
    have C := fun (o1 o2 : Obj) => rChosen_any ((w.alloc o1).alloc o2) v es (h.keep (((Keep.refl w).alloc _).alloc _)) l1 w.heap.size (w.heap.size + 1)
    obtain ⟨a, c, rfl, h⟩ := h
    have l2 : (es.length : Int) ≤ 12 := by omega
    go_enter Try.func53, Try.ntmps53
    go_wp2_with fail
    refine (C _ _ ?g1 ?g2 ?g3 ?g4).mono ?_
    case g1 => simp
    case g2 => simp only [heap_size]; omega
    case g3 => simp
    case g4 => simp only [heap_size]; omega
    rintro e w1 ⟨v1, rfl, ho, hK⟩
    go_wp2
    go_ret
    refine ⟨_, rfl, ?_, (((Keep.refl w).alloc _).alloc _).trans hK⟩
    rw [HE.out]
    exact ho.base_le (by simp only [heap_size]; omega)

theorem implReadsOf_any (w : World) (v : Value) (es : List Ev) (h : RdE w v es) (hx : es.length ≤ 1048576) :
    Calls Try.prog 34 #[v] w fun e w' => ∃ v', e = .returned v' ∧ Own w' w.heap.size v' (idxB rdE es) ∧ Keep w w' := by
  go_enter Try.func34, Try.ntmps34
  go_wp2_with fail
  refine (rNumbers_any _ _ _ h hx).mono ?_
  rintro e w1 ⟨v1, rfl, ho, hK⟩
  go_wp2
  go_ret
  exact ⟨_, rfl, ho, hK⟩
end Go.Proofs.Ytkbkdlaknmgjpaa
