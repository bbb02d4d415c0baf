/- Several texts in one. -/
import Derived.Test.YtkbkdlaknmgjpaaGreatMA
import Derived.Test.YtkbkdlaknmgjpaaGreatRows
import Derived.OpenShut
import Derived.Below
import Derived.WalkSmall
import Derived.Outline
import Derived.Laws.CopyOwn
import Derived.Laws.Rows
import Derived.Laws.ResultCell
import Derived.Maps.AppendAt
import Derived.Laws.OwnMore
import Derived.OwnWalk
import Derived.Deep.Slices
import Derived.Lib.SmallJoins
import Derived.BigRegion
import Derived.RegionTactic
import Derived.Deep.RegionHeld3
import Derived.Deep.QuietTactic
import Derived.BigQuiet
import Derived.Lib.Hide
import Derived.Laws.StructEq
/- Plain mathematics of webs that are filled, or thinned, line by line by a test; the lines behind one another, and those at one place. -/
namespace Go.Proofs.YtkbkdlaknmgjpaaGreat
open Go.RowKit

def addIn (p : Nat → Nat → Bool) (i : Nat) (st : List Int) : Nat → List Int
  | 0 => st
  | k + 1 => if p i k = true then (addIn p i st k).set i (gAdd ((addIn p i st k).getD i 0) k) else addIn p i st k
def addAll (p : Nat → Nat → Bool) (n : Nat) : Nat → List Int
  | 0 => List.replicate n 0
  | i + 1 => addIn p i (addAll p n i) n
def bitI (k : Nat) : Int := wrap64 (2 ^ (k : Int).toNat)
def offIn (p : Nat → Nat → Bool) (i : Nat) (st : List Int) : Nat → List Int
  | 0 => st
  | k + 1 => if p i k = true then (offIn p i st k).set i (notI ((offIn p i st k).getD i 0) (bitI k)) else offIn p i st k
def offAll (p : Nat → Nat → Bool) (n : Nat) (st : List Int) : Nat → List Int
  | 0 => st
  | i + 1 => offIn p i (offAll p n st i) n
theorem addIn_hit {p : Nat → Nat → Bool} {i k : Nat} (st : List Int) (h : p i k = true) : addIn p i st (k + 1) = (addIn p i st k).set i (gAdd ((addIn p i st k).getD i 0) k) := if_pos h
theorem addIn_miss {p : Nat → Nat → Bool} {i k : Nat} (st : List Int) (h : p i k = false) : addIn p i st (k + 1) = addIn p i st k := if_neg (by simp [h])
theorem offIn_hit {p : Nat → Nat → Bool} {i k : Nat} (st : List Int) (h : p i k = true) : offIn p i st (k + 1) = (offIn p i st k).set i (notI ((offIn p i st k).getD i 0) (bitI k)) := if_pos h
theorem offIn_miss {p : Nat → Nat → Bool} {i k : Nat} (st : List Int) (h : p i k = false) : offIn p i st (k + 1) = offIn p i st k := if_neg (by simp [h])
/-- As long as the test says no, nothing is filled. -/
theorem addIn_none {p : Nat → Nat → Bool} {i : Nat} (st : List Int) : ∀ k : Nat, (∀ j, j < k → p i j = false) → addIn p i st k = st
  | 0, _ => rfl
  | k + 1, h => by rw [addIn_miss st (h k (by omega))]; exact addIn_none st k (fun j hj => h j (by omega))
theorem offIn_none {p : Nat → Nat → Bool} {i : Nat} (st : List Int) : ∀ k : Nat, (∀ j, j < k → p i j = false) → offIn p i st k = st
  | 0, _ => rfl
  | k + 1, h => by rw [offIn_miss st (h k (by omega))]; exact offIn_none st k (fun j hj => h j (by omega))
theorem bitI_add : ∀ k : Nat, k < 12 → bitI k = gAdd 0 k := by decide +kernel
theorem ok_bit {n k : Nat} (hn : n ≤ 12) (hk : k < n) : okB n (bitI k) = true ∧ ∀ j : Nat, inSetB (bitI k) j = decide (k = j) := by
  rw [bitI_add k (by omega)]
  have h := ok_add (ok_zero hn) hk
  exact ⟨h.1, fun j => by rw [h.2 j, zero_bit]; simp⟩
theorem web_addIn {p : Nat → Nat → Bool} {n i : Nat} {st : List Int} (hi : i < n) (hst : Web n st) : ∀ m : Nat, m ≤ n →
    Web n (addIn p i st m) ∧ ∀ a j : Nat, a < n → line (addIn p i st m) a j = (line st a j || (decide (i = a) && decide (j < m) && p i j))
  | 0, _ => ⟨hst, fun a j _ => by simp [addIn]⟩
  | m + 1, hm => by
    have ih := web_addIn hi hst m (by omega) (p := p)
    cases hp : p i m with
    | false =>
      rw [addIn_miss st hp]
      refine ⟨ih.1, fun a j ha => ?_⟩
      rw [ih.2 a j ha]
      by_cases e : j = m
      · subst e; simp [hp]
      · have d : decide (j < m + 1) = decide (j < m) := decide_eq_decide.2 (by omega)
        rw [d]
    | true =>
      rw [addIn_hit st hp]
      have ha := ok_add (ih.1.2.2 i hi) (show m < n by omega)
      refine ⟨ih.1.set ha.1, fun a j haa => ?_⟩
      have e1 := ih.2 a j haa
      unfold line at e1 ⊢
      rw [getD_set _ _ _ _ (by rw [ih.1.2.1]; exact hi)]
      by_cases e : i = a
      · subst e
        simp only [if_true]
        rw [ha.2 j, e1]
        by_cases e2 : m = j
        · subst e2; simp [hp]
        · have d : decide (j < m + 1) = decide (j < m) := decide_eq_decide.2 (by omega)
          rw [d]; simp [e2]
      · simp only [e, if_false]; rw [e1]; simp [e]
theorem web_addAll {p : Nat → Nat → Bool} {n : Nat} (hn : n ≤ 12) : ∀ m : Nat, m ≤ n →
    Web n (addAll p n m) ∧ ∀ a j : Nat, a < n → line (addAll p n m) a j = (decide (a < m) && decide (j < n) && p a j)
  | 0, _ => ⟨Web.zero hn, fun a j _ => by unfold addAll; rw [line_zero]; simp⟩
  | m + 1, hm => by
    have ih := web_addAll hn m (by omega) (p := p)
    have h1 := web_addIn (p := p) (show m < n by omega) ih.1 n (Nat.le_refl _)
    refine ⟨h1.1, fun a j ha => ?_⟩
    show line (addIn p m (addAll p n m) n) a j = _
    rw [h1.2 a j ha, ih.2 a j ha]
    by_cases e : m = a
    · subst e; simp
    · have d : decide (a < m + 1) = decide (a < m) := decide_eq_decide.2 (by omega)
      rw [d]; simp [e]
theorem web_offIn {p : Nat → Nat → Bool} {n i : Nat} {st : List Int} (hi : i < n) (hst : Web n st) : ∀ m : Nat, m ≤ n →
    Web n (offIn p i st m) ∧ ∀ a j : Nat, a < n → line (offIn p i st m) a j = (line st a j && !(decide (i = a) && decide (j < m) && p i j))
  | 0, _ => ⟨hst, fun a j _ => by simp [offIn]⟩
  | m + 1, hm => by
    have ih := web_offIn hi hst m (by omega) (p := p)
    cases hp : p i m with
    | false =>
      rw [offIn_miss st hp]
      refine ⟨ih.1, fun a j ha => ?_⟩
      rw [ih.2 a j ha]
      by_cases e : j = m
      · subst e; simp [hp]
      · have d : decide (j < m + 1) = decide (j < m) := decide_eq_decide.2 (by omega)
        rw [d]
    | true =>
      rw [offIn_hit st hp]
      have hb := ok_bit hst.1 (show m < n by omega)
      have ha := ok_not (ih.1.2.2 i hi) hb.1
      refine ⟨ih.1.set ha.1, fun a j haa => ?_⟩
      have e1 := ih.2 a j haa
      unfold line at e1 ⊢
      rw [getD_set _ _ _ _ (by rw [ih.1.2.1]; exact hi)]
      by_cases e : i = a
      · subst e
        simp only [if_true]
        rw [ha.2 j, e1, hb.2 j]
        by_cases e2 : m = j
        · subst e2; simp [hp]
        · have d : decide (j < m + 1) = decide (j < m) := decide_eq_decide.2 (by omega)
          rw [d]; simp [e2]
      · simp only [e, if_false]; rw [e1]; simp [e]
theorem web_offAll {p : Nat → Nat → Bool} {n : Nat} {st : List Int} (hst : Web n st) : ∀ m : Nat, m ≤ n →
    Web n (offAll p n st m) ∧ ∀ a j : Nat, a < n → line (offAll p n st m) a j = (line st a j && !(decide (a < m) && decide (j < n) && p a j))
  | 0, _ => ⟨hst, fun a j _ => by simp [offAll]⟩
  | m + 1, hm => by
    have ih := web_offAll hst m (by omega) (p := p)
    have h1 := web_offIn (p := p) (show m < n by omega) ih.1 n (Nat.le_refl _)
    refine ⟨h1.1, fun a j ha => ?_⟩
    show line (offIn p m (offAll p n st m) n) a j = _
    rw [h1.2 a j ha, ih.2 a j ha]
    by_cases e : m = a
    · subst e; simp
    · have d : decide (a < m + 1) = decide (a < m) := decide_eq_decide.2 (by omega)
      rw [d]; simp [e]
/-- Does event k stand behind event i? -/
def behP (es : List Ev) (i k : Nat) : Bool := decide (i < k) && ((decide (i < 3) && decide (3 ≤ k)) || (decide (3 ≤ i) && ((es.getD i zE).1 == (es.getD k zE).1)))
def behL (es : List Ev) : List Int := addAll (behP es) es.length es.length
/-- Are they at two places? -/
def plcP (es : List Ev) (i k : Nat) : Bool := (es.getD i zE).2.2.2.1 != (es.getD k zE).2.2.2.1
def plcL (es : List Ev) : List Int := offAll (plcP es) es.length (behL es) es.length
theorem behP_up {es : List Ev} {i j : Nat} (h : j ≤ i) : behP es i j = false := by unfold behP; simp; omega
theorem beh_line {es : List Ev} (h : es.length ≤ 12) : Web es.length (behL es) ∧ ∀ a j : Nat, a < es.length → line (behL es) a j = (decide (j < es.length) && behP es a j) := by
  have h1 := web_addAll (p := behP es) h es.length (Nat.le_refl _)
  exact ⟨h1.1, fun a j ha => by unfold behL; rw [h1.2 a j ha]; simp [ha]⟩
theorem plc_line {es : List Ev} (h : es.length ≤ 12) : Web es.length (plcL es) ∧ ∀ a j : Nat, a < es.length → line (plcL es) a j = (decide (j < es.length) && behP es a j && !plcP es a j) := by
  have h1 := beh_line h
  have h2 := web_offAll (p := plcP es) h1.1 es.length (Nat.le_refl _)
  refine ⟨h2.1, fun a j ha => ?_⟩
  unfold plcL
  rw [h2.2 a j ha, h1.2 a j ha]
  by_cases hj : j < es.length
  · simp [ha, hj]
  · simp [hj]
end Go.Proofs.YtkbkdlaknmgjpaaGreat

/- Plain mathematics: is a deed a swap or of a Group; does a wait stand between two deeds. -/
namespace Go.Proofs.YtkbkdlaknmgjpaaGreat

/-- Is that deed a swap or of a Group? -/
def wholeD (d : Dd) : Bool := (d.1 == 3) || decide (0 < d.2.2.2)
/-- Does a wait stand between the deeds lo and hi? -/
def waitsD (ds : List Dd) (lo hi : Nat) : Bool := (List.range hi).any (fun j => decide (lo < j) && ((ds.getD j zD).1 == 4))
theorem waitsD_no {ds : List Dd} {lo hi : Nat} (h : ∀ j, lo < j → j < hi → (ds.getD j zD).1 ≠ 4) : waitsD ds lo hi = false := by
  unfold waitsD
  rw [List.any_eq_false]
  intro j hj
  rw [List.mem_range] at hj
  by_cases hl : lo < j
  · have := h j hl hj
    simp [hl]; simpa using this
  · simp [hl]
theorem waitsD_yes {ds : List Dd} {lo hi j : Nat} (h1 : lo < j) (h2 : j < hi) (h : (ds.getD j zD).1 = 4) : waitsD ds lo hi = true := by
  unfold waitsD
  rw [List.any_eq_true]
  exact ⟨j, List.mem_range.2 h2, by simp only [h]; simp [h1]⟩
end Go.Proofs.YtkbkdlaknmgjpaaGreat

/- Plain mathematics of the lines that slow ink keeps. -/
namespace Go.Proofs.YtkbkdlaknmgjpaaGreat
open Go.RowKit

def dOf (dss : List (List Dd)) (e : Ev) : Dd := (dss.getD e.1.toNat []).getD e.2.1.toNat zD
/-- What is not kept: a write ahead of a read of another class, with no wait between them, neither of a swap or a Group. -/
def kepQ (dss : List (List Dd)) (a b : Ev) : Bool := !(rdE a) && rdE b && (csE a != csE b) && (!waitsD (dss.getD a.1.toNat []) a.2.1.toNat b.2.1.toNat && !wholeD (dOf dss a) && !wholeD (dOf dss b))
def kepP (dss : List (List Dd)) (es : List Ev) (i k : Nat) : Bool := decide (3 ≤ i) && behP es i k && kepQ dss (es.getD i zE) (es.getD k zE)
def kepL (dss : List (List Dd)) (es : List Ev) : List Int := offAll (kepP dss es) es.length (behL es) es.length
theorem kepP_up {dss : List (List Dd)} {es : List Ev} {i j : Nat} (h : j ≤ i) : kepP dss es i j = false := by unfold kepP; rw [behP_up h]; simp
theorem kep_line {dss : List (List Dd)} {es : List Ev} (h : es.length ≤ 12) : Web es.length (kepL dss es) ∧ ∀ a j : Nat, a < es.length → line (kepL dss es) a j = (decide (j < es.length) && behP es a j && !kepP dss es a j) := by
  have h1 := beh_line h
  have h2 := web_offAll (p := kepP dss es) h1.1 es.length (Nat.le_refl _)
  refine ⟨h2.1, fun a j ha => ?_⟩
  unfold kepL
  rw [h2.2 a j ha, h1.2 a j ha]
  by_cases hj : j < es.length
  · simp [ha, hj]
  · simp [hj]
/-- Nothing is taken from the first three. -/
theorem kep_three {dss : List (List Dd)} {es : List Ev} : ∀ k : Nat, k ≤ 3 → offAll (kepP dss es) es.length (behL es) k = behL es
  | 0, _ => rfl
  | k + 1, h => by
    rw [offAll, kep_three k (by omega)]
    exact offIn_none _ _ (fun j _ => by unfold kepP; simp; omega)
/-- A line that is met has not been taken yet. -/
theorem kep_has {dss : List (List Dd)} {es : List Ev} (hn : es.length ≤ 12) {k m : Nat} (hk : k < es.length) (hm : m < es.length) :
    inSetB ((offIn (kepP dss es) k (offAll (kepP dss es) es.length (behL es) k) m).getD k 0) m = behP es k m := by
  have h1 := beh_line hn
  have h2 := web_offAll (p := kepP dss es) h1.1 k (by omega)
  have h3 := web_offIn (p := kepP dss es) hk h2.1 m (by omega)
  have e3 := h3.2 k m hk
  rw [h2.2 k m hk, h1.2 k m hk] at e3
  unfold line at e3
  rw [e3]
  simp [hm]
end Go.Proofs.YtkbkdlaknmgjpaaGreat

/- Plain mathematics: in which order the events of one clerk stand. -/
namespace Go.Proofs.YtkbkdlaknmgjpaaGreat
open Go.RowKit

/-- Of two events of one clerk the later one is of a later deed, or both are of one swap. -/
def OrdE (dss : List (List Dd)) (a b : Ev) : Prop := a.1 = b.1 → 0 ≤ a.1 → a.2.1 < b.2.1 ∨ (a.2.1 = b.2.1 ∧ (dOf dss a).1 = 3)
theorem one_ord {dss : List (List Dd)} {i k : Nat} {c : Int} (d : Dd) (hd : d = (dss.getD i []).getD k zD) : (oneE i k d c).Pairwise (OrdE dss) ∧ ∀ e ∈ oneE i k d c, e.1 = (i : Int) ∧ e.2.1 = (k : Int) ∧ (dOf dss e).1 ≠ 4 := by
  have key : ∀ e : Ev, e.1 = (i : Int) → e.2.1 = (k : Int) → dOf dss e = d := fun e h1 h2 => by
    unfold dOf
    rw [h1, h2, Int.toNat_natCast, Int.toNat_natCast]
    exact hd.symm
  have h1 : ∀ e ∈ oneE i k d c, e.1 = (i : Int) ∧ e.2.1 = (k : Int) := by
    intro e he
    unfold oneE at he
    split at he
    · simp at he
    · split at he
      · simp only [List.mem_cons, List.not_mem_nil, or_false] at he
        rcases he with rfl | rfl <;> exact ⟨rfl, rfl⟩
      · split at he
        · simp only [List.mem_cons, List.not_mem_nil, or_false] at he
          subst he; exact ⟨rfl, rfl⟩
        · simp only [List.mem_cons, List.not_mem_nil, or_false] at he
          subst he; exact ⟨rfl, rfl⟩
  refine ⟨?_, fun e he => ⟨(h1 e he).1, (h1 e he).2, ?_⟩⟩
  · have h1' := h1
    unfold oneE at h1' ⊢
    split
    · exact List.Pairwise.nil
    · rename_i h4
      rw [if_neg h4] at h1'
      split
      · rename_i h3
        rw [if_pos h3] at h1'
        rw [List.pairwise_cons]
        refine ⟨fun b hb => ?_, by simp⟩
        simp only [List.mem_cons, List.not_mem_nil, or_false] at hb
        subst hb
        intro _ _
        refine .inr ⟨rfl, ?_⟩
        rw [key _ rfl rfl]
        exact h3
      · split <;> simp
  · rw [key e (h1 e he).1 (h1 e he).2]
    intro h4
    unfold oneE at he
    rw [if_pos h4] at he
    simp at he
theorem clk_ord {dss : List (List Dd)} {i : Nat} {out : List Ev} (ho : out.Pairwise (OrdE dss)) (hl : ∀ e ∈ out, e.1 < (i : Int)) (h4 : ∀ e ∈ out, 0 ≤ e.1 → (dOf dss e).1 ≠ 4) : ∀ k : Nat,
    (clkE i (dss.getD i []) out k).1.Pairwise (OrdE dss) ∧ (∀ e ∈ (clkE i (dss.getD i []) out k).1, e.1 < (i : Int) ∨ (e.1 = (i : Int) ∧ e.2.1 < (k : Int))) ∧ ∀ e ∈ (clkE i (dss.getD i []) out k).1, 0 ≤ e.1 → (dOf dss e).1 ≠ 4
  | 0 => ⟨ho, fun e he => .inl (hl e he), h4⟩
  | k + 1 => by
    obtain ⟨h1, h2, h3⟩ := clk_ord ho hl h4 k
    rw [clkE, stepE]
    split
    · refine ⟨h1, fun e he => ?_, h3⟩
      rcases h2 e he with h | ⟨h, h'⟩
      · exact .inl h
      · exact .inr ⟨h, by omega⟩
    · obtain ⟨g1, g2⟩ := one_ord (dss := dss) (i := i) (k := k) (c := clsE ((dss.getD i []).getD k zD).2.2.2 (clkE i (dss.getD i []) out k).1.length (clkE i (dss.getD i []) out k).2) _ rfl
      refine ⟨?_, fun e he => ?_, fun e he => ?_⟩
      · simp only
        rw [List.pairwise_append]
        refine ⟨h1, g1, fun a ha b hb => ?_⟩
        intro he _
        obtain ⟨b1, b2, _⟩ := g2 b hb
        rcases h2 a ha with h | ⟨h, h'⟩
        · omega
        · left; omega
      · rcases List.mem_append.1 he with he | he
        · rcases h2 e he with h | ⟨h, h'⟩
          · exact .inl h
          · exact .inr ⟨h, by omega⟩
        · obtain ⟨b1, b2, _⟩ := g2 e he
          exact .inr ⟨b1, by omega⟩
      · rcases List.mem_append.1 he with he | he
        · exact h3 e he
        · exact fun _ => (g2 e he).2.2
theorem evs_ord (dss : List (List Dd)) : ∀ n : Nat, (evsW dss n).Pairwise (OrdE dss) ∧ (∀ e ∈ evsW dss n, e.1 < (n : Int)) ∧ ∀ e ∈ evsW dss n, 0 ≤ e.1 → (dOf dss e).1 ≠ 4
  | 0 => by
    have neg : ∀ e ∈ evBeg, e.1 = -1 := by
      intro e he
      simp only [evBeg, List.mem_cons, List.not_mem_nil, or_false] at he
      rcases he with rfl | rfl | rfl <;> rfl
    refine ⟨?_, fun e he => by rw [neg e he]; omega, fun e he h0 => by rw [neg e he] at h0; omega⟩
    refine List.Pairwise.imp_of_mem (R := fun _ _ => True) ?_ (List.pairwise_of_forall (fun _ _ => trivial))
    intro a b ha _ _
    intro _ h0
    rw [neg a ha] at h0
    omega
  | n + 1 => by
    obtain ⟨h1, h2, h3⟩ := evs_ord dss n
    obtain ⟨g1, g2, g3⟩ := clk_ord (i := n) h1 h2 h3 (dss.getD n []).length
    rw [evsW]
    exact ⟨g1, fun e he => by rcases g2 e he with h | ⟨h, _⟩ <;> omega, g3⟩
end Go.Proofs.YtkbkdlaknmgjpaaGreat

/- Plain mathematics of Waited: waits between each two deeds, and no groups. -/
namespace Go.Proofs.YtkbkdlaknmgjpaaGreat

def waitD : Dd := (4, 0, 0, 0)
def bareD (d : Dd) : Dd := (d.1, d.2.1, d.2.2.1, 0)
/-- What Waited has made of the first k deeds of a clerk. -/
def waitK (ds : List Dd) : Nat → List Dd
  | 0 => []
  | k + 1 => if (ds.getD k zD).1 = 4 then waitK ds k else if waitK ds k = [] then [bareD (ds.getD k zD)] else waitK ds k ++ [waitD] ++ [bareD (ds.getD k zD)]
def waitC (ds : List Dd) : List Dd := waitK ds ds.length
def waitW (dss : List (List Dd)) : List (List Dd) := dss.map waitC
def waitB (dss : List (List Dd)) : List (List Dd) := if workB dss = true then (if workB (waitW dss) = true then waitW dss else []) else []
def btw : List Dd → List Dd
  | [] => []
  | [d] => [d]
  | d :: e :: r => d :: waitD :: btw (e :: r)
def strip : List Dd → List Dd
  | [] => []
  | d :: r => if d.1 = 4 then strip r else bareD d :: strip r
theorem btw_cons (d : Dd) {r : List Dd} (h : r ≠ []) : btw (d :: r) = d :: waitD :: btw r := by
  cases r with
  | nil => exact absurd rfl h
  | cons e r => rfl
theorem btw_snoc (d : Dd) : ∀ {l : List Dd}, l ≠ [] → btw (l ++ [d]) = btw l ++ [waitD] ++ [d]
  | [], h => absurd rfl h
  | [e], _ => rfl
  | e :: f :: r, _ => by
    rw [List.cons_append, btw_cons e (by simp), btw_snoc d (l := f :: r) (by simp), btw_cons e (by simp)]
    simp
theorem btw_nil {l : List Dd} : btw l = [] ↔ l = [] := by
  cases l with
  | nil => simp [btw]
  | cons d r =>
    cases r with
    | nil => simp [btw]
    | cons e r => simp [btw]
theorem strip_app : ∀ (l m : List Dd), strip (l ++ m) = strip l ++ strip m
  | [], m => by simp [strip]
  | d :: r, m => by
    rw [List.cons_append, strip, strip, strip_app r m]
    split
    · rfl
    · rfl
theorem take_moreW {α : Type} (l : List α) (k : Nat) (z : α) (h : k < l.length) : l.take (k + 1) = l.take k ++ [l.getD k z] := by
  rw [List.take_add_one, List.getElem?_eq_getElem h, List.getD_eq_getElem?_getD, List.getElem?_eq_getElem h]
  rfl
theorem waitK_btw (ds : List Dd) : ∀ k : Nat, k ≤ ds.length → waitK ds k = btw (strip (ds.take k))
  | 0, _ => by simp [waitK, strip, btw]
  | k + 1, h => by
    rw [waitK, waitK_btw ds k (by omega), take_moreW ds k zD (by omega), strip_app]
    simp only [strip]
    split
    · simp
    · split
      · rename_i h0
        rw [btw_nil] at h0
        rw [h0]
        rfl
      · rename_i h0
        rw [btw_nil] at h0
        rw [btw_snoc _ h0]
theorem waitC_btw (ds : List Dd) : waitC ds = btw (strip ds) := by
  rw [waitC, waitK_btw ds _ (Nat.le_refl _), List.take_length]
def bareB (l : List Dd) : Prop := ∀ d, d ∈ l → d.1 ≠ 4 ∧ d.2.2.2 = 0
theorem strip_bare : ∀ l : List Dd, bareB (strip l)
  | [] => by simp [bareB, strip]
  | d :: r => by
    have ih := strip_bare r
    rw [strip]
    split
    · exact ih
    · rename_i h
      intro x hx
      rcases List.mem_cons.1 hx with rfl | hx
      · exact ⟨h, rfl⟩
      · exact ih x hx
theorem bareD_same {d : Dd} (h : d.2.2.2 = 0) : bareD d = d := by
  obtain ⟨a, b, c, e⟩ := d
  simp only at h
  subst h
  rfl
theorem strip_btw : ∀ {l : List Dd}, bareB l → strip (btw l) = l
  | [], _ => rfl
  | [d], h => by
    have h1 := h d (by simp)
    simp only [btw, strip]
    rw [if_neg h1.1, bareD_same h1.2]
  | d :: e :: r, h => by
    have h1 := h d (by simp)
    have ih := strip_btw (l := e :: r) (fun x hx => h x (by simp only [List.mem_cons] at hx ⊢; exact .inr hx))
    rw [btw_cons d (by simp), strip, if_neg h1.1, bareD_same h1.2, strip, if_pos (show waitD.1 = 4 from rfl), ih]
/-- What is waited stays so. -/
theorem waitC_twice (ds : List Dd) : waitC (waitC ds) = waitC ds := by
  rw [waitC_btw, waitC_btw, strip_btw (strip_bare ds)]
theorem waitW_twice (dss : List (List Dd)) : waitW (waitW dss) = waitW dss := by
  simp only [waitW, List.map_map]
  congr 1
  funext ds
  exact waitC_twice ds
def evS (ds : List Dd) : Int := (ds.map evD).sum
theorem evK_take (ds : List Dd) : ∀ k : Nat, k ≤ ds.length → evK ds k = evS (ds.take k)
  | 0, _ => by simp [evK, evS]
  | k + 1, h => by
    rw [evK, evK_take ds k (by omega), take_moreW ds k zD (by omega)]
    simp [evS]
theorem evK_sum (ds : List Dd) : evK ds ds.length = evS ds := by rw [evK_take ds _ (Nat.le_refl _), List.take_length]
theorem evD_bare (d : Dd) : evD (bareD d) = evD d := rfl
theorem evS_strip : ∀ l : List Dd, evS (strip l) = evS l
  | [] => rfl
  | d :: r => by
    have ih := evS_strip r
    rw [strip]
    split
    · rename_i h
      rw [ih]
      simp [evS, evD, h]
    · simp only [evS, List.map_cons, List.sum_cons, evD_bare] at ih ⊢
      rw [ih]
theorem evS_btw : ∀ l : List Dd, evS (btw l) = evS l
  | [] => rfl
  | [d] => rfl
  | d :: e :: r => by
    have ih := evS_btw (e :: r)
    rw [btw_cons d (by simp)]
    simp only [evS, List.map_cons, List.sum_cons] at ih ⊢
    rw [ih]
    simp [evD, waitD]
theorem evS_wait (ds : List Dd) : evS (waitC ds) = evS ds := by rw [waitC_btw, evS_btw, evS_strip]
theorem evW_map (dss : List (List Dd)) (f : List Dd → List Dd) (hf : ∀ ds, evS (f ds) = evS ds) (h0 : f [] = []) : ∀ i : Nat, evW (dss.map f) i = evW dss i
  | 0 => rfl
  | i + 1 => by
    have e1 : (dss.map f).getD i [] = f (dss.getD i []) := by
      rw [List.getD_eq_getElem?_getD, List.getElem?_map, List.getD_eq_getElem?_getD]
      cases dss[i]? with
      | none => exact h0.symm
      | some x => rfl
    rw [evW, evW, evW_map dss f hf h0 i, e1, evK_sum, evK_sum, hf]
/-- A waited work has as many events. -/
theorem evW_wait (dss : List (List Dd)) : evW (waitW dss) (waitW dss).length = evW dss dss.length := by
  rw [waitW, List.length_map, evW_map dss waitC evS_wait rfl]
theorem waitK_pre (ds : List Dd) (k : Nat) : ∀ n : Nat, k ≤ n → ∃ t, waitK ds n = waitK ds k ++ t
  | 0, h => by
    obtain rfl : k = 0 := by omega
    exact ⟨[], by simp⟩
  | n + 1, h => by
    by_cases e : k = n + 1
    · subst e; exact ⟨[], by simp⟩
    · obtain ⟨t, ht⟩ := waitK_pre ds k n (by omega)
      rw [waitK]
      split
      · exact ⟨t, ht⟩
      · split
        · rename_i h0
          rw [h0] at ht
          have h1 : waitK ds k = [] := by
            cases hw : waitK ds k with
            | nil => rfl
            | cons a b => rw [hw] at ht; cases ht
          rw [h1]
          exact ⟨_, rfl⟩
        · rw [ht]
          exact ⟨t ++ [waitD] ++ [bareD (ds.getD n zD)], by simp⟩
theorem waitK_len (ds : List Dd) : ∀ k : Nat, (waitK ds k).length ≤ 2 * k
  | 0 => by simp [waitK]
  | k + 1 => by
    have ih := waitK_len ds k
    rw [waitK]
    split
    · omega
    · split
      · simp; omega
      · simp; omega
end Go.Proofs.YtkbkdlaknmgjpaaGreat

/- What the law on kept lines asks: they are of those behind, which do not go round and go on by themselves; of a waited work all are kept. -/
namespace Go.Proofs.YtkbkdlaknmgjpaaGreat
open Go.RowKit

theorem kep_in {dss : List (List Dd)} {es : List Ev} (h : es.length ≤ 12) : inL (kepL dss es) (behL es) = true := by
  have h1 := beh_line h
  have h2 := kep_line (dss := dss) h
  refine inL_web h2.1 h1.1 (fun i j hi hj hl => ?_)
  rw [h2.2 i j hi] at hl
  rw [h1.2 i j hi]
  simp only [Bool.and_eq_true] at hl ⊢
  exact hl.1
theorem plc_in {es : List Ev} (h : es.length ≤ 12) : inL (plcL es) (behL es) = true := by
  have h1 := beh_line h
  have h2 := plc_line h
  refine inL_web h2.1 h1.1 (fun i j hi hj hl => ?_)
  rw [h2.2 i j hi] at hl
  rw [h1.2 i j hi]
  simp only [Bool.and_eq_true] at hl ⊢
  exact hl.1
theorem behP_lt {es : List Ev} {i j : Nat} (h : behP es i j = true) : i < j := by
  apply Classical.byContradiction
  intro hn
  rw [behP_up (by omega)] at h
  cases h
theorem behP_trans {es : List Ev} {i k j : Nat} (h1 : behP es i k = true) (h2 : behP es k j = true) : behP es i j = true := by
  have a := behP_lt h1
  have b := behP_lt h2
  unfold behP at h1 h2 ⊢
  simp only [Bool.and_eq_true, Bool.or_eq_true, decide_eq_true_eq, beq_iff_eq] at h1 h2 ⊢
  refine ⟨by omega, ?_⟩
  rcases h1.2 with ⟨h3, h4⟩ | ⟨h3, h4⟩
  · exact .inl ⟨h3, by omega⟩
  · rcases h2.2 with ⟨h5, h6⟩ | ⟨h5, h6⟩
    · omega
    · exact .inr ⟨h3, h4.trans h6⟩
theorem beh_on {es : List Ev} (h : es.length ≤ 12) : inL (thenL (behL es) (behL es)) (behL es) = true := by
  have h1 := beh_line h
  have h2 := web_then h1.1 h1.1
  refine inL_web h2.1 h1.1 (fun i j hi hj hl => ?_)
  obtain ⟨k, hk, a, b⟩ := (h2.2 i j hi).1 hl
  rw [h1.2 i k hi] at a
  rw [h1.2 k j hk] at b
  rw [h1.2 i j hi]
  simp only [Bool.and_eq_true, decide_eq_true_eq] at a b ⊢
  exact ⟨hj, behP_trans a.2 b.2⟩
theorem beh_way {es : List Ev} (h : es.length ≤ 12) {i j : Nat} (hi : i < es.length) (hw : Way (behL es) i j) : i < j := by
  have h1 := beh_line h
  have step : ∀ a b, a < es.length → line (behL es) a b = true → a < b := fun a b ha hl => by
    rw [h1.2 a b ha] at hl
    simp only [Bool.and_eq_true] at hl
    exact behP_lt hl.2
  induction hw with
  | one h2 => exact step _ _ hi h2
  | more h2 g ih =>
    have a := ih
    have b := step _ _ (h2.lt h1.1 hi) g
    omega
theorem beh_round {es : List Ev} (h : es.length ≤ 12) : roundB (behL es) = false := by
  cases hr : roundB (behL es) with
  | false => rfl
  | true =>
    obtain ⟨i, hi, hw⟩ := (round_iff (beh_line h).1).1 hr
    have := beh_way h hi hw
    omega
theorem btw_odd : ∀ (l : List Dd) (m : Nat), 2 * m + 1 < (btw l).length → (btw l).getD (2 * m + 1) zD = waitD
  | [], m, h => by simp [btw] at h
  | [d], m, h => by simp [btw] at h
  | d :: e :: r, 0, h => by rw [btw_cons d (by simp)]; rfl
  | d :: e :: r, m + 1, h => by
    rw [btw_cons d (by simp)] at h ⊢
    have ih := btw_odd (e :: r) m (by simp at h; omega)
    rw [show 2 * (m + 1) + 1 = (2 * m + 1) + 1 + 1 by omega, List.getD_cons_succ, List.getD_cons_succ]
    exact ih
/-- In a list that is waited a wait stands between each two other deeds. -/
theorem wait_between {ds : List Dd} {lo hi : Nat} (h : lo < hi) (hh : hi < (waitC ds).length) (h1 : ((waitC ds).getD lo zD).1 ≠ 4) (h2 : ((waitC ds).getD hi zD).1 ≠ 4) : waitsD (waitC ds) lo hi = true := by
  rw [waitC_btw] at hh h1 h2 ⊢
  have even : ∀ q, q < (btw (strip ds)).length → ((btw (strip ds)).getD q zD).1 ≠ 4 → q % 2 = 0 := by
    intro q hq hn
    apply Classical.byContradiction
    intro ho
    have e : q = 2 * (q / 2) + 1 := by omega
    rw [e] at hq hn
    rw [btw_odd _ _ hq] at hn
    exact hn rfl
  have a := even lo (by omega) h1
  have b := even hi hh h2
  have e : lo + 1 = 2 * (lo / 2) + 1 := by omega
  refine waitsD_yes (j := lo + 1) (by omega) (by omega) ?_
  rw [e, btw_odd _ _ (by omega)]
  rfl
/-- Of a waited work all lines behind are kept. -/
theorem kept_waited {dss : List (List Dd)} (hw : workB (waitW dss) = true) : kepL (waitW dss) (eventsB (waitW dss)) = behL (eventsB (waitW dss)) := by
  obtain ⟨h12, _, _, _, hG⟩ := events_law hw
  have e1 : eventsB (waitW dss) = evsW (waitW dss) (waitW dss).length := by rw [eventsB, if_pos hw]
  rw [e1]
  obtain ⟨ho, _, hN⟩ := evs_ord (waitW dss) (waitW dss).length
  generalize evsW (waitW dss) (waitW dss).length = es at h12 hG ho hN
  have b1 := beh_line h12
  have k1 := kep_line (dss := waitW dss) h12
  refine Web.ext k1.1 b1.1 (fun i j hi hj => ?_)
  rw [k1.2 i j hi, b1.2 i j hi]
  suffices hs : behP es i j = true → kepP (waitW dss) es i j = false by
    cases hb : behP es i j with
    | false => simp
    | true => rw [hs hb]; simp
  intro hb
  cases hk : kepP (waitW dss) es i j with
  | false => rfl
  | true =>
    exfalso
    have hij := behP_lt hb
    unfold kepP kepQ at hk
    simp only [Bool.and_eq_true, decide_eq_true_eq, Bool.not_eq_true'] at hk
    obtain ⟨⟨h3, _⟩, ⟨⟨h4, h5⟩, _⟩, ⟨h6, h7⟩, h8⟩ := hk
    have hcl : (es.getD i zE).1 = (es.getD j zE).1 := by
      unfold behP at hb
      simp only [Bool.and_eq_true, Bool.or_eq_true, decide_eq_true_eq, beq_iff_eq] at hb
      rcases hb.2 with h | h
      · omega
      · exact h.2
    obtain ⟨ci, qi, _, _, _, ei, hci, hqi, _⟩ := hG i h3 hi
    obtain ⟨cj, qj, _, _, _, ej, hcj, hqj, _⟩ := hG j (by omega) hj
    have xi : es[i]? = some (es.getD i zE) := by rw [List.getD_eq_getElem?_getD, List.getElem?_eq_getElem hi]; rfl
    have xj : es[j]? = some (es.getD j zE) := by rw [List.getD_eq_getElem?_getD, List.getElem?_eq_getElem hj]; rfl
    have mi : es.getD i zE ∈ es := List.mem_of_getElem? xi
    have mj : es.getD j zE ∈ es := List.mem_of_getElem? xj
    have hord : OrdE (waitW dss) (es.getD i zE) (es.getD j zE) := by
      have := List.pairwise_iff_getElem.1 ho i j hi hj hij
      rw [List.getElem?_eq_getElem hi] at xi
      rw [List.getElem?_eq_getElem hj] at xj
      rw [Option.some.inj xi, Option.some.inj xj] at this
      exact this
    have gi := Option.some.inj (xi.symm.trans ei)
    have gj := Option.some.inj (xj.symm.trans ej)
    have hni := hN _ mi
    have hnj := hN _ mj
    clear hN ho hG xi xj mi mj ei ej
    generalize es.getD i zE = a at gi h4 h6 h7 hcl hord hni
    generalize es.getD j zE = b at gj h5 h6 h8 hcl hord hnj
    subst gi gj
    simp only at hcl
    have hcc : ci = cj := by omega
    subst hcc
    have hord := hord rfl (by simp only; omega)
    unfold dOf at hord h7 h8 hni hnj
    simp only [Int.toNat_natCast] at hord h6 h7 h8 hni hnj
    have hni := hni (by omega)
    have hnj := hnj (by omega)
    have hk3 : (((waitW dss).getD ci []).getD qi zD).1 ≠ 3 := fun e => by unfold wholeD at h7; rw [e] at h7; simp at h7
    have hq : qi < qj := by
      rcases hord with h | h
      · omega
      · exact absurd h.2 hk3
    have hg : (waitW dss).getD ci [] = waitC (dss.getD ci []) := by
      have hl : ci < dss.length := by simpa [waitW] using hci
      rw [waitW, List.getD_eq_getElem?_getD, List.getElem?_map, List.getD_eq_getElem?_getD, List.getElem?_eq_getElem hl]
      rfl
    rw [hg] at h6 hni hnj hqj
    rw [wait_between hq hqj hni hnj] at h6
    cases h6
theorem kept_waitB (dss : List (List Dd)) : kepL (waitB dss) (eventsB (waitB dss)) = behL (eventsB (waitB dss)) := by
  have e0 : kepL [] (eventsB []) = behL (eventsB []) := by
    have : workB [] = false := by decide
    rw [eventsB, this]
    rfl
  unfold waitB
  split
  · split
    · rename_i h
      exact kept_waited h
    · exact e0
  · exact e0
/-- What the law asks of two events of which one stands behind the other. -/
theorem kept_cell {dss : List (List Dd)} {es : List Ev} (h : es.length ≤ 12) {i j : Nat} (hi : i < es.length) (hj : j < es.length) (hB : inSetB ((behL es).getD i 0) j = true) :
    (inSetB ((kepL dss es).getD i 0) j = true ∨ (inSetB ((kepL dss es).getD i 0) j = false ∧ 3 ≤ i ∧ (es.getD i zE).2.2.1 = false ∧ (es.getD j zE).2.2.1 = true)) ∧
    inSetB ((plcL es).getD i 0) j = ((es.getD i zE).2.2.2.1 == (es.getD j zE).2.2.2.1) := by
  have b1 := (beh_line h).2 i j hi
  have k1 := (kep_line (dss := dss) h).2 i j hi
  have p1 := (plc_line h).2 i j hi
  unfold line at b1 k1 p1
  rw [hB] at b1
  have hd : decide (j < es.length) = true := decide_eq_true hj
  rw [hd, Bool.true_and] at b1 k1 p1
  rw [← b1, Bool.true_and] at k1 p1
  refine ⟨?_, ?_⟩
  · cases hk : kepP dss es i j with
    | false => rw [hk] at k1; exact .inl k1
    | true =>
      rw [hk] at k1
      refine .inr ⟨k1, ?_⟩
      unfold kepP kepQ rdE at hk
      simp only [Bool.and_eq_true, decide_eq_true_eq, Bool.not_eq_true'] at hk
      exact ⟨hk.1.1, hk.2.1.1.1, hk.2.1.1.2⟩
  · rw [p1]
    unfold plcP
    rw [bne, Bool.not_not]
end Go.Proofs.YtkbkdlaknmgjpaaGreat

/- Plain mathematics of the webs of a tale: each place by itself, slow ink, quick ink; where none of them goes round. -/
namespace Go.Proofs.YtkbkdlaknmgjpaaGreat
open Go.RowKit

/-- Where each line goes up in some measure, none goes round. -/
theorem up_way {n : Nat} {zs : List Int} (hz : Web n zs) (μ : Nat → Nat) (h : ∀ i j, i < n → j < n → line zs i j = true → μ i < μ j) {i j : Nat} (hi : i < n) (hw : Way zs i j) : μ i < μ j := by
  induction hw with
  | one g => exact h _ _ hi (hz.lt hi g) g
  | more g l ih => exact Nat.lt_trans ih (h _ _ (g.lt hz hi) (hz.lt (g.lt hz hi) l) l)
theorem up_round {n : Nat} {zs : List Int} (hz : Web n zs) (μ : Nat → Nat) (h : ∀ i j, i < n → j < n → line zs i j = true → μ i < μ j) : roundB zs = false := by
  cases hr : roundB zs with
  | false => rfl
  | true =>
    obtain ⟨i, hi, hw⟩ := (round_iff hz).1 hr
    exact absurd (up_way hz μ h hi hw) (Nat.lt_irrefl _)
theorem up_lift {n : Nat} {zs cl : List Int} (hz : Web n zs) (hc : cl.length = n) (τ : Nat → Nat) (h1 : ∀ i j, i < n → j < n → cl.getD i 0 = cl.getD j 0 → τ i = τ j)
    (h2 : ∀ i j, i < n → j < n → line zs i j = true → cl.getD i 0 ≠ cl.getD j 0 → τ i < τ j) : roundB (liftL zs cl) = false := by
  obtain ⟨w1, _, w3⟩ := web_lift hz hc
  refine up_round w1 τ (fun i j hi hj hl => ?_)
  obtain ⟨_, hne, a, b, ha, hb, ea, eb, hab⟩ := (w3 i j hi).1 hl
  have := h2 a b ha hb hab (by rw [ea, eb]; exact fun e => hne e.symm)
  rw [h1 a i ha hi ea, h1 b j hb hj eb] at this
  exact this
/-- A web with fewer lines goes round no sooner. -/
theorem less_way {n : Nat} {a b : List Int} (ha : Web n a) (h : ∀ i j, i < n → j < n → line a i j = true → line b i j = true) {i j : Nat} (hi : i < n) (hw : Way a i j) : Way b i j := by
  induction hw with
  | one g => exact .one (h _ _ hi (ha.lt hi g) g)
  | more g l ih => exact .more ih (h _ _ (g.lt ha hi) (ha.lt (g.lt ha hi) l) l)
theorem less_round {n : Nat} {a b : List Int} (ha : Web n a) (hb : Web n b) (h : ∀ i j, i < n → j < n → line a i j = true → line b i j = true) (hr : roundB b = false) : roundB a = false := by
  cases hq : roundB a with
  | false => rfl
  | true =>
    obtain ⟨i, hi, hw⟩ := (round_iff ha).1 hq
    rw [(round_iff hb).2 ⟨i, hi, less_way ha h hi hw⟩] at hr
    cases hr
theorem less_lift {n : Nat} {a b cl : List Int} (ha : Web n a) (hb : Web n b) (hc : cl.length = n) (h : ∀ i j, i < n → j < n → line a i j = true → line b i j = true) (hr : roundB (liftL b cl) = false) : roundB (liftL a cl) = false := by
  obtain ⟨wa, _, la⟩ := web_lift ha hc
  obtain ⟨wb, _, lb⟩ := web_lift hb hc
  refine less_round wa wb (fun i j hi hj hl => ?_) hr
  obtain ⟨h1, h2, x, y, hx, hy, ex, ey, hxy⟩ := (la i j hi).1 hl
  exact (lb i j hi).2 ⟨h1, h2, x, y, hx, hy, ex, ey, h x y hx hy hxy⟩

/-- The webs of chapters 11 to 13, in the specification's order. -/
def pwL (es : List Ev) (f rows : List Int) : List Int := mixL orI (mixL orI (plcL es) (fwL es f)) (mixL orI (rwL es rows) (agL es f rows))
def owP (es : List Ev) (i k : Nat) : Bool := decide (3 ≤ i) && decide (3 ≤ k) && ((es.getD i zE).1 == (es.getD k zE).1)
def owL (es : List Ev) (f : List Int) : List Int := offAll (owP es) es.length (fwL es f) es.length
def swL (dss : List (List Dd)) (es : List Ev) (f rows : List Int) : List Int := mixL orI (mixL orI (kepL dss es) (owL es f)) (mixL orI (rwL es rows) (agL es f rows))
def xwL (es : List Ev) (f rows : List Int) : List Int := mixL orI (mixL orI (behL es) (fwL es f)) (mixL orI (rwL es rows) (agL es f rows))
def pwB (dss : List (List Dd)) (f rows : List Int) : List Int := if taleB dss f rows = true then pwL (eventsB dss) f rows else []
def owB (dss : List (List Dd)) (f : List Int) : List Int := if sourceB dss f = true then owL (eventsB dss) f else []
def swB (dss : List (List Dd)) (f rows : List Int) : List Int := if taleB dss f rows = true then swL dss (eventsB dss) f rows else []
def xwB (dss : List (List Dd)) (f rows : List Int) : List Int := if taleB dss f rows = true then xwL (eventsB dss) f rows else []
def eachB (dss : List (List Dd)) (f rows : List Int) : Bool := taleB dss f rows && !roundB (pwL (eventsB dss) f rows)
def slowB (dss : List (List Dd)) (f rows : List Int) : Bool := taleB dss f rows && (!roundB (pwL (eventsB dss) f rows) && !roundB (liftL (swL dss (eventsB dss) f rows) (clsB (eventsB dss))))
def strictB (dss : List (List Dd)) (f rows : List Int) : Bool := taleB dss f rows && (!roundB (pwL (eventsB dss) f rows) && !roundB (liftL (xwL (eventsB dss) f rows) (clsB (eventsB dss))))

/-- The number of the read that stands i-th. -/
theorem rd_in {es : List Ev} (hx : es.length ≤ 12) {i : Nat} (hi : i < (idxB rdE es).length) : 0 ≤ (idxB rdE es).getD i 0 ∧ (idxB rdE es).getD i 0 < (es.length : Int) := idxB_range hx hi
theorem rd_is {es : List Ev} (hx : es.length ≤ 12) {i : Nat} (hi : i < (idxB rdE es).length) : (es.getD ((idxB rdE es).getD i 0).toNat zE).2.2.1 = true := by
  have hm : (idxB rdE es).getD i 0 ∈ idxB rdE es := getD_mem hi
  unfold idxB at hm ⊢
  rw [if_pos hx] at hm ⊢
  exact idxK_mem rdE es _ _ hm
theorem rd_nodup {es : List Ev} (hx : es.length ≤ 12) : (idxB rdE es).Nodup := by
  unfold idxB
  rw [if_pos hx]
  exact rises_nodup _ (idxK_rises rdE es _)
theorem fr_is {es : List Ev} {f : List Int} (hx : es.length ≤ 12) (h : srcB (chcL es) f = true) {i : Nat} (hi : i < (idxB rdE es).length) : (es.getD (f.getD i 0).toNat zE).2.2.1 = false := by
  unfold srcB at h
  rw [Bool.and_eq_true, decide_eq_true_eq] at h
  obtain ⟨h1, h2⟩ := h
  have hc : (chcL es).length = (idxB rdE es).length := chcK_len _ _ _
  have h3 := (srcK_iff (chcL es).length).1 h2 i (by omega)
  unfold chcL at h3
  rw [chcK_get _ _ _ _ hi] at h3
  have h4 := isB_mem h3
  unfold idxB at h4
  rw [if_pos hx] at h4
  have h6 := idxK_mem _ _ _ _ h4
  unfold toE at h6
  simp only [Bool.and_eq_true, Bool.not_eq_true'] at h6
  exact h6.1
structure Webs (es : List Ev) (f rows : List Int) : Prop where
  fw : Web es.length (fwL es f)
  rw' : Web es.length (rwL es rows)
  ag : Web es.length (agL es f rows)
  fwl : ∀ a j : Nat, a < es.length → (line (fwL es f) a j = true ↔ ∃ i, i < (idxB rdE es).length ∧ f.getD i 0 = (a : Int) ∧ (idxB rdE es).getD i 0 = (j : Int))
  rwl : ∀ a b : Nat, a < es.length → (line (rwL es rows) a b = true ↔ ∃ i q, i < rows.length ∧ q < rows.length ∧ rwP es rows i q = true ∧ rows.getD i 0 = (a : Int) ∧ rows.getD q 0 = (b : Int))
  agl : ∀ a j : Nat, a < es.length → (line (agL es f rows) a j = true ↔ ∃ i, i < (idxB rdE es).length ∧ (idxB rdE es).getD i 0 = (a : Int) ∧ line (rwL es rows) (f.getD i 0).toNat j = true)
theorem webs_of {es : List Ev} {f rows : List Int} (hx : es.length ≤ 12) (hs : srcB (chcL es) f = true) (hr : rowsL es rows = true) : Webs es f rows := by
  obtain ⟨sl, su⟩ := src_use hx hs
  obtain ⟨rn, _, ru⟩ := rows_use hx hr
  have w1 := web_rwAll hx ru rows.length (Nat.le_refl _)
  have w2 := fw_line (n := es.length) (rs := idxB rdE es) (f := f) hx (idxB rdE es).length (fun i hi => rd_in hx hi) (fun i hi => (su i hi).1)
  have w3 := web_ag (n := es.length) (rs := idxB rdE es) (f := f) (row := rwL es rows) hx (rd_nodup hx) w1.1 (idxB rdE es).length (Nat.le_refl _) (fun i hi => rd_in hx hi) (fun i hi => (su i hi).1)
  exact ⟨w2.1, w1.1, w3.1, w2.2, w1.2, w3.2⟩
theorem web_four {n : Nat} {a b c d : List Int} (ha : Web n a) (hb : Web n b) (hc : Web n c) (hd : Web n d) : Web n (mixL orI (mixL orI a b) (mixL orI c d)) ∧
    ∀ i j, i < n → line (mixL orI (mixL orI a b) (mixL orI c d)) i j = (line a i j || line b i j || (line c i j || line d i j)) := by
  obtain ⟨h1, l1⟩ := web_join ha hb
  obtain ⟨h2, l2⟩ := web_join hc hd
  obtain ⟨h3, l3⟩ := web_join h1 h2
  exact ⟨h3, fun i j hi => by rw [l3 i j hi, l1 i j hi, l2 i j hi]⟩
theorem ow_line {es : List Ev} {f rows : List Int} (W : Webs es f rows) : Web es.length (owL es f) ∧ ∀ a j : Nat, a < es.length → line (owL es f) a j = (line (fwL es f) a j && !owP es a j) := by
  obtain ⟨h1, h2⟩ := web_offAll (p := owP es) W.fw es.length (Nat.le_refl _)
  refine ⟨h1, fun a j ha => ?_⟩
  unfold owL
  rw [h2 a j ha]
  cases hl : line (fwL es f) a j with
  | false => rfl
  | true =>
    have hj := W.fw.lt ha hl
    simp [ha, hj]
end Go.Proofs.YtkbkdlaknmgjpaaGreat

/- Plain mathematics: the webs of a tale joined one after the other, as the program joins them. -/
namespace Go.Proofs.YtkbkdlaknmgjpaaGreat
open Go.RowKit

theorem mix_none (f : Int → Int → Int) (a : List Int) : mixL f a [] = [] := by
  unfold mixL
  split <;> simp
/-- Four webs, each joined to all ahead of it. -/
def chnL (a b c d : List Int) : List Int := mixL orI (mixL orI (mixL orI a b) c) d
theorem web_chn {n : Nat} {a b c d : List Int} (ha : Web n a) (hb : Web n b) (hc : Web n c) (hd : Web n d) : chnL a b c d = mixL orI (mixL orI a b) (mixL orI c d) := by
  obtain ⟨h1, l1⟩ := web_join ha hb
  obtain ⟨h2, l2⟩ := web_join h1 hc
  obtain ⟨h3, l3⟩ := web_join h2 hd
  obtain ⟨h4, l4⟩ := web_four ha hb hc hd
  refine Web.ext h3 h4 (fun i j hi _ => ?_)
  unfold chnL
  rw [l4 i j hi, l3 i j hi, l2 i j hi, l1 i j hi, Bool.or_assoc]
theorem pw_chain (dss : List (List Dd)) (f rows : List Int) : chnL (plcL (eventsB dss)) (fwB dss f) (rwB dss rows) (agB dss f rows) = pwB dss f rows := by
  cases hb : taleB dss f rows with
  | false =>
    rw [pwB, agB, hb]
    exact mix_none _ _
  | true =>
    obtain ⟨hw, hs, hr⟩ := tale_use hb
    have h12 := (events_law hw).1
    have e1 : eventsB dss = evsW dss dss.length := by rw [eventsB, if_pos hw]
    rw [← e1] at h12
    have W := webs_of h12 hs hr
    have hb2 := hb
    unfold taleB at hb2
    rw [Bool.and_eq_true] at hb2
    rw [pwB, agB, if_pos hb, if_pos hb, fwB, if_pos hb2.1, rwB, if_pos hb2.2]
    exact web_chn (plc_line h12).1 W.fw W.rw' W.ag
end Go.Proofs.YtkbkdlaknmgjpaaGreat

/- Plain facts on the list that the program mixes of two webs, place by place. -/
namespace Go.Proofs.YtkbkdlaknmgjpaaGreat
open Go.ChangeShapes Go.WideShapes Go.ChangeAt Go.RowKit

/-- The first k are mixed. -/
def mixK (f : Int → Int → Int) (a b : List Int) (k : Nat) : List Int := (List.zipWith f a b).take k ++ a.drop k
theorem mixK_len (f : Int → Int → Int) {a b : List Int} (h : a.length = b.length) (k : Nat) : (mixK f a b k).length = a.length := by
  unfold mixK
  rw [List.length_append, List.length_take, List.length_zipWith, List.length_drop]
  omega
theorem mixK_get (f : Int → Int → Int) {a b : List Int} (h : a.length = b.length) {k : Nat} (hk : k < a.length) : (mixK f a b k).getD k 0 = a.getD k 0 := by
  unfold mixK
  have hl : ((List.zipWith f a b).take k).length = k := by rw [List.length_take, List.length_zipWith]; omega
  rw [List.getD_eq_getElem?_getD, List.getElem?_append_right (by omega), hl, Nat.sub_self, List.getElem?_drop, Nat.add_zero, List.getD_eq_getElem?_getD]
theorem mixK_set (f : Int → Int → Int) {a b : List Int} (h : a.length = b.length) {k : Nat} (hk : k < a.length) : (mixK f a b k).set k (f (a.getD k 0) (b.getD k 0)) = mixK f a b (k + 1) := by
  unfold mixK
  have hz : k < (List.zipWith f a b).length := by rw [List.length_zipWith]; omega
  have hl : ((List.zipWith f a b).take k).length = k := by rw [List.length_take]; omega
  rw [List.set_append_right _ _ (by omega), hl, Nat.sub_self, List.drop_eq_getElem_cons hk, List.set_cons_zero, List.take_succ_eq_append_getElem hz, List.append_assoc]
  congr 1
  rw [List.getElem_zipWith, List.getD_eq_getElem?_getD, List.getD_eq_getElem?_getD, List.getElem?_eq_getElem hk, List.getElem?_eq_getElem (show k < b.length by omega)]
  rfl
theorem mixK_end (f : Int → Int → Int) {a b : List Int} (h : a.length = b.length) : mixK f a b a.length = List.zipWith f a b := by
  unfold mixK
  rw [List.drop_length, List.append_nil, List.take_of_length_le (by rw [List.length_zipWith]; omega)]
end Go.Proofs.YtkbkdlaknmgjpaaGreat

/- Contracts of the small methods on the program's sets: each answers as a plain function says and turns nothing. -/
namespace Go.Proofs.YtkbkdlaknmgjpaaGreat
open Go.ChangeShapes Go.WideShapes Go.ChangeAt Go.RowKit

theorem inSize_any (x : Int) (w : World) :
    Calls Tryz.prog 114 #[.int .i64 x] w fun e w' => e = .returned (.bool (inB x 0 11)) ∧ w' = w := by
  go_enter Tryz.func114, Tryz.ntmps114
  go_wp2
  all_goals
    go_ret
    exact ⟨ret_bool (by rw [Bool.eq_iff_iff]; unfold inB; simp; omega), rfl⟩
theorem isOf_any (n s : Int) (w : World) :
    Calls Tryz.prog 113 #[.int .i64 s, .int .i64 n] w fun e w' => e = .returned (.bool (okB n s)) ∧ w' = w := by
  go_enter Tryz.func113, Tryz.ntmps113
  go_wp2
  · go_ret
    exact ⟨ret_bool (by rw [wrap64_pow n (by assumption) (by assumption), Bool.eq_iff_iff]; unfold okB; simp; omega), rfl⟩
  all_goals
    go_ret
    exact ⟨ret_bool (by rw [Bool.eq_iff_iff]; unfold okB; simp; omega), rfl⟩
theorem has_any (s i : Int) (w : World) :
    Calls Tryz.prog 60 #[.int .i64 s, .int .i64 i] w fun e w' => e = .returned (.bool (inSetB s i)) ∧ w' = w := by
  have key : okB 12 s = inB s 0 4095 := by rw [Bool.eq_iff_iff]; unfold okB inB; simp; omega
  cases hs : inB s 0 4095
  · have hk : okB 12 s = false := key.trans hs
    clear key
    go_enter Tryz.func60, Tryz.ntmps60
    go_wp2_with (go_at_call 113; refine (isOf_any _ _ _).mono ?_; rintro e w' ⟨rfl, rfl⟩)
    go_ret
    exact ⟨ret_bool (by simp [inSetB, hs]), rfl⟩
  · have hk : okB 12 s = true := key.trans hs
    clear key
    cases hi : inB i 0 11
    · go_enter Tryz.func60, Tryz.ntmps60
      go_wp2_with (first | (go_at_call 113; refine (isOf_any _ _ _).mono ?_; rintro e w' ⟨rfl, rfl⟩) | (go_at_call 114; refine (inSize_any _ _).mono ?_; rintro e w' ⟨rfl, rfl⟩))
      go_ret
      exact ⟨ret_bool (by simp [inSetB, hi]), rfl⟩
    · have hi' := hi
      simp only [inB, decide_eq_true_eq] at hi'
      obtain ⟨i1, i2⟩ := hi'
      go_enter Tryz.func60, Tryz.ntmps60
      go_wp2_with (first | (go_at_call 113; refine (isOf_any _ _ _).mono ?_; rintro e w' ⟨rfl, rfl⟩) | (go_at_call 114; refine (inSize_any _ _).mono ?_; rintro e w' ⟨rfl, rfl⟩))
      go_ret
      exact ⟨ret_bool (by simp [inSetB, hs, hi, bitB]), rfl⟩
end Go.Proofs.YtkbkdlaknmgjpaaGreat

/- What the contracts of this seat say of memory: 'Keep': all that was there is there as it was; 'Rd': a list of numbers that can be read; 'Own': one in memory that the call itself made. -/
namespace Go.Proofs.YtkbkdlaknmgjpaaGreat
open Go.ChangeShapes Go.WideShapes Go.ChangeAt Go.RowKit

def Keep (w w' : World) : Prop := Below w.heap.size w w'
theorem Keep.refl (w : World) : Keep w w := Below.refl _ _
theorem Keep.size {w w' : World} (h : Keep w w') : w.heap.size ≤ w'.heap.size := Below.size h
theorem Keep.trans {a b c : World} (h : Keep a b) (k : Keep b c) : Keep a c := Below.trans h (Below.mono k h.size)
theorem Keep.drew {a w : World} (h : Keep a w) : Keep a w.drew := Below.drew h
theorem Keep.drewN {a w : World} (h : Keep a w) (n : Nat) : Keep a (w.drewN n) := below_drewN h n
theorem Keep.alloc {a w : World} (h : Keep a w) (o : Obj) : Keep a (w.alloc o) := Below.alloc h h.size o
theorem Keep.grown {a w w' : World} {row : Option Nat} (h : Keep a w) (hg : w.grownBy w' row) (hr : ∀ k, row = some k → a.heap.size ≤ k) : Keep a w' := Below.grown h hg h.size hr
theorem Keep.grownBy {w w' : World} (h : Keep w w') : w.grownBy w' none := ⟨Below.os h, Below.tape h, Below.output h, Below.size h, fun k hk _ => Below.block h k hk⟩
theorem Keep.cell {w w' : World} (h : Keep w w') {b o : Nat} (hb : b < w.heap.size) : w'.cell? ⟨b, o, none⟩ = w.cell? ⟨b, o, none⟩ := Below.cell h hb

theorem grown_trans {a b c : World} {row : Option Nat} (h : a.grownBy b row) (k : b.grownBy c row) : a.grownBy c row :=
  ⟨k.os.trans h.os, k.tape.trans h.tape, k.output.trans h.output, Nat.le_trans h.size k.size, fun i hi hne => (k.block i (Nat.lt_of_lt_of_le hi h.size) hne).trans (h.block i hi hne)⟩

def Rd (w : World) (v : Value) (zs : List Int) : Prop :=
  ∃ (a : Option Addr) (cap : Nat), v = .slice a zs.length cap ∧
    (zs = [] ∨ ∃ b off, a = some ⟨b, off, none⟩ ∧ b < w.heap.size ∧ ∀ i, i < zs.length → w.cell? ⟨b, off + i, none⟩ = some (.int .i64 (zs.getD i 0)))
theorem Rd.keep {w w' : World} {v : Value} {zs : List Int} (h : Rd w v zs) (k : Keep w w') : Rd w' v zs := by
  obtain ⟨a, cap, hv, h⟩ := h
  refine ⟨a, cap, hv, ?_⟩
  rcases h with h | ⟨b, off, ha, hb, hc⟩
  · exact .inl h
  · exact .inr ⟨b, off, ha, Nat.lt_of_lt_of_le hb k.size, fun i hi => (k.cell hb).trans (hc i hi)⟩

def Own (w : World) (base : Nat) (v : Value) (zs : List Int) : Prop := w.ownsRow base 2 1 v zs.length (zs.map (Value.int .i64))
theorem Own.kept {w w' : World} {base : Nat} {v : Value} {zs : List Int} {row : Option Nat} (h : Own w base v zs) (hg : w.grownBy w' row) (hne : v.ownBlock = none ∨ v.ownBlock ≠ row) : Own w' base v zs :=
  World.ownsRow.kept h hg hne
theorem Own.keep {w w' : World} {base : Nat} {v : Value} {zs : List Int} (h : Own w base v zs) (k : Keep w w') : Own w' base v zs :=
  Own.kept h k.grownBy (by cases v.ownBlock <;> simp)
theorem Own.rd {w : World} {base : Nat} {v : Value} {zs : List Int} (h : Own w base v zs) : Rd w v zs := by
  have hlt := World.ownsRow.lt h
  rcases h.2 with ⟨rfl, hn⟩ | ⟨g, cap, cur, rfl, hb, hg, rest⟩
  · have : zs = [] := List.eq_nil_of_length_eq_zero hn
    subst this
    exact ⟨none, 0, rfl, .inl rfl⟩
  · refine ⟨some ⟨g, 0, none⟩, cap, rfl, .inr ⟨g, 0, rfl, (hlt g rfl).2, fun i hi => ?_⟩⟩
    have hc := World.ownsRow.cellAt h i (by simpa using hi)
    rw [Nat.zero_add, hc, List.getElem?_map, List.getElem?_eq_getElem hi, List.getD_eq_getElem?_getD, List.getElem?_eq_getElem hi]
    rfl
theorem Own.base_le {w : World} {base base' : Nat} {v : Value} {zs : List Int} (h : Own w base v zs) (hb : base' ≤ base) : Own w base' v zs := by
  refine ⟨h.1, ?_⟩
  rcases h.2 with h | ⟨g, cap, cur, hv, hg, rest⟩
  · exact .inl h
  · exact .inr ⟨g, cap, cur, hv, Nat.le_trans hb hg, rest⟩
theorem Own.ge {w : World} {base : Nat} {v : Value} {zs : List Int} (h : Own w base v zs) : ∀ k, v.ownBlock = some k → base ≤ k := fun k hk => (World.ownsRow.lt h k hk).1
theorem Own.apart {w w' : World} {base : Nat} {v v' : Value} {zs zs' : List Int} (h : Own w base v zs) (h' : Own w' w.heap.size v' zs') : v.ownBlock = none ∨ v.ownBlock ≠ v'.ownBlock := by
  cases hv : v.ownBlock with
  | none => exact .inl rfl
  | some k =>
    refine .inr fun e => ?_
    have h1 := (World.ownsRow.lt h k hv).2
    have h2 := h'.ge k e.symm
    omega
/-- What the shell tells of a slice that came in, as a list that can be read. -/
theorem rd_of_row {w : World} {a : Option Addr} {len cap : Nat} {ys : List Int}
    (h : (a = none ∧ len = 0 ∧ cap = 0 ∧ ys = []) ∨ ∃ x, a = some x ∧ len ≤ cap ∧ cap ≤ maxLen ∧ ys.length = cap ∧ (∀ i, i < ys.length → w.cell? (x.add i) = some (.int .i64 (ys.getD i 0))) ∧ ∀ n ∈ ys, (Lit.int .i64 n).wf = true) :
    ∃ zs : List Int, zs.length = len ∧ Rd w (.slice a len cap) zs := by
  rcases h with ⟨rfl, rfl, rfl, rfl⟩ | ⟨x, rfl, hl, hm, hy, hc, _⟩
  · exact ⟨[], rfl, none, 0, rfl, .inl rfl⟩
  · have hzl : (ys.take len).length = len := by rw [List.length_take]; omega
    refine ⟨ys.take len, hzl, some x, cap, by rw [hzl], ?_⟩
    by_cases h0 : len = 0
    · left; subst h0; simp
    · right
      obtain ⟨b, off, spot⟩ := x
      have hc0 := hc 0 (by omega)
      have hspot : spot = none := by simpa [Addr.add] using World.cell?_spot hc0
      subst hspot
      have hcc : ∀ i, i < (ys.take len).length → w.cell? ⟨b, off + i, none⟩ = some (.int .i64 ((ys.take len).getD i 0)) := by
        intro i hi
        have h1 := hc i (by omega)
        have e1 : (⟨b, off, none⟩ : Addr).add i = ⟨b, off + i, none⟩ := by unfold Addr.add; split <;> simp_all
        rw [e1] at h1
        rw [h1, List.getD_eq_getElem?_getD, List.getD_eq_getElem?_getD, List.getElem?_take, if_pos (by omega)]
      refine ⟨b, off, rfl, ?_, hcc⟩
      have h2 := hcc 0 (by omega)
      apply Classical.byContradiction
      intro hnb
      have h3 : w.heap[b]? = none := by simp; omega
      simp [World.cell?, h3] at h2
theorem own_hit {w : World} {base : Nat} {v : Value} {zs : List Int} {x : Int} (h : w.ownsRow base 2 1 v (zs.length + 1) (zs.map (Value.int .i64) ++ [.int .i64 x])) : Own w base v (zs ++ [x]) := by
  unfold Own; simpa using h
theorem Tryz.infoI : (Tryz.prog.info? 2).map (fun i => (i.zero, i.size, i.bytes)) = some (some (.int .i64 0), 1, 8) := by kernel_rfl
end Go.Proofs.YtkbkdlaknmgjpaaGreat

/- Contracts of the program's size and test of a web. -/
namespace Go.Proofs.YtkbkdlaknmgjpaaGreat
open Go.ChangeShapes Go.WideShapes Go.ChangeAt Go.RowKit

theorem size_any (w : World) (a : Option Addr) (len cap : Nat) :
    Calls Tryz.prog 163 #[.slice a len cap] w fun e w' => e = .returned (.int .i64 len) ∧ w' = w := by
  go_enter Tryz.func163, Tryz.ntmps163
  go_wp2
  go_ret
  exact ⟨rfl, rfl⟩
set_option maxHeartbeats 400000 in
theorem webRight_any (w : World) (v : Value) (zs : List Int) (h : Rd w v zs) (hn : zs.length ≤ 1048576) :
    Calls Tryz.prog 128 #[v] w fun e w' => e = .returned (.bool (webB zs)) ∧ w' = w := by
  obtain ⟨a, c, rfl, h⟩ := h
  go_enter Tryz.func128, Tryz.ntmps128
  go_wp2
  go_loop [7] (fun i => ∃ k : Nat, k ≤ zs.length ∧ i = .int .i64 k ∧ ∀ j, j < k → okB zs.length (zs.getD j 0) = true) (fun i => zs.length - (intOf i).toNat)
  case atStart => exact ⟨0, Nat.zero_le _, rfl, fun j hj => by omega⟩
  case round =>
    obtain ⟨k, hk, rfl, hall⟩ := hrel
    have HA : Hid (∀ j, j < k → okB zs.length (zs.getD j 0) = true) := hall
    clear hall
    by_cases hlt : k < zs.length
    · rcases h with h | ⟨b, o, rfl, hb, hc⟩
      · exfalso; rw [h] at hlt; simp at hlt
      have d0 := hc k hlt
      obtain ⟨p, hp⟩ : ∃ p, p = zs.getD k 0 := ⟨_, rfl⟩
      have HP : Hid (p = zs.getD k 0) := hp
      rw [← hp] at d0
      clear hc hp
      cases hok : okB zs.length p
      · go_wp2_with (first | (go_at_call 163; refine (size_any _ _ _ _).mono ?_; rintro e w' ⟨rfl, rfl⟩) | (go_at_call 113; refine (isOf_any _ _ _).mono ?_; rintro e w' ⟨rfl, rfl⟩))
        go_ret
        exact ⟨ret_bool (webB_bad hlt (by rw [← HP.out]; exact hok)).symm, rfl⟩
      · go_wp2_with (first | (go_at_call 163; refine (size_any _ _ _ _).mono ?_; rintro e w' ⟨rfl, rfl⟩) | (go_at_call 113; refine (isOf_any _ _ _).mono ?_; rintro e w' ⟨rfl, rfl⟩))
        go_round
        case rel =>
          refine ⟨k + 1, by omega, by go_num, fun j hj => ?_⟩
          by_cases e : j = k
          · subst e; rw [← HP.out]; exact hok
          · exact HA.out j (by omega)
        case measure => simp [intOf]; omega
    · go_wp2
      go_ret
      exact ⟨ret_bool (webB_all fun i hi => HA.out i (by omega)).symm, rfl⟩
theorem implWebOk_any (w : World) (v : Value) (zs : List Int) (h : Rd w v zs) (hn : zs.length ≤ 1048576) :
    Calls Tryz.prog 77 #[v] w fun e w' => e = .returned (.bool (webB zs)) ∧ w' = w := by
  go_enter Tryz.func77, Tryz.ntmps77
  go_wp2_with (go_at_call 128; refine (webRight_any _ _ _ h hn).mono ?_; rintro e w' ⟨rfl, rfl⟩)
  go_ret
  exact ⟨rfl, rfl⟩
end Go.Proofs.YtkbkdlaknmgjpaaGreat

/- Contract of the program's test on two webs. -/
namespace Go.Proofs.YtkbkdlaknmgjpaaGreat
open Go.ChangeShapes Go.WideShapes Go.ChangeAt Go.RowKit

theorem areAlike_any (w : World) (v1 v2 : Value) (xs ys : List Int) (h1 : Rd w v1 xs) (h2 : Rd w v2 ys) (n1 : xs.length ≤ 1048576) (n2 : ys.length ≤ 1048576) :
    Calls Tryz.prog 130 #[v1, v2] w fun e w' => e = .returned (.bool (twoB xs ys)) ∧ w' = w := by
  have r1 := h1
  have r2 := h2
  obtain ⟨a1, c1, rfl, _⟩ := r1
  obtain ⟨a2, c2, rfl, _⟩ := r2
  by_cases hl : xs.length = ys.length
  · have hlb : ((xs.length : Int) == (ys.length : Int)) = true := by simp [hl]
    have HL : Hid (xs.length = ys.length) := hl
    clear hl
    cases ha : webB xs
    · go_enter Tryz.func130, Tryz.ntmps130
      go_wp2_with fail
      refine (webRight_any _ _ _ h1 n1).mono ?_
      rintro e w' ⟨rfl, rfl⟩
      go_wp2
      go_ret
      exact ⟨ret_bool (by simp [twoB, ha]), rfl⟩
    · go_enter Tryz.func130, Tryz.ntmps130
      go_wp2_with fail
      refine (webRight_any _ _ _ h1 n1).mono ?_
      rintro e w' ⟨rfl, rfl⟩
      go_wp2_with fail
      refine (webRight_any _ _ _ h2 n2).mono ?_
      rintro e w' ⟨rfl, rfl⟩
      go_wp2
      go_ret
      exact ⟨ret_bool (by simp [twoB, ha, HL.out]), rfl⟩
  · have hlb : ((xs.length : Int) == (ys.length : Int)) = false := by simp; omega
    have HL : Hid (¬ xs.length = ys.length) := hl
    clear hl
    go_enter Tryz.func130, Tryz.ntmps130
    go_wp2
    go_ret
    exact ⟨ret_bool (by simp [twoB, HL.out]), rfl⟩
end Go.Proofs.YtkbkdlaknmgjpaaGreat

/- A list of numbers that lies at the beginning of a block, whatever room stands behind it there: 'RowAt', 'Row'; what a store turns in it, and that it stays where others write. -/
namespace Go.Proofs.YtkbkdlaknmgjpaaGreat
open Go.ChangeShapes Go.WideShapes Go.ChangeAt Go.RowKit

/-- Block g begins with the numbers zs and may be written. -/
def RowAt (w : World) (g : Nat) (zs : List Int) : Prop :=
  ∃ (cur : Array Value) (e : TypeId), w.heap[g]? = some (.cells cur e (0, 0)) ∧ cur.toList.take zs.length = zs.map (Value.int .i64)
theorem RowAt.lt {w : World} {g : Nat} {zs : List Int} (h : RowAt w g zs) : g < w.heap.size := by
  obtain ⟨cur, e, hh, _⟩ := h
  exact (Array.getElem?_eq_some_iff.1 hh).1
theorem RowAt.cell {w : World} {g : Nat} {zs : List Int} (h : RowAt w g zs) {j : Nat} (hj : j < zs.length) : w.cell? ⟨g, j, none⟩ = some (.int .i64 (zs.getD j 0)) := by
  obtain ⟨cur, e, hh, ht⟩ := h
  rw [cell_of_row w g j cur e (0, 0) hh]
  have h1 : (cur.toList.take zs.length)[j]? = (zs.map (Value.int .i64))[j]? := by rw [ht]
  rw [List.getElem?_take, if_pos hj, List.getElem?_map, List.getElem?_eq_getElem hj] at h1
  rw [List.getD_eq_getElem?_getD, List.getElem?_eq_getElem hj]
  simpa using h1
theorem RowAt.free {w : World} {g : Nat} {zs : List Int} (h : RowAt w g zs) (j : Nat) : w.frozen? ⟨g, j, none⟩ = false := by
  obtain ⟨cur, e, hh, _⟩ := h
  exact frozen_of_row w g j _ _ hh
theorem RowAt.kept {w w' : World} {g : Nat} {zs : List Int} {row : Option Nat} (h : RowAt w g zs) (hg : w.grownBy w' row) (hne : row ≠ some g) : RowAt w' g zs := by
  have hlt := h.lt
  obtain ⟨cur, e, hh, ht⟩ := h
  exact ⟨cur, e, by rw [hg.block g hlt (fun e => hne e.symm)]; exact hh, ht⟩
theorem RowAt.keep {w w' : World} {g : Nat} {zs : List Int} (h : RowAt w g zs) (k : Keep w w') : RowAt w' g zs := h.kept k.grownBy (by simp)
theorem grown_set (w : World) (g j : Nat) (v : Value) : w.grownBy (w.setCell ⟨g, j, none⟩ v) (some g) :=
  ⟨rfl, rfl, rfl, by simp, fun k _ hk => heap_setCell_other w ⟨g, j, none⟩ k v (fun e => hk (by simp [e]))⟩
theorem grown_draw (w : World) (n : Nat) (row : Option Nat) : w.grownBy (w.drewN n) row := ⟨rfl, rfl, rfl, Nat.le_refl _, fun _ _ _ => rfl⟩
theorem grown_drew (w : World) (row : Option Nat) : w.grownBy w.drew row := ⟨rfl, rfl, rfl, Nat.le_refl _, fun _ _ _ => rfl⟩
theorem RowAt.drewN {w : World} {g : Nat} {zs : List Int} (h : RowAt w g zs) (n : Nat) : RowAt (w.drewN n) g zs := h.kept (row := none) (grown_draw w n none) (by simp)
theorem RowAt.drew {w : World} {g : Nat} {zs : List Int} (h : RowAt w g zs) : RowAt w.drew g zs := h.kept (row := none) (grown_drew w none) (by simp)
theorem take_set_val (l : List Value) (zs : List Int) (j : Nat) (x : Int) (h : l.take zs.length = zs.map (Value.int .i64)) :
    (l.set j (.int .i64 x)).take (zs.set j x).length = (zs.set j x).map (Value.int .i64) := by
  rw [List.length_set, List.take_set, h, List.map_set]
theorem RowAt.set {w : World} {g : Nat} {zs : List Int} (h : RowAt w g zs) (j : Nat) (x : Int) : RowAt (w.setCell ⟨g, j, none⟩ (.int .i64 x)) g (zs.set j x) := by
  obtain ⟨cur, e, hh, ht⟩ := h
  refine ⟨cur.setIfInBounds j (.int .i64 x), e, ?_, ?_⟩
  · rw [heap_setCell_same w g j _ _ _ hh]
  · rw [Array.toList_setIfInBounds]
    exact take_set_val _ zs j x ht

/-- A list in memory from block 'base' on. -/
def Row (w : World) (base : Nat) (v : Value) (zs : List Int) : Prop :=
  (v = .slice none 0 0 ∧ zs = []) ∨ ∃ g cap, v = .slice (some ⟨g, 0, none⟩) zs.length cap ∧ base ≤ g ∧ RowAt w g zs
theorem Own.row {w : World} {base : Nat} {v : Value} {zs : List Int} (h : Own w base v zs) : Row w base v zs := by
  rcases h.2 with ⟨rfl, hn⟩ | ⟨g, cap, cur, rfl, hb, hg, _, _, _, ht⟩
  · exact .inl ⟨rfl, List.eq_nil_of_length_eq_zero hn⟩
  · exact .inr ⟨g, cap, rfl, hb, cur, _, hg, by rw [Nat.mul_one] at ht; exact ht⟩
theorem Row.lt {w : World} {base : Nat} {v : Value} {zs : List Int} (h : Row w base v zs) : ∀ k, v.ownBlock = some k → base ≤ k ∧ k < w.heap.size := by
  intro k hk
  rcases h with ⟨rfl, _⟩ | ⟨g, cap, rfl, hb, hr⟩
  · simp [Value.ownBlock] at hk
  · simp [Value.ownBlock] at hk; subst hk; exact ⟨hb, hr.lt⟩
theorem Row.ge {w : World} {base : Nat} {v : Value} {zs : List Int} (h : Row w base v zs) : ∀ k, v.ownBlock = some k → base ≤ k := fun k hk => (h.lt k hk).1
theorem Row.kept {w w' : World} {base : Nat} {v : Value} {zs : List Int} {row : Option Nat} (h : Row w base v zs) (hg : w.grownBy w' row) (hne : v.ownBlock = none ∨ v.ownBlock ≠ row) : Row w' base v zs := by
  rcases h with h | ⟨g, cap, rfl, hb, hr⟩
  · exact .inl h
  · refine .inr ⟨g, cap, rfl, hb, hr.kept hg ?_⟩
    simp [Value.ownBlock] at hne
    exact fun e => hne e.symm
theorem Row.keep {w w' : World} {base : Nat} {v : Value} {zs : List Int} (h : Row w base v zs) (k : Keep w w') : Row w' base v zs :=
  h.kept k.grownBy (by cases v.ownBlock <;> simp)
theorem Row.rd {w : World} {base : Nat} {v : Value} {zs : List Int} (h : Row w base v zs) : Rd w v zs := by
  rcases h with ⟨rfl, rfl⟩ | ⟨g, cap, rfl, hb, hr⟩
  · exact ⟨none, 0, rfl, .inl rfl⟩
  · exact ⟨some ⟨g, 0, none⟩, cap, rfl, .inr ⟨g, 0, rfl, hr.lt, fun i hi => by rw [Nat.zero_add]; exact hr.cell hi⟩⟩
theorem Row.base_le {w : World} {base base' : Nat} {v : Value} {zs : List Int} (h : Row w base v zs) (hb : base' ≤ base) : Row w base' v zs := by
  rcases h with h | ⟨g, cap, hv, hg, hr⟩
  · exact .inl h
  · exact .inr ⟨g, cap, hv, Nat.le_trans hb hg, hr⟩
/-- Of two rows the later one was made behind the first. -/
theorem Row.apart {w w' : World} {base : Nat} {v v' : Value} {zs zs' : List Int} (h : Row w base v zs) (h' : Row w' w.heap.size v' zs') : v.ownBlock = none ∨ v.ownBlock ≠ v'.ownBlock := by
  cases hv : v.ownBlock with
  | none => exact .inl rfl
  | some k =>
    refine .inr fun e => ?_
    have h1 := (h.lt k hv).2
    have h2 := h'.ge k e.symm
    omega
/-- A row that lies above is another one. -/
theorem Row.apart' {w w' : World} {base : Nat} {v v' : Value} {zs zs' : List Int} (h : Row w base v zs) (h' : Row w' w.heap.size v' zs') : v'.ownBlock = none ∨ v'.ownBlock ≠ v.ownBlock := by
  cases hv : v'.ownBlock with
  | none => exact .inl rfl
  | some k =>
    refine .inr fun e => ?_
    have h1 := (h.lt k e.symm).2
    have h2 := h'.ge k hv
    omega
theorem row_new {w : World} {g n cap base : Nat} {zs : List Int} (h : RowAt w g zs) (hb : base ≤ g) (hn : zs.length = n) : Row w base (.slice (some ⟨g, 0, none⟩) n cap) zs := by
  subst hn; exact .inr ⟨g, cap, rfl, hb, h⟩
/-- A literal without an element. -/
theorem row_empty (w : World) (e : TypeId) : Row (w.alloc (.cells #[] e)) w.heap.size (.slice (some ⟨w.heap.size, 0, none⟩) 0 0) [] :=
  .inr ⟨w.heap.size, 0, rfl, Nat.le_refl _, #[], e, heap_alloc_new w _, rfl⟩
end Go.Proofs.YtkbkdlaknmgjpaaGreat

/- Contract of the program's new web without a line. -/
namespace Go.Proofs.YtkbkdlaknmgjpaaGreat
open Go.ChangeShapes Go.WideShapes Go.ChangeAt Go.RowKit

theorem take_zeros (n : Nat) (h : n ≤ 12) : (List.replicate 12 (Value.int .i64 0)).take n = (List.replicate n (0 : Int)).map (Value.int .i64) := by
  rw [List.take_replicate, List.map_replicate, Nat.min_eq_left h]
set_option maxHeartbeats 400000 in
theorem blank_any (w : World) (n : Nat) (hn : n ≤ 12) :
    Calls Tryz.prog 51 #[.int .i64 n] w fun e w' => e = .returned (.slice (some ⟨w.heap.size, 0, none⟩) n n) ∧ RowAt w' w.heap.size (List.replicate n 0) ∧ Keep w w' := by
  have i1 : (0 : Int) ≤ (n : Int) := Int.natCast_nonneg _
  have i2 : (n : Int) ≤ 12 := by omega
  have i3 : (n : Int) ≤ (n : Int) := Int.le_refl _
  go_enter Tryz.func51, Tryz.ntmps51
  go_wp2
  go_ret
  refine ⟨?_, ⟨_, _, heap_alloc_new w _, ?_⟩, (Keep.refl w).alloc _⟩
  · rfl
  · rw [List.length_replicate]; exact take_zeros n hn
end Go.Proofs.YtkbkdlaknmgjpaaGreat

/- Contract of the program's copy of a web. -/
namespace Go.Proofs.YtkbkdlaknmgjpaaGreat
open Go.ChangeShapes Go.WideShapes Go.ChangeAt Go.RowKit

set_option maxHeartbeats 400000 in
theorem owned_any (w : World) (v : Value) (zs : List Int) (h : Rd w v zs) (hn : zs.length ≤ 12) :
    Calls Tryz.prog 127 #[v] w fun e w' => e = .returned (.slice (some ⟨w.heap.size, 0, none⟩) zs.length zs.length) ∧ RowAt w' w.heap.size zs ∧ Keep w w' := by
  obtain ⟨a, c, rfl, h⟩ := h
  go_enter Tryz.func127, Tryz.ntmps127
  go_wp2_with fail
  refine (blank_any _ _ hn).mono ?_
  rintro e w1 ⟨rfl, ⟨cur, t, hh, ht⟩, k1⟩
  have hl : zs.length ≤ cur.size := by
    have := congrArg List.length ht
    simp at this
    omega
  have hsz : (Tryz.prog.info? 2).map (·.size) = some 1 := by
    have := Tryz.infoI
    cases hi : Tryz.prog.info? 2 with
    | none => rw [hi] at this; cases this
    | some i => rw [hi] at this; simp at this ⊢; exact this.2.1
  have hg0 : w1.heap[w.heap.size]? = some (.cells cur.toList.toArray t (0, 0)) := by simpa using hh
  have hn0 : (zs.map (Value.int .i64)).length = Nat.min zs.length zs.length := by simp
  have hp0 : 0 < (zs.map (Value.int .i64)).length → ∃ ad, a = some ad ∧ ∀ j v, (zs.map (Value.int .i64))[j]? = some v → w1.cell? (ad.add j) = some v := by
    intro hpos
    rcases h with h | ⟨b, o, rfl, hb, hc⟩
    · rw [h] at hpos; simp at hpos
    · refine ⟨_, rfl, fun j u hj => ?_⟩
      rw [List.getElem?_map] at hj
      have hjl : j < zs.length := by
        apply Classical.byContradiction
        intro hno
        rw [List.getElem?_eq_none (by omega)] at hj
        cases hj
      have e1 : (⟨b, o, none⟩ : Addr).add j = ⟨b, o + j, none⟩ := by unfold Addr.add; split <;> simp_all
      rw [e1, k1.cell hb, hc j hjl, List.getD_eq_getElem?_getD]
      rw [List.getElem?_eq_getElem hjl] at hj ⊢
      simpa using hj
  have hf0 : 0 + (zs.map (Value.int .i64)).length ≤ cur.toList.length := by simp; omega
  have h10 : ∀ v ∈ zs.map (Value.int .i64), v.oneCell' = true := by
    intro u hu
    obtain ⟨x, _, rfl⟩ := List.mem_map.1 hu
    rfl
  clear h hh ht hl
  go_wp2_with (refine wpList_copy_splice rfl _ _ _ _ rfl 2 Tryz.underlying67 hsz _ _ _ _ _ _ rfl rfl w.heap.size 0 cur.toList t hg0 (zs.map (Value.int .i64)) hn0 (fun hp => ⟨rfl, hp0 hp⟩) hf0 h10 w.heap.size w k1 (Nat.le_refl _) ?_)
  intro w2 hh2 k2
  have HH := hh2.out
  clear hh2
  go_wp2
  go_ret
  refine ⟨rfl, ⟨_, t, HH, ?_⟩, k2⟩
  simp [splice]
end Go.Proofs.YtkbkdlaknmgjpaaGreat

/- Contract of the program's Joined. -/
namespace Go.Proofs.YtkbkdlaknmgjpaaGreat
open Go.ChangeShapes Go.WideShapes Go.ChangeAt Go.RowKit

theorem or_any (s t : Int) (w : World) :
    Calls Tryz.prog 97 #[.int .i64 s, .int .i64 t] w fun e w' => e = .returned (.int .i64 (orI s t)) ∧ w' = w := by
  go_enter Tryz.func97, Tryz.ntmps97
  go_wp2
  go_ret
  exact ⟨rfl, rfl⟩
set_option maxHeartbeats 1000000 in
theorem mixed_or (w : World) (v1 v2 : Value) (xs ys : List Int) (h1 : Rd w v1 xs) (h2 : Rd w v2 ys) (n1 : xs.length ≤ 1048576) (n2 : ys.length ≤ 1048576) :
    Calls Tryz.prog 96 #[v1, v2, .func (Fn.func 97) #[] #[]] w fun e w' => ∃ v', e = .returned v' ∧ Row w' w.heap.size v' (mixL orI xs ys) ∧ Keep w w' := by
  have r1 := h1
  have r2 := h2
  obtain ⟨a1, c1, rfl, _⟩ := r1
  obtain ⟨a2, c2, rfl, _⟩ := r2
  cases ht : twoB xs ys
  · go_enter Tryz.func96, Tryz.ntmps96
    go_wp2_with fail
    refine (areAlike_any _ _ _ _ _ h1 h2 n1 n2).mono ?_
    rintro e w' ⟨rfl, rfl⟩
    go_wp2
    go_ret
    exact ⟨_, rfl, by unfold mixL; rw [ht]; exact row_empty _ _, (Keep.refl _).alloc _⟩
  · obtain ⟨hl, wx, wy⟩ := twoB_iff.1 ht
    have hx12 := webB_len wx
    have hy12 := webB_len wy
    have HL : Hid (xs.length = ys.length) := hl
    have HM : Hid (mixL orI xs ys = List.zipWith orI xs ys) := by show mixL orI xs ys = _; unfold mixL; rw [ht]; rfl
    clear wx wy
    have hl1 : xs.length ≤ ys.length := by omega
    have hl2 : ys.length ≤ xs.length := by omega
    clear hl
    go_enter Tryz.func96, Tryz.ntmps96
    go_wp2_with fail
    refine (areAlike_any _ _ _ _ _ h1 h2 n1 n2).mono ?_
    rintro e w' ⟨rfl, rfl⟩
    go_wp2_with fail
    refine (owned_any _ _ _ h1 hx12).mono ?_
    rintro e w1 ⟨rfl, ro, k1⟩
    go_wp2_with fail
    obtain ⟨a, c, hv, h2⟩ := h2
    cases hv
    go_loopw [19] (fun i wr => ∃ k : Nat, k ≤ ys.length ∧ i = .int .i64 k ∧ RowAt wr w'.heap.size (mixK orI xs ys k) ∧ Keep w' wr) (fun i _ => ys.length - (intOf i).toNat)
    case atStart => exact ⟨0, Nat.zero_le _, rfl, ro, k1⟩
    case round =>
      obtain ⟨k, hk, rfl, hr, hK⟩ := hrel
      clear ro k1
      by_cases hlt : k < ys.length
      · rcases h2 with h | ⟨b, o, rfl, hb, hc⟩
        · exfalso; rw [h] at hlt; simp at hlt
        have hkx : k < xs.length := by omega
        have d0 := (hK.cell hb).trans (hc k hlt)
        have d1 := hr.cell (j := k) (by rw [mixK_len orI HL.out]; exact hkx)
        rw [mixK_get orI HL.out hkx] at d1
        have d2 := hr.free k
        have hs := hr.set k (orI (xs.getD k 0) (ys.getD k 0))
        rw [mixK_set orI HL.out hkx] at hs
        have hK2 : Keep w' (wr.setCell ⟨w'.heap.size, k, none⟩ (.int .i64 (orI (xs.getD k 0) (ys.getD k 0)))) := hK.grown (grown_set wr w'.heap.size k _) (by simp)
        generalize xs.getD k 0 = p at *
        generalize ys.getD k 0 = q at *
        clear hc
        go_wp2_with fail
        refine (or_any _ _ _).mono ?_
        rintro e w2 ⟨rfl, rfl⟩
        go_wp2
        go_roundw
        case rel => exact ⟨k + 1, by omega, by go_num, hs, hK2⟩
        case measure => simp [intOf]; omega
      · obtain rfl : k = ys.length := by omega
        go_wp2
        go_ret
        refine ⟨_, rfl, ?_, hK⟩
        rw [HM.out]
        rw [← HL.out, mixK_end orI HL.out] at hr
        exact row_new hr (Nat.le_refl _) (by rw [List.length_zipWith]; omega)
theorem implJoined_any (w : World) (v1 v2 : Value) (xs ys : List Int) (h1 : Rd w v1 xs) (h2 : Rd w v2 ys) (n1 : xs.length ≤ 1048576) (n2 : ys.length ≤ 1048576) :
    Calls Tryz.prog 45 #[v1, v2] w fun e w' => ∃ v', e = .returned v' ∧ Row w' w.heap.size v' (mixL orI xs ys) ∧ Keep w w' := by
  go_enter Tryz.func45, Tryz.ntmps45
  go_wp2_with fail
  refine (mixed_or _ _ _ _ _ h1 h2 n1 n2).mono ?_
  rintro e w2 ⟨v', rfl, o, k⟩
  go_wp2
  go_ret
  exact ⟨_, rfl, o, k⟩
end Go.Proofs.YtkbkdlaknmgjpaaGreat

/- Plain mathematics of lines as the program draws them: from all events ahead to one, those that pass the tests. Of a right work they are the specification's. -/
namespace Go.Proofs.YtkbkdlaknmgjpaaGreat
open Go.RowKit

def colIn (q : Nat → Nat → Bool) (j : Nat) (st : List Int) : Nat → List Int
  | 0 => st
  | i + 1 => if q i j = true then (colIn q j st i).set i (gAdd ((colIn q j st i).getD i 0) j) else colIn q j st i
def colAll (q : Nat → Nat → Bool) (n : Nat) : Nat → List Int
  | 0 => List.replicate n 0
  | j + 1 => colIn q j (colAll q n j) j
theorem colIn_hit {q : Nat → Nat → Bool} {j i : Nat} (st : List Int) (h : q i j = true) : colIn q j st (i + 1) = (colIn q j st i).set i (gAdd ((colIn q j st i).getD i 0) j) := if_pos h
theorem colIn_miss {q : Nat → Nat → Bool} {j i : Nat} (st : List Int) (h : q i j = false) : colIn q j st (i + 1) = colIn q j st i := if_neg (by simp [h])
theorem web_colIn {q : Nat → Nat → Bool} {n j : Nat} {st : List Int} (hj : j < n) (hst : Web n st) : ∀ m : Nat, m ≤ n →
    Web n (colIn q j st m) ∧ ∀ a b : Nat, a < n → line (colIn q j st m) a b = (line st a b || (decide (a < m) && decide (j = b) && q a j))
  | 0, _ => ⟨hst, fun a b _ => by simp [colIn]⟩
  | m + 1, hm => by
    have ih := web_colIn hj hst m (by omega) (q := q)
    cases hp : q m j with
    | false =>
      rw [colIn_miss st hp]
      refine ⟨ih.1, fun a b ha => ?_⟩
      rw [ih.2 a b ha]
      by_cases e : a = m
      · subst e; simp [hp]
      · have d : decide (a < m + 1) = decide (a < m) := decide_eq_decide.2 (by omega)
        rw [d]
    | true =>
      rw [colIn_hit st hp]
      have ha := ok_add (ih.1.2.2 m (by omega)) hj
      refine ⟨ih.1.set ha.1, fun a b haa => ?_⟩
      have e1 := ih.2 a b haa
      unfold line at e1 ⊢
      rw [getD_set _ _ _ _ (by rw [ih.1.2.1]; omega)]
      by_cases e : m = a
      · subst e
        simp only [if_true]
        rw [ha.2 b, e1]
        simp [hp]
      · simp only [e, if_false]
        rw [e1]
        have d : decide (a < m + 1) = decide (a < m) := decide_eq_decide.2 (by omega)
        rw [d]
theorem web_colAll {q : Nat → Nat → Bool} {n : Nat} (hn : n ≤ 12) : ∀ m : Nat, m ≤ n →
    Web n (colAll q n m) ∧ ∀ a b : Nat, a < n → line (colAll q n m) a b = (decide (b < m) && decide (a < b) && q a b)
  | 0, _ => ⟨Web.zero hn, fun a b _ => by unfold colAll; rw [line_zero]; simp⟩
  | m + 1, hm => by
    have ih := web_colAll hn m (by omega) (q := q)
    have h1 := web_colIn (q := q) (show m < n by omega) ih.1 m (by omega)
    refine ⟨h1.1, fun a b ha => ?_⟩
    show line (colIn q m (colAll q n m) m) a b = _
    rw [h1.2 a b ha, ih.2 a b ha]
    by_cases e : m = b
    · subst e; simp
    · have d : decide (b < m + 1) = decide (b < m) := decide_eq_decide.2 (by omega)
      rw [d]; simp [e]
/-- The program's tests of two events. -/
def isbE (a b : Ev) : Bool := (b.1 != -1) && ((a.1 == -1) || (a.1 == b.1))
def onpE (a b : Ev) : Bool := a.2.2.2.1 == b.2.2.2.1
def onceD (d : Dd) : Bool := (d.1 == 3) || (d.2.2.2 != 0)
def wtD : Dd := (4, 0, 0, 0)
def btwD (ds : List Dd) (lo hi : Nat) : Bool := (List.range (hi - lo)).any (fun i => ds.getD (lo + i) zD == wtD)
def keepE (dss : List (List Dd)) (a b : Ev) : Bool := (a.1 == -1) || a.2.2.1 || !b.2.2.1 || (onceD (dOf dss a) || onceD (dOf dss b) || btwD (dss.getD a.1.toNat []) a.2.1.toNat b.2.1.toNat)
theorem btwD_no {ds : List Dd} {lo hi : Nat} (h : ∀ i, i < hi - lo → ds.getD (lo + i) zD ≠ wtD) : btwD ds lo hi = false := by
  unfold btwD
  rw [List.any_eq_false]
  intro i hi'
  rw [List.mem_range] at hi'
  simpa using h i hi'
theorem btwD_yes {ds : List Dd} {lo hi i : Nat} (hi' : i < hi - lo) (h : ds.getD (lo + i) zD = wtD) : btwD ds lo hi = true := by
  unfold btwD
  rw [List.any_eq_true]
  exact ⟨i, List.mem_range.2 hi', by rw [h]; simp⟩
theorem once_whole {d : Dd} (h : okD d = true) : onceD d = wholeD d := by
  have := (okD_restE h).2.2.1
  unfold onceD wholeD
  by_cases e : d.2.2.2 = 0
  · rw [e]; rfl
  · have e2 : (d.2.2.2 != 0) = true := by simp [e]
    have e3 : decide (0 < d.2.2.2) = true := decide_eq_true (by omega)
    rw [e2, e3]
theorem okD_wait {d : Dd} (h : okD d = true) (h4 : d.1 = 4) : d = wtD := by
  obtain ⟨k, p, v, g⟩ := d
  simp only at h4
  subst h4
  simp [okD, deedB] at h
  unfold wtD
  rw [Prod.mk.injEq, Prod.mk.injEq, Prod.mk.injEq]
  omega
theorem btw_waits {ds : List Dd} {lo hi : Nat} (hok : ∀ j, j < ds.length → okD (ds.getD j zD) = true) (hh : hi ≤ ds.length) (h4 : (ds.getD lo zD).1 ≠ 4) : btwD ds lo hi = waitsD ds lo hi := by
  cases hw : waitsD ds lo hi with
  | false =>
    refine btwD_no (fun i hi' he => ?_)
    have hj : (ds.getD (lo + i) zD).1 = 4 := by rw [he]; rfl
    have : lo < lo + i := by
      apply Classical.byContradiction
      intro hn
      have : i = 0 := by omega
      subst this
      exact h4 hj
    rw [waitsD_yes this (show lo + i < hi by omega) hj] at hw
    cases hw
  | true =>
    unfold waitsD at hw
    rw [List.any_eq_true] at hw
    obtain ⟨j, hj, hq⟩ := hw
    rw [List.mem_range] at hj
    simp only [Bool.and_eq_true, decide_eq_true_eq, beq_iff_eq] at hq
    refine btwD_yes (i := j - lo) (by omega) ?_
    rw [show lo + (j - lo) = j by omega]
    exact okD_wait (hok j (by omega)) hq.2
/-- Is the event a beginning? -/
theorem evs_who {dss : List (List Dd)} (h : workB dss = true) {j : Nat} (hj : j < (evsW dss dss.length).length) : (j < 3 → ((evsW dss dss.length).getD j zE).1 = -1) ∧ (3 ≤ j → 0 ≤ ((evsW dss dss.length).getD j zE).1) := by
  obtain ⟨_, _, _, _, hG⟩ := events_law h
  have hok : ∀ i, i < dss.length → okL (dss.getD i []) = true := by
    simp only [workB, Bool.and_eq_true, decide_eq_true_eq] at h
    exact fun i hi => all_get [] h.1.1.1.2 i hi
  obtain ⟨⟨t, ht⟩, _⟩ := evs_good hok dss.length (Nat.le_refl _)
  obtain ⟨b0, b1, b2⟩ := beg_get ht
  refine ⟨fun h3 => ?_, fun h3 => ?_⟩
  · have : j = 0 ∨ j = 1 ∨ j = 2 := by omega
    rcases this with rfl | rfl | rfl
    · rw [b0]
    · rw [b1]
    · rw [b2]
  · obtain ⟨i, k, c, rd, vl, h1, _⟩ := hG j h3 hj
    rw [List.getD_eq_getElem?_getD, h1]
    exact Int.natCast_nonneg _
theorem isb_beh {dss : List (List Dd)} (h : workB dss = true) {i j : Nat} (hij : i < j) (hj : j < (evsW dss dss.length).length) :
    isbE ((evsW dss dss.length).getD i zE) ((evsW dss dss.length).getD j zE) = behP (evsW dss dss.length) i j := by
  have wi := evs_who h (show i < _ by omega)
  have wj := evs_who h hj
  unfold isbE behP
  generalize (evsW dss dss.length).getD i zE = a at wi ⊢
  generalize (evsW dss dss.length).getD j zE = b at wj ⊢
  have d0 : decide (i < j) = true := decide_eq_true hij
  rw [d0, Bool.true_and]
  by_cases i3 : i < 3
  · have e1 : (a.1 == -1) = true := by rw [wi.1 i3]; rfl
    have d1 : decide (i < 3) = true := decide_eq_true i3
    have d2 : decide (3 ≤ i) = false := decide_eq_false (by omega)
    rw [e1, d1, d2]
    by_cases j3 : j < 3
    · rw [wj.1 j3, decide_eq_false (show ¬ 3 ≤ j by omega)]; rfl
    · have := wj.2 (by omega)
      have e2 : (b.1 != -1) = true := by simp; omega
      rw [e2, decide_eq_true (show 3 ≤ j by omega)]; rfl
  · have a0 := wi.2 (by omega)
    have b0 := wj.2 (by omega)
    have e1 : (a.1 == -1) = false := by simp; omega
    have e2 : (b.1 != -1) = true := by simp; omega
    rw [e1, e2, decide_eq_false i3, decide_eq_true (show 3 ≤ i by omega)]
    simp
/-- Two events of one clerk, the earlier one first: their deeds. -/
theorem evs_two {dss : List (List Dd)} (h : workB dss = true) {i j : Nat} (hi3 : 3 ≤ i) (hij : i < j) (hj : j < (evsW dss dss.length).length)
    (hc : ((evsW dss dss.length).getD i zE).1 = ((evsW dss dss.length).getD j zE).1) :
    ∃ c x y : Nat, ((evsW dss dss.length).getD i zE).1 = (c : Int) ∧ ((evsW dss dss.length).getD i zE).2.1 = (x : Int) ∧ ((evsW dss dss.length).getD j zE).2.1 = (y : Int) ∧ c < dss.length ∧ (x < y ∨ (x = y ∧ ((dss.getD c []).getD x zD).1 = 3)) ∧ y < (dss.getD c []).length ∧ ((dss.getD c []).getD x zD).1 ≠ 4 := by
  obtain ⟨_, _, _, _, hG⟩ := events_law h
  obtain ⟨ho, _, hN⟩ := evs_ord dss dss.length
  have hi : i < (evsW dss dss.length).length := by omega
  obtain ⟨ci, qi, _, _, _, ei, hci, hqi, _⟩ := hG i hi3 hi
  obtain ⟨cj, qj, _, _, _, ej, hcj, hqj, _⟩ := hG j (by omega) hj
  have xi : (evsW dss dss.length)[i]? = some ((evsW dss dss.length).getD i zE) := by rw [List.getD_eq_getElem?_getD, List.getElem?_eq_getElem hi]; rfl
  have xj : (evsW dss dss.length)[j]? = some ((evsW dss dss.length).getD j zE) := by rw [List.getD_eq_getElem?_getD, List.getElem?_eq_getElem hj]; rfl
  have mi : (evsW dss dss.length).getD i zE ∈ evsW dss dss.length := List.mem_of_getElem? xi
  have hord : OrdE dss ((evsW dss dss.length).getD i zE) ((evsW dss dss.length).getD j zE) := by
    have := List.pairwise_iff_getElem.1 ho i j hi hj hij
    rw [List.getElem?_eq_getElem hi] at xi
    rw [List.getElem?_eq_getElem hj] at xj
    rw [Option.some.inj xi, Option.some.inj xj] at this
    exact this
  have gi := Option.some.inj (xi.symm.trans ei)
  have gj := Option.some.inj (xj.symm.trans ej)
  have hni := hN _ mi
  clear hN ho hG xi xj mi ei ej
  generalize (evsW dss dss.length).getD i zE = a at gi hc hord hni ⊢
  generalize (evsW dss dss.length).getD j zE = b at gj hc hord ⊢
  subst gi gj
  simp only at hc
  have hcc : ci = cj := by omega
  subst hcc
  have hord := hord rfl (by simp only; omega)
  unfold dOf at hni
  simp only [Int.toNat_natCast] at hord hni
  refine ⟨ci, qi, qj, rfl, rfl, rfl, hci, ?_, hqj, hni (by omega)⟩
  rcases hord with h | h
  · exact .inl (by omega)
  · refine .inr ⟨by omega, ?_⟩
    have h2 := h.2
    unfold dOf at h2
    simpa only [Int.toNat_natCast] using h2
theorem keep_kep {dss : List (List Dd)} (h : workB dss = true) {i j : Nat} (hij : i < j) (hj : j < (evsW dss dss.length).length) :
    (isbE ((evsW dss dss.length).getD i zE) ((evsW dss dss.length).getD j zE) && keepE dss ((evsW dss dss.length).getD i zE) ((evsW dss dss.length).getD j zE)) = (behP (evsW dss dss.length) i j && !kepP dss (evsW dss dss.length) i j) := by
  rw [isb_beh h hij hj]
  cases hb : behP (evsW dss dss.length) i j with
  | false => rfl
  | true =>
    rw [Bool.true_and, Bool.true_and]
    have hi : i < (evsW dss dss.length).length := by omega
    by_cases i3 : i < 3
    · have e1 := (evs_who h hi).1 i3
      have e2 : kepP dss (evsW dss dss.length) i j = false := by unfold kepP; rw [decide_eq_false (show ¬ 3 ≤ i by omega)]; rfl
      rw [e2]
      unfold keepE
      rw [e1]
      rfl
    · have hc : ((evsW dss dss.length).getD i zE).1 = ((evsW dss dss.length).getD j zE).1 := by
        unfold behP at hb
        simp only [Bool.and_eq_true, Bool.or_eq_true, decide_eq_true_eq, beq_iff_eq] at hb
        rcases hb.2 with q | q
        · omega
        · exact q.2
      obtain ⟨c, x, y, h1, h2, h3, hcl, hxy, hyl, h4⟩ := evs_two h (by omega) hij hj hc
      obtain ⟨_, _, _, _, hG⟩ := events_law h
      have hok : ∀ k, k < (dss.getD c []).length → okD ((dss.getD c []).getD k zD) = true := by
        simp only [workB, Bool.and_eq_true, decide_eq_true_eq] at h
        have := all_get [] h.1.1.1.2 c hcl
        simp only [okL, Bool.and_eq_true] at this
        exact fun k hk => all_get zD this.1 k hk
      -- one class: of a swap or a Group
      have hcs : csE ((evsW dss dss.length).getD i zE) = csE ((evsW dss dss.length).getD j zE) → wholeD (dOf dss ((evsW dss dss.length).getD j zE)) = true := by
        intro he
        obtain ⟨ci, qi, ki, _, _, ei, _, _, _, _, li, _⟩ := hG i (by omega) hi
        obtain ⟨cj, qj, kj, _, _, ej, _, hqj, _, _, lj, _, _, _, _, _, _, hw⟩ := hG j (by omega) hj
        have xi : (evsW dss dss.length)[i]? = some ((evsW dss dss.length).getD i zE) := by rw [List.getD_eq_getElem?_getD, List.getElem?_eq_getElem hi]; rfl
        have xj : (evsW dss dss.length)[j]? = some ((evsW dss dss.length).getD j zE) := by rw [List.getD_eq_getElem?_getD, List.getElem?_eq_getElem hj]; rfl
        have gi := Option.some.inj (xi.symm.trans ei)
        have gj := Option.some.inj (xj.symm.trans ej)
        clear xi xj ei ej
        rw [hc, gj] at h1
        rw [gj] at h3
        rw [gi, gj] at he
        simp only [csE] at he h1 h3
        have h3 : qj = y := by omega
        rw [gi] at hc
        rw [gj] at hc ⊢
        unfold dOf
        simp only [Int.toNat_natCast] at hc ⊢
        by_cases k3 : ((dss.getD cj []).getD qj zD).1 = 3
        · unfold wholeD; rw [k3]; rfl
        · have := hw (by omega) k3
          unfold wholeD
          have ccj : cj = c := by
            omega
          subst ccj
          have r := okD_restE (hok qj hqj)
          have : decide (0 < ((dss.getD cj []).getD qj zD).2.2.2) = true := decide_eq_true (by omega)
          rw [this]; simp
      have h1j : ((evsW dss dss.length).getD j zE).1 = (c : Int) := by rw [← hc]; exact h1
      unfold keepE kepP kepQ
      rw [hb, decide_eq_true (show 3 ≤ i by omega)]
      generalize (evsW dss dss.length).getD i zE = a at h1 h2 hcs ⊢
      generalize (evsW dss dss.length).getD j zE = b at h1j h3 hcs ⊢
      have da : dOf dss a = (dss.getD c []).getD x zD := by unfold dOf; rw [h1, h2, Int.toNat_natCast, Int.toNat_natCast]
      have db : dOf dss b = (dss.getD c []).getD y zD := by unfold dOf; rw [h1j, h3, Int.toNat_natCast, Int.toNat_natCast]
      have ea : (a.1 == -1) = false := by rw [h1]; simp
      rw [ea, h1, h2, h3, Int.toNat_natCast, Int.toNat_natCast, Int.toNat_natCast, btw_waits hok (by omega) h4, da, db, once_whole (hok x (by omega)), once_whole (hok y (by omega))]
      rw [db] at hcs
      unfold rdE
      cases a.2.2.1
      · cases b.2.2.1
        · simp
        · cases wb : wholeD ((dss.getD c []).getD y zD)
          · have ne : (csE a != csE b) = true := by
              simp only [bne_iff_ne, ne_eq]
              intro e
              rw [hcs e] at wb
              cases wb
            rw [ne]
            simp
            exact Bool.or_comm _ _
          · simp
      · simp
theorem beh_same {dss : List (List Dd)} (h : workB dss = true) : colAll (fun i j => isbE ((evsW dss dss.length).getD i zE) ((evsW dss dss.length).getD j zE)) (evsW dss dss.length).length (evsW dss dss.length).length = behL (evsW dss dss.length) := by
  have h12 := (events_law h).1
  have c1 := web_colAll (q := fun i j => isbE ((evsW dss dss.length).getD i zE) ((evsW dss dss.length).getD j zE)) h12 _ (Nat.le_refl _)
  have b1 := beh_line h12
  refine Web.ext c1.1 b1.1 (fun i j hi hj => ?_)
  rw [c1.2 i j hi, b1.2 i j hi]
  by_cases hij : i < j
  · rw [isb_beh h hij hj]; simp [hij]
  · rw [behP_up (by omega)]; simp [hij]
theorem plc_same {dss : List (List Dd)} (h : workB dss = true) : colAll (fun i j => isbE ((evsW dss dss.length).getD i zE) ((evsW dss dss.length).getD j zE) && onpE ((evsW dss dss.length).getD i zE) ((evsW dss dss.length).getD j zE)) (evsW dss dss.length).length (evsW dss dss.length).length = plcL (evsW dss dss.length) := by
  have h12 := (events_law h).1
  have c1 := web_colAll (q := fun i j => isbE ((evsW dss dss.length).getD i zE) ((evsW dss dss.length).getD j zE) && onpE ((evsW dss dss.length).getD i zE) ((evsW dss dss.length).getD j zE)) h12 _ (Nat.le_refl _)
  have b1 := plc_line h12
  refine Web.ext c1.1 b1.1 (fun i j hi hj => ?_)
  rw [c1.2 i j hi, b1.2 i j hi]
  by_cases hij : i < j
  · rw [isb_beh h hij hj]; unfold onpE plcP; simp [hij, hj, bne]
  · rw [behP_up (by omega)]; simp [hij]
theorem kep_same {dss : List (List Dd)} (h : workB dss = true) : colAll (fun i j => isbE ((evsW dss dss.length).getD i zE) ((evsW dss dss.length).getD j zE) && keepE dss ((evsW dss dss.length).getD i zE) ((evsW dss dss.length).getD j zE)) (evsW dss dss.length).length (evsW dss dss.length).length = kepL dss (evsW dss dss.length) := by
  have h12 := (events_law h).1
  have c1 := web_colAll (q := fun i j => isbE ((evsW dss dss.length).getD i zE) ((evsW dss dss.length).getD j zE) && keepE dss ((evsW dss dss.length).getD i zE) ((evsW dss dss.length).getD j zE)) h12 _ (Nat.le_refl _)
  have b1 := kep_line (dss := dss) h12
  refine Web.ext c1.1 b1.1 (fun i j hi hj => ?_)
  rw [c1.2 i j hi, b1.2 i j hi]
  by_cases hij : i < j
  · rw [keep_kep h hij hj]; simp [hij, hj]
  · rw [behP_up (by omega)]; simp [hij]
end Go.Proofs.YtkbkdlaknmgjpaaGreat

/- How a function hands back structs that lie in blocks of its own: one, two, or one beside a plain value. -/
namespace Go.Proofs.YtkbkdlaknmgjpaaGreat
open Go.ChangeShapes Go.WideShapes Go.ChangeAt Go.RowKit

theorem heap_at (w : World) (A : Obj) (i : Nat) : (w.alloc A).heap[i]? = if i = w.heap.size then some A else w.heap[i]? := Array.getElem?_push
theorem heap_size (w : World) (A : Obj) : (w.alloc A).heap.size = w.heap.size + 1 := Array.size_push _
theorem heap_drew (w : World) : w.drew.heap = w.heap := rfl
theorem heap_drewN (w : World) (n : Nat) : (w.drewN n).heap = w.heap := rfl
theorem box_size {w w1 : World} {o : Obj} (k : Keep (w.alloc o) w1) : w.heap.size < w1.heap.size := by
  have := k.size
  rw [heap_size] at this
  omega
theorem box_cell {w w1 : World} {cs : Array Value} {t : TypeId} (k : Keep (w.alloc (.cells cs t)) w1) (i : Nat) : w1.cell? ⟨w.heap.size, i, none⟩ = cs[i]? := by
  rw [k.cell (by rw [heap_size]; omega), cell_of_row (w.alloc (.cells cs t)) w.heap.size i cs t (0, 0) (heap_alloc_new w _)]
theorem box_heap {w w1 : World} {o : Obj} (k : Keep (w.alloc o) w1) : w1.heap[w.heap.size]? = some o :=
  (Below.block k w.heap.size (by rw [heap_size]; omega)).trans (heap_alloc_new w o)
theorem box_deed {w w1 : World} {t : TypeId} {k p v g : Int} (h : Keep (w.alloc (.cells #[.int .i64 k, .int .i64 p, .int .i64 v, .int .i64 g] t)) w1) :
    w.heap.size < w1.heap.size ∧ w1.cell? ⟨w.heap.size, 0, none⟩ = some (.int .i64 k) ∧ w1.cell? ⟨w.heap.size, 1, none⟩ = some (.int .i64 p) ∧ w1.cell? ⟨w.heap.size, 2, none⟩ = some (.int .i64 v) ∧ w1.cell? ⟨w.heap.size, 3, none⟩ = some (.int .i64 g) :=
  ⟨box_size h, box_cell h 0, box_cell h 1, box_cell h 2, box_cell h 3⟩
abbrev strV (l : List UInt8) : Value := .string ⟨l.toArray⟩
theorem ret_bytes {a : ByteArray} {l : List UInt8} (h : a.data.toList = l) : Ending.returned (.string a) = .returned (strV l) := by
  subst h; rfl
theorem results_row {P : Program} {fn : Func} {p : Tmp} {ty : TypeId} (h : fn.results = #[.cell p ty]) (tmps : Array Value) (w : World) (g : Nat) (t : TypeId) (cs : Array Value) (fr : Nat × Nat) (d : TypeDesc)
    (hp : tmps.getD p undef = .pointer (some ⟨g, 0, none⟩)) (hg : w.heap[g]? = some (.cells cs t fr))
    (hu : P.underlying ty = some d) (hd : (match d with | .struct _ | .array _ _ => true | _ => false) = true) (hi : (P.info? ty).map (·.size) = some cs.size) :
    (results fn tmps).run P w = .ok (.agg cs) w := results_cell_row h tmps w g t cs fr d hp hg hu hd hi
theorem results_row_tmp {P : Program} {fn : Func} {p u : Tmp} {ty : TypeId} (h : fn.results = #[.cell p ty, .tmp u]) (tmps : Array Value) (w : World) (g : Nat) (t : TypeId) (cs : Array Value) (fr : Nat × Nat) (d : TypeDesc) (v : Value)
    (hp : tmps.getD p undef = .pointer (some ⟨g, 0, none⟩)) (hg : w.heap[g]? = some (.cells cs t fr)) (hv : tmps.getD u undef = v)
    (hu : P.underlying ty = some d) (hd : (match d with | .struct _ | .array _ _ => true | _ => false) = true) (hi : (P.info? ty).map (·.size) = some cs.size) :
    (results fn tmps).run P w = .ok (.tuple #[.agg cs, v]) w := by
  rw [results_cell_tmp h, hp, hv]
  simp [asAddr, run_loadVar_row w g t ty cs fr d hg hu hd hi, Result.andThen]
theorem results_row2 {P : Program} {fn : Func} {p q : Tmp} {ty : TypeId} (h : fn.results = #[.cell p ty, .cell q ty]) (tmps : Array Value) (w : World) (g g' : Nat) (t t' : TypeId) (cs cs' : Array Value) (fr fr' : Nat × Nat) (d : TypeDesc)
    (hp : tmps.getD p undef = .pointer (some ⟨g, 0, none⟩)) (hg : w.heap[g]? = some (.cells cs t fr))
    (hq : tmps.getD q undef = .pointer (some ⟨g', 0, none⟩)) (hg' : w.heap[g']? = some (.cells cs' t' fr'))
    (hu : P.underlying ty = some d) (hd : (match d with | .struct _ | .array _ _ => true | _ => false) = true) (hi : (P.info? ty).map (·.size) = some cs.size) (hi' : (P.info? ty).map (·.size) = some cs'.size) :
    (results fn tmps).run P w = .ok (.tuple #[.agg cs, .agg cs']) w := by
  have hp' : tmps[p]?.getD undef = .pointer (some ⟨g, 0, none⟩) := by simpa using hp
  have hq' : tmps[q]?.getD undef = .pointer (some ⟨g', 0, none⟩) := by simpa using hq
  simp [results, h, hp', hq', asAddr, run_loadVar_row w g t ty cs fr d hg hu hd hi, run_loadVar_row w g' t' ty cs' fr' d hg' hu hd hi']
end Go.Proofs.YtkbkdlaknmgjpaaGreat

/- Lists of structs in memory, whatever the struct: its cells are a list of plain values. 'RdT': can be read; 'AppT': in memory of one's own, grows by append. -/
namespace Go.Proofs.YtkbkdlaknmgjpaaGreat
open Go.ChangeShapes Go.WideShapes Go.ChangeAt Go.RowKit

section
variable {α : Type} {cf : α → List Value} {n : Nat}
/-- A struct at a place. -/
def AtT (cf : α → List Value) (w : World) (b o : Nat) (x : α) : Prop := ∀ m u, (cf x)[m]? = some u → w.cell? ⟨b, o + m, none⟩ = some u
def RdT (cf : α → List Value) (n : Nat) (w : World) (v : Value) (xs : List α) : Prop :=
  ∃ (a : Option Addr) (cap : Nat), v = .slice a xs.length (xs.length + cap) ∧
    (xs = [] ∨ ∃ b off, a = some ⟨b, off, none⟩ ∧ b < w.heap.size ∧ ∀ i x, xs[i]? = some x → AtT cf w b (off + i * n) x)
theorem AtT.same {w w' : World} {b o : Nat} {x : α} (h : AtT cf w b o x) (hh : w'.heap[b]? = w.heap[b]?) : AtT cf w' b o x :=
  fun m u hm => by
    have := h m u hm
    simp only [World.cell?, hh] at this ⊢
    exact this
theorem AtT.keep {w w' : World} {b o : Nat} {x : α} (h : AtT cf w b o x) (hb : b < w.heap.size) (k : Keep w w') : AtT cf w' b o x := h.same (Below.block k b hb)
theorem RdT.keep {w w' : World} {v : Value} {xs : List α} (h : RdT cf n w v xs) (k : Keep w w') : RdT cf n w' v xs := by
  obtain ⟨a, cap, hv, h⟩ := h
  refine ⟨a, cap, hv, ?_⟩
  rcases h with h | ⟨b, off, ha, hb, hc⟩
  · exact .inl h
  · exact .inr ⟨b, off, ha, Nat.lt_of_lt_of_le hb k.size, fun i x hx => (hc i x hx).keep hb k⟩
def AppT (cf : α → List Value) (e : TypeId) (n : Nat) (w : World) (base : Nat) (v : Value) (xs : List α) : Prop := w.ownsRow base e n v xs.length (xs.flatMap cf)
variable {e : TypeId}
theorem AppT.keep {w w' : World} {base : Nat} {v : Value} {xs : List α} (h : AppT cf e n w base v xs) (k : Keep w w') : AppT cf e n w' base v xs :=
  World.ownsRow.kept h k.grownBy (by cases v.ownBlock <;> simp)
theorem AppT.kept {w w' : World} {base : Nat} {v : Value} {xs : List α} {row : Option Nat} (h : AppT cf e n w base v xs) (hg : w.grownBy w' row) (hne : v.ownBlock = none ∨ v.ownBlock ≠ row) : AppT cf e n w' base v xs :=
  World.ownsRow.kept h hg hne
theorem AppT.lt {w : World} {base : Nat} {v : Value} {xs : List α} (h : AppT cf e n w base v xs) : ∀ k, v.ownBlock = some k → base ≤ k ∧ k < w.heap.size := World.ownsRow.lt h
theorem AppT.ge {w : World} {base : Nat} {v : Value} {xs : List α} (h : AppT cf e n w base v xs) : ∀ k, v.ownBlock = some k → base ≤ k := fun k hk => (h.lt k hk).1
theorem appT_hit {w : World} {base : Nat} {v : Value} {xs : List α} {x : α} (h : w.ownsRow base e n v (xs.length + 1) (xs.flatMap cf ++ cf x)) : AppT cf e n w base v (xs ++ [x]) := by
  unfold AppT; rw [List.flatMap_append]; simpa using h
theorem appT_empty (w : World) : AppT cf e n (w.alloc (.cells #[] e)) w.heap.size (.slice (some ⟨w.heap.size, 0, none⟩) 0 0) [] :=
  World.ownsRow_lit w #[] 0 (Nat.le_refl _) (by decide) (by simp)
theorem flat_at (hn : ∀ x, (cf x).length = n) : ∀ (xs : List α) (i : Nat) (x : α) (m : Nat), xs[i]? = some x → m < n → (xs.flatMap cf)[i * n + m]? = (cf x)[m]?
  | [], i, x, m, h, _ => by simp at h
  | y :: r, 0, x, m, h, hm => by
    simp at h
    subst h
    rw [List.flatMap_cons, List.getElem?_append_left (by rw [hn]; omega)]
    simp
  | y :: r, i + 1, x, m, h, hm => by
    have ih := flat_at hn r i x m (by simpa using h) hm
    have e1 : (i + 1) * n + m = n + (i * n + m) := by rw [Nat.add_mul]; omega
    rw [List.flatMap_cons, List.getElem?_append_right (by rw [hn]; omega), hn, e1, Nat.add_sub_cancel_left, ih]
theorem AppT.shape {w : World} {base : Nat} {v : Value} {xs : List α} (h : AppT cf e n w base v xs) : ∃ a c, v = .slice a xs.length c := by
  rcases h.2 with ⟨rfl, hz⟩ | ⟨g, cap, cur, rfl, _⟩
  · exact ⟨none, 0, by rw [hz]⟩
  · exact ⟨_, _, rfl⟩
theorem AppT.rd (hn : ∀ x, (cf x).length = n) {w : World} {base : Nat} {v : Value} {xs : List α} (h : AppT cf e n w base v xs) : RdT cf n w v xs := by
  have h2 := h
  have hlt := h.lt
  rcases h.2 with ⟨rfl, hz⟩ | ⟨g, cap, cur, rfl, hb, hg, hcap, _, hs, _⟩
  · have : xs = [] := List.eq_nil_of_length_eq_zero hz
    subst this
    exact ⟨none, 0, rfl, .inl rfl⟩
  · obtain ⟨x, rfl⟩ : ∃ x, cap = xs.length + x := ⟨cap - xs.length, by omega⟩
    refine ⟨_, x, rfl, .inr ⟨g, 0, rfl, (hlt g rfl).2, fun i y hy m u hm => ?_⟩⟩
    have hi : i < xs.length := (List.getElem?_eq_some_iff.1 hy).1
    have hmn : m < n := by have := (List.getElem?_eq_some_iff.1 hm).1; rw [hn] at this; exact this
    have hb2 : i * n + m < xs.length * n := by
      have h3 : (i + 1) * n ≤ xs.length * n := Nat.mul_le_mul_right n hi
      rw [Nat.add_mul] at h3
      omega
    rw [Nat.zero_add, World.ownsRow.cellAt h2 (i * n + m) hb2, flat_at hn xs i y m hy hmn]
    exact hm
end
end Go.Proofs.YtkbkdlaknmgjpaaGreat

/- Lists of events in memory. -/
namespace Go.Proofs.YtkbkdlaknmgjpaaGreat
open Go.ChangeShapes Go.WideShapes Go.ChangeAt Go.RowKit

def cE (e : Ev) : List Value := [.int .i64 e.1, .int .i64 e.2.1, .bool e.2.2.1, .int .i64 e.2.2.2.1, .int .i64 e.2.2.2.2.1, .int .i64 e.2.2.2.2.2]
theorem cE_len (e : Ev) : (cE e).length = 6 := rfl
theorem Tryz.infoE : (Tryz.prog.info? 40).map (fun i => (i.zero, i.size, i.bytes)) = some (some (.agg #[.int .i64 0, .int .i64 0, .bool false, .int .i64 0, .int .i64 0, .int .i64 0]), 6, 48) := by kernel_rfl
abbrev RdE (w : World) (v : Value) (es : List Ev) : Prop := RdT cE 6 w v es
abbrev AppE (w : World) (base : Nat) (v : Value) (es : List Ev) : Prop := AppT cE 40 6 w base v es
theorem atE {w : World} {b o : Nat} {x0 x1 : Int} {r : Bool} {x3 x4 x5 : Int} (h : AtT cE w b o (x0, x1, r, x3, x4, x5)) :
    w.cell? ⟨b, o, none⟩ = some (.int .i64 x0) ∧ w.cell? ⟨b, o + 1, none⟩ = some (.int .i64 x1) ∧ w.cell? ⟨b, o + 2, none⟩ = some (.bool r) ∧ w.cell? ⟨b, o + 3, none⟩ = some (.int .i64 x3) ∧ w.cell? ⟨b, o + 4, none⟩ = some (.int .i64 x4) ∧ w.cell? ⟨b, o + 5, none⟩ = some (.int .i64 x5) :=
  ⟨h 0 _ rfl, h 1 _ rfl, h 2 _ rfl, h 3 _ rfl, h 4 _ rfl, h 5 _ rfl⟩
theorem AppE.rd {w : World} {base : Nat} {v : Value} {es : List Ev} (h : AppE w base v es) : RdE w v es := AppT.rd cE_len h
theorem evs_get {es : List Ev} {i : Nat} (h : i < es.length) : es[i]? = some (es.getD i zE) := by
  rw [List.getD_eq_getElem?_getD, List.getElem?_eq_getElem h]; rfl
end Go.Proofs.YtkbkdlaknmgjpaaGreat

/- An event, as it is handed on. -/
namespace Go.Proofs.YtkbkdlaknmgjpaaGreat

abbrev eA (i q : Int) (r : Bool) (pl vl c : Int) : Value := .agg #[.int .i64 i, .int .i64 q, .bool r, .int .i64 pl, .int .i64 vl, .int .i64 c]
end Go.Proofs.YtkbkdlaknmgjpaaGreat

/- Contract of the specification's l1In: is a number from the least to the greatest. -/
namespace Go.Proofs.YtkbkdlaknmgjpaaGreat
open Go.ChangeShapes Go.WideShapes Go.ChangeAt Go.RowKit

theorem l1In_any (x lo hi : Int) (w : World) :
    Calls Tryz.prog 109 #[.int .i64 x, .int .i64 lo, .int .i64 hi] w fun e w' => e = .returned (.bool (inB x lo hi)) ∧ w' = w := by
  go_enter Tryz.func109, Tryz.ntmps109
  go_wp2
  all_goals
    go_ret
    exact ⟨ret_bool (by rw [Bool.eq_iff_iff]; unfold inB; simp; omega), rfl⟩
end Go.Proofs.YtkbkdlaknmgjpaaGreat

/- Contract of the specification's DeedOk: it answers whether four numbers are a deed, and turns nothing. -/
namespace Go.Proofs.YtkbkdlaknmgjpaaGreat
open Go.ChangeShapes Go.WideShapes Go.ChangeAt Go.RowKit

abbrev deedV (k p v g : Int) : Value := .agg #[.int .i64 k, .int .i64 p, .int .i64 v, .int .i64 g]

theorem specDeedOk_any (k p v g : Int) (w : World) :
    Calls Tryz.prog 110 #[deedV k p v g] w fun e w' => e = .returned (.bool (deedB k p v g)) ∧ Keep w w' := by
  unfold deedV
  go_enter Tryz.func110, Tryz.ntmps110
  go_wp2_with (go_at_call 109; refine (l1In_any _ _ _ _).mono ?_; rintro e w' ⟨rfl, rfl⟩)
  all_goals
    go_ret
    refine ⟨ret_bool ?_, (Keep.refl w).alloc _⟩
    simp [inB] at *
    rw [Bool.eq_iff_iff]
    simp [deedB]
    omega
end Go.Proofs.YtkbkdlaknmgjpaaGreat

/- Works in memory: lists of deeds, and lists of such lists, that can be read. -/
namespace Go.Proofs.YtkbkdlaknmgjpaaGreat
open Go.ChangeShapes Go.WideShapes Go.ChangeAt Go.RowKit

abbrev dV (d : Dd) : Value := deedV d.1 d.2.1 d.2.2.1 d.2.2.2
/-- A deed that lies at a place. -/
def AtD (w : World) (b o : Nat) (d : Dd) : Prop :=
  w.cell? ⟨b, o, none⟩ = some (.int .i64 d.1) ∧ w.cell? ⟨b, o + 1, none⟩ = some (.int .i64 d.2.1) ∧ w.cell? ⟨b, o + 2, none⟩ = some (.int .i64 d.2.2.1) ∧ w.cell? ⟨b, o + 3, none⟩ = some (.int .i64 d.2.2.2)
def RdD (w : World) (v : Value) (ds : List Dd) : Prop :=
  ∃ (a : Option Addr) (cap : Nat), v = .slice a ds.length (ds.length + cap) ∧
    (ds = [] ∨ ∃ b off, a = some ⟨b, off, none⟩ ∧ b < w.heap.size ∧ ∀ i, i < ds.length → AtD w b (off + i * 4) (ds.getD i zD))
def RdW (w : World) (v : Value) (dss : List (List Dd)) : Prop :=
  ∃ (a : Option Addr) (cap : Nat), v = .slice a dss.length cap ∧
    (dss = [] ∨ ∃ b off, a = some ⟨b, off, none⟩ ∧ b < w.heap.size ∧ ∀ i, i < dss.length → ∃ vi, w.cell? ⟨b, off + i, none⟩ = some vi ∧ RdD w vi (dss.getD i []))
theorem AtD.keep {w w' : World} {b o : Nat} {d : Dd} (h : AtD w b o d) (hb : b < w.heap.size) (k : Keep w w') : AtD w' b o d :=
  ⟨(k.cell hb).trans h.1, (k.cell hb).trans h.2.1, (k.cell hb).trans h.2.2.1, (k.cell hb).trans h.2.2.2⟩
theorem RdD.keep {w w' : World} {v : Value} {ds : List Dd} (h : RdD w v ds) (k : Keep w w') : RdD w' v ds := by
  obtain ⟨a, cap, hv, h⟩ := h
  refine ⟨a, cap, hv, ?_⟩
  rcases h with h | ⟨b, off, ha, hb, hc⟩
  · exact .inl h
  · exact .inr ⟨b, off, ha, Nat.lt_of_lt_of_le hb k.size, fun i hi => (hc i hi).keep hb k⟩
theorem RdW.keep {w w' : World} {v : Value} {dss : List (List Dd)} (h : RdW w v dss) (k : Keep w w') : RdW w' v dss := by
  obtain ⟨a, cap, hv, h⟩ := h
  refine ⟨a, cap, hv, ?_⟩
  rcases h with h | ⟨b, off, ha, hb, hc⟩
  · exact .inl h
  · refine .inr ⟨b, off, ha, Nat.lt_of_lt_of_le hb k.size, fun i hi => ?_⟩
    obtain ⟨vi, h1, h2⟩ := hc i hi
    exact ⟨vi, (k.cell hb).trans h1, h2.keep k⟩
theorem Keep.set {w wr : World} (h : Keep w wr) {g : Nat} (hg : w.heap.size ≤ g) (i : Nat) (x : Value) : Keep w (wr.setCell ⟨g, i, none⟩ x) :=
  h.grown (row := some g) ⟨rfl, rfl, rfl, by simp, fun k _ hk => heap_setCell_other wr ⟨g, i, none⟩ k x (fun e => hk (by simp [e]))⟩ (fun k hk => by simp at hk; omega)
theorem range_getD {α : Type} (f : Nat → α) (n i : Nat) (z : α) (h : i < n) : ((List.range n).map f).getD i z = f i := by
  rw [List.getD_eq_getElem?_getD, List.getElem?_map, List.getElem?_range h]
  rfl
theorem plain_add {b o i : Nat} : (⟨b, o, none⟩ : Addr).add i = ⟨b, o + i, none⟩ := by unfold Addr.add; split <;> simp_all
theorem block_lt {w : World} {b o : Nat} {v : Value} (h : w.cell? ⟨b, o, none⟩ = some v) : b < w.heap.size := by
  apply Classical.byContradiction
  intro hn
  have h3 : w.heap[b]? = none := by simp; omega
  simp [World.cell?, h3] at h
end Go.Proofs.YtkbkdlaknmgjpaaGreat

/- Contract of the program's test of two events: does one stand behind the other. -/
namespace Go.Proofs.YtkbkdlaknmgjpaaGreat
open Go.ChangeShapes Go.WideShapes Go.ChangeAt Go.RowKit

theorem isBehind_any (w : World) (x0 x1 : Int) (x2 : Bool) (x3 x4 x5 y0 y1 : Int) (y2 : Bool) (y3 y4 y5 : Int) :
    Calls Tryz.prog 136 #[eA x0 x1 x2 x3 x4 x5, eA y0 y1 y2 y3 y4 y5] w fun e w' => e = .returned (.bool (isbE (x0, x1, x2, x3, x4, x5) (y0, y1, y2, y3, y4, y5))) ∧ Keep w w' := by
  by_cases hy : y0 = -1
  · subst hy
    go_enter Tryz.func136, Tryz.ntmps136
    go_wp2
    go_ret
    exact ⟨rfl, ((Keep.refl w).alloc _).alloc _⟩
  · have yb : (y0 == -1) = false := by simp [hy]
    have yn : (y0 != -1) = true := by simp [hy]
    by_cases hx : x0 = -1
    · have HE : Hid (isbE (x0, x1, x2, x3, x4, x5) (y0, y1, y2, y3, y4, y5) = true) := Lib.hid (by unfold isbE; simp [hx, hy])
      subst hx
      clear hy
      go_enter Tryz.func136, Tryz.ntmps136
      go_wp2
      go_ret
      exact ⟨by rw [HE.out]; rfl, ((Keep.refl w).alloc _).alloc _⟩
    · have xb : (x0 == -1) = false := by simp [hx]
      have HE : Hid (isbE (x0, x1, x2, x3, x4, x5) (y0, y1, y2, y3, y4, y5) = (x0 == y0)) := Lib.hid (by unfold isbE; simp only; rw [yn, xb]; rfl)
      clear hx hy
      go_enter Tryz.func136, Tryz.ntmps136
      go_wp2
      go_ret
      exact ⟨by rw [HE.out]; rfl, ((Keep.refl w).alloc _).alloc _⟩
end Go.Proofs.YtkbkdlaknmgjpaaGreat

/- Contract of the program's set with one more member. -/
namespace Go.Proofs.YtkbkdlaknmgjpaaGreat
open Go.ChangeShapes Go.WideShapes Go.ChangeAt Go.RowKit

theorem with_any (s i : Int) (w : World) :
    Calls Tryz.prog 101 #[.int .i64 s, .int .i64 i] w fun e w' => e = .returned (.int .i64 (gAdd s i)) ∧ w' = w := by
  by_cases hs : s = -1
  · subst hs
    go_enter Tryz.func101, Tryz.ntmps101
    go_wp2
    go_ret
    exact ⟨ret_int (gAdd_none i).symm, rfl⟩
  · have hsb : (s == -1) = false := by simp [hs]
    have HS : Hid (¬ s = -1) := hs
    clear hs
    cases hi : inB i 0 11
    · go_enter Tryz.func101, Tryz.ntmps101
      go_wp2_with (go_at_call 114; refine (inSize_any _ _).mono ?_; rintro e w' ⟨rfl, rfl⟩)
      go_ret
      exact ⟨ret_int (gAdd_bad s i hi).symm, rfl⟩
    · have hi' := hi
      simp only [inB, decide_eq_true_eq] at hi'
      obtain ⟨i1, i2⟩ := hi'
      go_enter Tryz.func101, Tryz.ntmps101
      go_wp2_with (go_at_call 114; refine (inSize_any _ _).mono ?_; rintro e w' ⟨rfl, rfl⟩)
      go_ret
      exact ⟨ret_int (by simp [gAdd, HS.out, hi]), rfl⟩
end Go.Proofs.YtkbkdlaknmgjpaaGreat

/- Contract of one more line in the program's web. -/
namespace Go.Proofs.YtkbkdlaknmgjpaaGreat
open Go.ChangeShapes Go.WideShapes Go.ChangeAt Go.RowKit

set_option maxHeartbeats 400000 in
theorem line_any (w : World) (g n cap : Nat) (st : List Int) (j : Nat) (i : Int) (hr : RowAt w g st) (hn : st.length = n) (hj : j < n) :
    Calls Tryz.prog 52 #[.slice (some ⟨g, 0, none⟩) n cap, .int .i64 j, .int .i64 i] w fun e w' => e = .returned (.tuple #[]) ∧ RowAt w' g (st.set j (gAdd (st.getD j 0) i)) ∧ w.grownBy w' (some g) := by
  have d1 := hr.cell (j := j) (by omega)
  have d2 := hr.free j
  have hs := hr.set j (gAdd (st.getD j 0) i)
  generalize st.getD j 0 = x at *
  have hG := grown_set w g j (.int .i64 (gAdd x i))
  go_enter Tryz.func52, Tryz.ntmps52
  go_wp2_with fail
  refine (with_any _ _ _).mono ?_
  rintro e w' ⟨rfl, rfl⟩
  go_wp2
  go_end0
  exact ⟨rfl, hs, hG⟩
end Go.Proofs.YtkbkdlaknmgjpaaGreat

/- Contracts of the program's eventOf: of a reading and of a writing. -/
namespace Go.Proofs.YtkbkdlaknmgjpaaGreat
open Go.ChangeShapes Go.WideShapes Go.ChangeAt Go.RowKit

abbrev rdV (p : Int) : Value := .iface 140 (.agg #[.int .i64 p])
abbrev wrV (p v : Int) : Value := .iface 137 (.agg #[.int .i64 p, .int .i64 v])
abbrev evA (x0 x1 : Int) (r : Bool) (x3 x4 x5 : Int) : Value := .agg #[.int .i64 x0, .int .i64 x1, .bool r, .int .i64 x3, .int .i64 x4, .int .i64 x5]
theorem at_rd (p : Int) (w : World) : (method 287 140 (.agg #[.int .i64 p]) "loop.example/g00411/impl.at").run Tryz.prog w = .ok (203, .agg #[.int .i64 p]) w := by kernel_rfl
theorem at_wr (p v : Int) (w : World) : (method 287 137 (.agg #[.int .i64 p, .int .i64 v]) "loop.example/g00411/impl.at").run Tryz.prog w = .ok (202, .agg #[.int .i64 p, .int .i64 v]) w := by kernel_rfl
theorem atRd_any (p : Int) (w : World) : Calls Tryz.prog 203 #[.agg #[.int .i64 p]] w fun e w' => e = .returned (.int .i64 p) ∧ Keep w w' := by
  go_enter Tryz.func203, Tryz.ntmps203
  go_wp2
  go_ret
  exact ⟨rfl, (Keep.refl w).alloc _⟩
theorem atWr_any (p v : Int) (w : World) : Calls Tryz.prog 202 #[.agg #[.int .i64 p, .int .i64 v]] w fun e w' => e = .returned (.int .i64 p) ∧ Keep w w' := by
  go_enter Tryz.func202, Tryz.ntmps202
  go_wp2
  go_ret
  exact ⟨rfl, (Keep.refl w).alloc _⟩
theorem as_rd (p : Int) (w : World) : (Instr.typeAssert (rdV p) 102 140 true).run Tryz.prog w = .ok (.tuple #[.agg #[.int .i64 p], .bool true]) w := by kernel_rfl
theorem as_wr (p v : Int) (w : World) : (Instr.typeAssert (wrV p v) 102 140 true).run Tryz.prog w = .ok (.tuple #[.agg #[.int .i64 0], .bool false]) w := by kernel_rfl
theorem as_wr2 (p v : Int) (w : World) : (Instr.typeAssert (wrV p v) 102 137 true).run Tryz.prog w = .ok (.tuple #[.agg #[.int .i64 p, .int .i64 v], .bool true]) w := by kernel_rfl
/-- Six cells of a block, one after the other. -/
abbrev put6W (w : World) (B : Nat) (a0 a1 a2 a3 a4 a5 : Value) : World :=
  (((((w.setCell ⟨B, 0, none⟩ a0).setCell ⟨B, 1, none⟩ a1).setCell ⟨B, 2, none⟩ a2).setCell ⟨B, 3, none⟩ a3).setCell ⟨B, 4, none⟩ a4).setCell ⟨B, 5, none⟩ a5
theorem set6 {w : World} {B : Nat} {T : TypeId} {b0 b1 b2 b3 b4 b5 : Value} (h : w.heap[B]? = some (.cells #[b0, b1, b2, b3, b4, b5] T)) (a0 a1 a2 a3 a4 a5 : Value) :
    (put6W w B a0 a1 a2 a3 a4 a5).heap[B]? = some (.cells #[a0, a1, a2, a3, a4, a5] T) := by
  have h0 := heap_setCell_same w B 0 _ _ a0 h
  have h1 := heap_setCell_same _ B 1 _ _ a1 h0
  have h2 := heap_setCell_same _ B 2 _ _ a2 h1
  have h3 := heap_setCell_same _ B 3 _ _ a3 h2
  have h4 := heap_setCell_same _ B 4 _ _ a4 h3
  exact heap_setCell_same _ B 5 _ _ a5 h4
theorem keep1 {w wr : World} (h : Keep w wr) {g : Nat} (hg : w.heap.size ≤ g) (i : Nat) (x : Value) : Keep w (wr.setCell ⟨g, i, none⟩ x) :=
  h.grown (row := some g) ⟨rfl, rfl, rfl, by simp, fun k _ hk => heap_setCell_other wr ⟨g, i, none⟩ k x (fun e => hk (by simp [e]))⟩ (fun k hk => by simp at hk; omega)
theorem keep6 {w wr : World} (h : Keep w wr) (a0 a1 a2 a3 a4 a5 : Value) : Keep w (put6W wr w.heap.size a0 a1 a2 a3 a4 a5) :=
  keep1 (keep1 (keep1 (keep1 (keep1 (keep1 h (Nat.le_refl _) 0 a0) (Nat.le_refl _) 1 a1) (Nat.le_refl _) 2 a2) (Nat.le_refl _) 3 a3) (Nat.le_refl _) 4 a4) (Nat.le_refl _) 5 a5
theorem size6 (w : World) (B : Nat) (a0 a1 a2 a3 a4 a5 : Value) : (put6W w B a0 a1 a2 a3 a4 a5).heap.size = w.heap.size := by simp
set_option maxRecDepth 100000 in
set_option maxHeartbeats 1000000 in
theorem eventOf_rd (p : Int) (w : World) :
    Calls Tryz.prog 87 #[rdV p] w fun e w' => e = .returned (evA 0 0 true p 0 0) ∧ Keep w w' := by
  have hm := at_rd p
  have ha := as_rd p
  go_enter Tryz.func87, Tryz.ntmps87
  go_wp2_with fail
  refine (atRd_any _ _).mono ?_
  rintro e w1 ⟨rfl, k1⟩
  have hb := box_size k1
  have hh := box_heap k1
  have b0 := box_cell k1 0
  have b1 := box_cell k1 1
  have b2 := box_cell k1 2
  have b3 := box_cell k1 3
  have b4 := box_cell k1 4
  have b5 := box_cell k1 5
  have hfr := fun j => frozen_of_row w1 w.heap.size j _ _ (box_heap k1)
  have S := set6 hh (.int .i64 0) (.int .i64 0) (.bool true) (.int .i64 p) (.int .i64 0) (.int .i64 0)
  have K := keep6 (((Keep.refl w).alloc _).trans k1) (.int .i64 0) (.int .i64 0) (.bool true) (.int .i64 p) (.int .i64 0) (.int .i64 0)
  have Z := size6 w1 w.heap.size (.int .i64 0) (.int .i64 0) (.bool true) (.int .i64 p) (.int .i64 0) (.int .i64 0)
  go_wp2
  refine bodyPost_ret (results_row (by rfl) _ _ w.heap.size _ _ _ _ rfl (by rw [heap_at, if_neg (by rw [heap_size, Z]; omega), heap_at, if_neg (by rw [Z]; omega)]; exact S) Tryz.underlying40 rfl (by kernel_rfl)) rfl ?_
  exact ⟨rfl, (K.alloc _).alloc _⟩
set_option maxRecDepth 100000 in
set_option maxHeartbeats 1000000 in
theorem eventOf_wr (p v : Int) (w : World) :
    Calls Tryz.prog 87 #[wrV p v] w fun e w' => e = .returned (evA 0 0 false p v 0) ∧ Keep w w' := by
  have hm := at_wr p v
  have ha := as_wr p v
  have hc := as_wr2 p v
  go_enter Tryz.func87, Tryz.ntmps87
  go_wp2_with fail
  refine (atWr_any _ _ _).mono ?_
  rintro e w1 ⟨rfl, k1⟩
  have hb := box_size k1
  have hh := box_heap k1
  have b0 := box_cell k1 0
  have b1 := box_cell k1 1
  have b2 := box_cell k1 2
  have b3 := box_cell k1 3
  have b4 := box_cell k1 4
  have b5 := box_cell k1 5
  have hfr := fun j => frozen_of_row w1 w.heap.size j _ _ (box_heap k1)
  have S := set6 hh (.int .i64 0) (.int .i64 0) (.bool false) (.int .i64 p) (.int .i64 v) (.int .i64 0)
  have K := keep6 (((Keep.refl w).alloc _).trans k1) (.int .i64 0) (.int .i64 0) (.bool false) (.int .i64 p) (.int .i64 v) (.int .i64 0)
  have Z := size6 w1 w.heap.size (.int .i64 0) (.int .i64 0) (.bool false) (.int .i64 p) (.int .i64 v) (.int .i64 0)
  go_wp2
  refine bodyPost_ret (results_row (by rfl) _ _ w.heap.size _ _ _ _ rfl (by rw [heap_at, if_neg (by rw [heap_size, Z]; omega), heap_at, if_neg (by rw [Z]; omega)]; exact S) Tryz.underlying40 rfl (by kernel_rfl)) rfl ?_
  exact ⟨rfl, (K.alloc _).alloc _⟩
end Go.Proofs.YtkbkdlaknmgjpaaGreat

/- A list of events that grows, beside blocks that stay as they are. -/
namespace Go.Proofs.YtkbkdlaknmgjpaaGreat
open Go.ChangeShapes Go.WideShapes Go.ChangeAt Go.RowKit

/-- The list x has the events es; none of the blocks in P is its own, and each is as told. -/
structure LP (w0 wr : World) (x : Value) (es : List Ev) (P : List (Nat × Obj)) : Prop where
  app : AppE wr w0.heap.size x es
  keep : Keep w0 wr
  held : ∀ n o, (n, o) ∈ P → x.ownBlock ≠ some n ∧ wr.heap[n]? = some o
theorem LP.more {w0 wr wr' : World} {x : Value} {es : List Ev} {P : List (Nat × Obj)} (h : LP w0 wr x es P) (k : Keep wr wr') : LP w0 wr' x es P :=
  ⟨h.app.keep k, h.keep.trans k, fun n o hn => ⟨(h.held n o hn).1, (Below.block k n (Array.getElem?_eq_some_iff.1 (h.held n o hn).2).1).trans (h.held n o hn).2⟩⟩
theorem LP.add {w0 wr : World} {x : Value} {es : List Ev} {P : List (Nat × Obj)} (h : LP w0 wr x es P) (n : Nat) (o : Obj) (hx : x.ownBlock ≠ some n) (ho : wr.heap[n]? = some o) : LP w0 wr x es ((n, o) :: P) :=
  ⟨h.app, h.keep, fun m q hm => by
    rcases List.mem_cons.1 hm with e | e
    · injection e with e1 e2; subst e1 e2; exact ⟨hx, ho⟩
    · exact h.held m q e⟩
theorem LP.new {w0 wr : World} {x : Value} {es : List Ev} {P : List (Nat × Obj)} (h : LP w0 wr x es P) (o : Obj) : LP w0 (wr.alloc o) x es ((wr.heap.size, o) :: P) :=
  (h.more ((Keep.refl wr).alloc o)).add _ _ (fun e => by have := (h.app.lt _ e).2; omega) (heap_alloc_new wr o)
/-- A block that was made later than the list. -/
theorem LP.later {w0 wr wr' : World} {x : Value} {es : List Ev} {P : List (Nat × Obj)} (h : LP w0 wr x es P) (k : Keep wr wr') {B : Nat} {o : Obj} (hB : wr.heap.size ≤ B) (ho : wr'.heap[B]? = some o) : LP w0 wr' x es ((B, o) :: P) :=
  (h.more k).add _ _ (fun e => by have := (h.app.lt _ e).2; omega) ho
theorem LP.less {w0 wr : World} {x : Value} {es : List Ev} {P Q : List (Nat × Obj)} (h : LP w0 wr x es P) (hs : ∀ y, y ∈ Q → y ∈ P) : LP w0 wr x es Q :=
  ⟨h.app, h.keep, fun n o hn => h.held n o (hs _ hn)⟩
theorem LP.hit {w0 wr w' : World} {x v' : Value} {es : List Ev} {P : List (Nat × Obj)} (h : LP w0 wr x es P) (e : Ev)
    (ho : w'.ownsRow w0.heap.size 40 6 v' (es.length + 1) (es.flatMap cE ++ cE e)) (hg : wr.grownBy w' x.ownBlock) (hb : v'.ownBlock = x.ownBlock ∨ v'.ownBlock = some wr.heap.size) : LP w0 w' v' (es ++ [e]) P := by
  refine ⟨appT_hit ho, h.keep.grown hg h.app.ge, fun n o hn => ?_⟩
  obtain ⟨h1, h2⟩ := h.held n o hn
  have hlt := (Array.getElem?_eq_some_iff.1 h2).1
  refine ⟨fun e => ?_, (hg.block n hlt (fun e => h1 e.symm)).trans h2⟩
  rcases hb with hb | hb
  · exact h1 (hb ▸ e)
  · rw [hb] at e; have := Option.some.inj e; omega
theorem LP.lt {w0 wr : World} {x : Value} {es : List Ev} {P : List (Nat × Obj)} (h : LP w0 wr x es P) {n : Nat} {o : Obj} (hn : (n, o) ∈ P) : n < wr.heap.size := (Array.getElem?_eq_some_iff.1 (h.held n o hn).2).1
theorem LP.cell {w0 wr : World} {x : Value} {es : List Ev} {P : List (Nat × Obj)} (h : LP w0 wr x es P) {n : Nat} {cs : Array Value} {t : TypeId} (hn : (n, .cells cs t) ∈ P) (i : Nat) : wr.cell? ⟨n, i, none⟩ = cs[i]? :=
  cell_of_row wr n i cs t (0, 0) (h.held n _ hn).2
theorem app_base {w : World} {base base' : Nat} {v : Value} {es : List Ev} (h : AppE w base v es) (hb : base' ≤ base) : AppE w base' v es := by
  refine ⟨h.1, ?_⟩
  rcases h.2 with h | ⟨g, cap, cur, hv, hg, rest⟩
  · exact .inl h
  · exact .inr ⟨g, cap, cur, hv, Nat.le_trans hb hg, rest⟩
abbrev eO (i k : Int) (r : Bool) (p v c : Int) : Obj := .cells #[.int .i64 i, .int .i64 k, .bool r, .int .i64 p, .int .i64 v, .int .i64 c] 40
theorem cE_oneP (e : Ev) : ∀ u ∈ cE e, u.oneCell' = true := by
  intro u hu
  simp only [cE, List.mem_cons, List.not_mem_nil, or_false] at hu
  rcases hu with rfl | rfl | rfl | rfl | rfl | rfl <;> rfl
theorem cE_newP (w : World) (n : Nat) (hn : w.heap.size = n) (i q : Int) (r : Bool) (pl vl c : Int) : ∀ j u, (cE (i, q, r, pl, vl, c))[j]? = some u → (w.alloc (eO i q r pl vl c)).cell? ((⟨n, 0, none⟩ : Addr).add j) = some u := by
  subst hn
  intro j u hj
  match j, hj with
  | 0, hj => simp [cE] at hj; subst hj; simp [Addr.add]
  | 1, hj => simp [cE] at hj; subst hj; simp [Addr.add]
  | 2, hj => simp [cE] at hj; subst hj; simp [Addr.add]
  | 3, hj => simp [cE] at hj; subst hj; simp [Addr.add]
  | 4, hj => simp [cE] at hj; subst hj; simp [Addr.add]
  | 5, hj => simp [cE] at hj; subst hj; simp [Addr.add]
end Go.Proofs.YtkbkdlaknmgjpaaGreat

/- Contract of the program's beginnings: the three events that were there ahead of all work. -/
namespace Go.Proofs.YtkbkdlaknmgjpaaGreat
open Go.ChangeShapes Go.WideShapes Go.ChangeAt Go.RowKit

set_option maxRecDepth 100000 in
set_option maxHeartbeats 2000000 in
theorem beginnings_any (w : World) :
    Calls Tryz.prog 82 #[] w fun e w' => ∃ v', e = .returned v' ∧ AppE w' w.heap.size v' evBeg ∧ Keep w w' := by
  obtain ⟨j0, hj, hy0, hy1, hy2⟩ := info_parts Tryz.infoE
  have A0 : AppE (w.alloc (.cells #[] 40)) w.heap.size (.slice (some ⟨w.heap.size, 0, none⟩) 0 0) [] := appT_empty w
  go_enter Tryz.func82, Tryz.ntmps82
  go_wp2
  go_loopw [1, 5] (fun v i wr => ∃ k : Nat, ∃ m : Int, ∃ es : List Ev, k ≤ 3 ∧ i = .int .i64 m ∧ m = (k : Int) ∧ Hid (es = evBeg.take k) ∧ es.length ≤ k ∧ LP w wr v es []) (fun _ i _ => 3 - (intOf i).toNat)
  case atStart => exact ⟨0, 0, [], Nat.zero_le _, rfl, rfl, Lib.hid rfl, Nat.le_refl _, A0, (Keep.refl _).alloc _, by simp⟩
  case round =>
    obtain ⟨k, m, es, hk, rfl, hm, hE, hel, hL⟩ := hrel
    clear A0
    by_cases hlt : k < 3
    · subst hm
      have HM : Hid (es ++ [((-1 : Int), (-1 : Int), false, (k : Int), 0, (k : Int))] = evBeg.take (k + 1)) := Lib.hid (by
        rw [hE.out]
        have : k = 0 ∨ k = 1 ∨ k = 2 := by omega
        rcases this with rfl | rfl | rfl <;> rfl)
      clear hE
      go_wp2_with fail
      refine (eventOf_wr _ _ _).mono ?_
      rintro e w2 ⟨rfl, k2⟩
      have L2 := hL.more k2
      have hsz := L2.keep.size
      have L3 := (L2.more ((Keep.refl w2).alloc (eO (-1) (-1) false k 0 k))).more ((Keep.refl _).alloc (eO (-1) (-1) false k 0 k))
      go_wp2_with (at_builtin; refine wpList_append_own_at _ rfl _ _ 36 rfl w.heap.size 40 j0 (.agg #[.int .i64 0, .int .i64 0, .bool false, .int .i64 0, .int .i64 0, .int .i64 0]) 6 48 Tryz.underlying36 hj hy0 hy1 hy2 rfl (by decide) _ _ _ rfl L3.app ⟨_, 0, none⟩ 1 1 (cE ((-1 : Int), (-1 : Int), false, (k : Int), 0, (k : Int))) rfl rfl ?c1 ?c2 ?c3 ?c4 ?c5 ?_)
      case c1 => exact cE_newP _ _ (heap_size _ _) _ _ _ _ _ _
      case c2 => exact cE_oneP _
      case c3 => unfold maxLen; omega
      case c4 => omega
      case c5 => simp; omega
      intro v' w1 hown' hgrow _ hblk
      have L4 := L3.hit _ hown' hgrow (by rw [heap_size, heap_size]; exact hblk)
      clear hgrow hown' hblk L3 L2 hL
      go_wp2
      go_roundw
      case rel => exact ⟨k + 1, _, _, by omega, rfl, by omega, HM, by simp; omega, L4⟩
      case measure => simp [intOf]; omega
    obtain rfl : m = 3 := by omega
    have HB : Hid (es = evBeg) := Lib.hid (by rw [hE.out, show k = 3 by omega]; rfl)
    clear hE hm
    go_wp2
    go_ret
    exact ⟨_, rfl, by rw [← HB.out]; exact hL.app, hL.keep⟩
end Go.Proofs.YtkbkdlaknmgjpaaGreat

/- Plain mathematics of events as the program lists them: a deed of the Group of the deed ahead has the class of the last event. Of a right work that is what the specification lists. -/
namespace Go.Proofs.YtkbkdlaknmgjpaaGreat

/-- Does the deed k go on with the Group of the deed ahead? -/
def goB (ds : List Dd) (k : Nat) : Bool := decide (0 < k) && ((ds.getD k zD).2.2.2 != 0) && ((ds.getD k zD).2.2.2 == (ds.getD (k - 1) zD).2.2.2)
def lastC (out : List Ev) : Int := csE (out.getD (out.length - 1) zE)
def ncE (out : List Ev) (go : Bool) : Int := if go = true then lastC out else (out.length : Int)
def clkP (i : Nat) (ds : List Dd) (out : List Ev) : Nat → List Ev
  | 0 => out
  | k + 1 => clkP i ds out k ++ oneE i k (ds.getD k zD) (ncE (clkP i ds out k) (goB ds k))
def evsP (dss : List (List Dd)) : Nat → List Ev
  | 0 => evBeg
  | i + 1 => clkP i (dss.getD i []) (evsP dss i) (dss.getD i []).length
/-- Deeds of one Group stand side by side. -/
def Tog (ds : List Dd) : Prop := ∀ k j, k < ds.length → j < k → (ds.getD k zD).2.2.2 ≠ 0 → (ds.getD j zD).2.2.2 = (ds.getD k zD).2.2.2 → (ds.getD (k - 1) zD).2.2.2 = (ds.getD k zD).2.2.2
theorem grpK_own {i : Nat} {own : List Int} {ds : List Dd} (hl : own.length = 10) : ∀ (k : Nat) (o : List Int), grpK i own ds k = some o → (∀ j, j < k → okD (ds.getD j zD) = true) →
    ∀ j, j < k → (ds.getD j zD).2.2.2 ≠ 0 → o.getD (ds.getD j zD).2.2.2.toNat 0 = (i : Int) + 1
  | 0, o, h, _, j, hj, _ => by omega
  | k + 1, o', h, hok, j, hj, h0 => by
    rw [grpK] at h
    cases hq : grpK i own ds k with
    | none => rw [hq] at h; cases h
    | some o =>
      rw [hq] at h
      have ih := grpK_own hl k o hq (fun j hj => hok j (by omega))
      have hol := grpK_len hq
      simp only at h
      have okj := okD_restE (hok j hj)
      split at h
      · rename_i hz
        simp only [Option.some.injEq] at h
        subst h
        by_cases e : j = k
        · subst e; exact absurd hz h0
        · exact ih j (by omega) h0
      · rename_i hz
        split at h
        · cases h
        · simp only [Option.some.injEq] at h
          subst h
          have okk := okD_restE (hok k (by omega))
          rw [getD_setE o _ _ _ (by omega)]
          by_cases e : (ds.getD k zD).2.2.2.toNat = (ds.getD j zD).2.2.2.toNat
          · rw [if_pos e]
          · rw [if_neg e]
            by_cases e2 : j = k
            · subst e2; exact absurd rfl e
            · exact ih j (by omega) h0
theorem grpK_tog {i : Nat} {own : List Int} {ds : List Dd} (hl : own.length = 10) {o : List Int} (h : grpK i own ds ds.length = some o) (hok : ∀ j, j < ds.length → okD (ds.getD j zD) = true) : Tog ds := by
  intro k j hk hj h0 he
  have step : ∃ o', grpK i own ds (k + 1) = some o' := by
    cases hq : grpK i own ds (k + 1) with
    | none => rw [grpK_none hq ds.length (by omega)] at h; cases h
    | some o' => exact ⟨o', rfl⟩
  obtain ⟨o', ho'⟩ := step
  rw [grpK] at ho'
  cases hq : grpK i own ds k with
  | none => rw [hq] at ho'; cases ho'
  | some o1 =>
    rw [hq] at ho'
    have hown := grpK_own hl k o1 hq (fun j hj => hok j (by omega)) j hj (by rw [he]; exact h0)
    rw [he] at hown
    simp only at ho'
    rw [if_neg h0] at ho'
    split at ho'
    · cases ho'
    · rename_i hn
      apply Classical.byContradiction
      intro hc
      exact hn ⟨by rw [hown]; omega, .inr (.inr hc)⟩
theorem work_tog {dss : List (List Dd)} (hb : workB dss = true) : ∀ i, i < dss.length → Tog (dss.getD i []) := by
  intro i hi
  simp only [workB, Bool.and_eq_true, decide_eq_true_eq] at hb
  obtain ⟨⟨⟨⟨_, h2⟩, _⟩, _⟩, hg⟩ := hb
  have hok := all_get [] h2 i hi
  simp only [okL, Bool.and_eq_true, decide_eq_true_eq] at hok
  have hs : ∀ n, n ≤ dss.length → ∃ o, grpW dss n = some o := by
    intro n hn
    cases hq : grpW dss n with
    | none => rw [grpB, grpW_none hq dss.length hn] at hg; cases hg
    | some o => exact ⟨o, rfl⟩
  obtain ⟨o, ho⟩ := hs i (by omega)
  obtain ⟨o', ho'⟩ := hs (i + 1) (by omega)
  rw [grpW, ho] at ho'
  exact grpK_tog (grpW_len ho) ho' (fun j hj => all_get zD hok.1 j hj)
theorem last_snoc (out t : List Ev) (e : Ev) : lastC (out ++ (t ++ [e])) = csE e := by
  unfold lastC
  rw [← List.append_assoc, List.length_append, List.getD_eq_getElem?_getD]
  simp
theorem clkP_same {i : Nat} {ds : List Dd} {out : List Ev} (ht : Tog ds) (hok : ∀ j, j < ds.length → okD (ds.getD j zD) = true) (ho : 1 ≤ out.length) :
    ∀ k : Nat, k ≤ ds.length → clkP i ds out k = (clkE i ds out k).1 ∧ (clkE i ds out k).2.length = 10 ∧ 1 ≤ (clkE i ds out k).1.length ∧
      (∀ g : Nat, 0 < g → g < 10 → (∀ j, j < k → (ds.getD j zD).2.2.2 ≠ (g : Int)) → (clkE i ds out k).2.getD g 0 = 0) ∧
      (∀ j, j < k → (ds.getD j zD).2.2.2 ≠ 0 → (clkE i ds out k).2.getD (ds.getD j zD).2.2.2.toNat 0 ≠ 0) ∧
      (0 < k → (ds.getD (k - 1) zD).2.2.2 ≠ 0 → (clkE i ds out k).2.getD (ds.getD (k - 1) zD).2.2.2.toNat 0 = lastC (clkE i ds out k).1)
  | 0, _ => ⟨rfl, by simp [clkE], ho, fun g _ hg _ => by simp only [clkE]; rw [List.getD_eq_getElem?_getD, List.getElem?_replicate, if_pos hg]; rfl, fun j hj => by omega, fun h => by omega⟩
  | k + 1, hk => by
    obtain ⟨h1, h2, h3, h4, h5, h6⟩ := clkP_same ht hok ho k (by omega)
    have hd := hok k (by omega)
    obtain ⟨r0, r1, r2, r3, r4⟩ := okD_restE hd
    have hkd := okD_kindE hd
    rw [clkP, clkE, h1, Nat.add_sub_cancel]
    generalize hS : clkE i ds out k = S at h2 h3 h4 h5 h6
    obtain ⟨L, f⟩ := S
    simp only at h2 h3 h4 h5 h6
    generalize hdd : ds.getD k zD = d at hd r0 r1 r2 r3 r4 hkd
    have hg : goB ds k = (decide (0 < k) && (d.2.2.2 != 0) && (d.2.2.2 == (ds.getD (k - 1) zD).2.2.2)) := by rw [goB, hdd]
    -- deeds ahead that have Group 0 or not
    have old5 : ∀ j, j < k → (ds.getD j zD).2.2.2 ≠ 0 → (ds.getD j zD).2.2.2.toNat < 10 := fun j hj _ => by
      have := okD_restE (hok j (by omega)); omega
    by_cases h4k : d.1 = 4
    · have g0 : d.2.2.2 = 0 := r4 (by omega)
      have e1 : oneE i k d (ncE L (goB ds k)) = [] := by unfold oneE; rw [if_pos h4k]
      rw [stepE, if_pos h4k, e1, List.append_nil]
      refine ⟨rfl, h2, h3, fun g hg0 hg10 hn => h4 g hg0 hg10 (fun j hj => hn j (by omega)), fun j hj hne => ?_, fun _ hne => absurd g0 hne⟩
      by_cases e : j = k
      · subst e; rw [hdd] at hne; exact absurd g0 hne
      · exact h5 j (by omega) hne
    · rw [stepE, if_neg h4k]
      by_cases g0 : d.2.2.2 = 0
      · have e1 : ncE L (goB ds k) = clsE d.2.2.2 L.length f := by
          rw [hg, g0]
          simp [ncE, clsE]
        have e2 : fstE d.2.2.2 L.length f = f := by unfold fstE; rw [if_neg (by rw [g0]; omega)]
        rw [e1]
        simp only
        rw [e2]
        refine ⟨by trivial, h2, by rw [List.length_append]; omega, fun g hg0 hg10 hn => h4 g hg0 hg10 (fun j hj => hn j (by omega)), fun j hj hne => ?_, fun _ hne => absurd g0 hne⟩
        by_cases e : j = k
        · subst e; rw [hdd] at hne; exact absurd g0 hne
        · exact h5 j (by omega) hne
      · have gp : (0 : Int) < d.2.2.2 := by omega
        have k2 : d.1 = 1 ∨ d.1 = 2 := by
          apply Classical.byContradiction
          intro hn
          exact g0 (r4 (by omega))
        have one : ∀ c, ∃ e, oneE i k d c = [e] ∧ csE e = c := by
          intro c
          unfold oneE
          rcases k2 with e | e
          · exact ⟨_, by rw [if_neg h4k, if_neg (by omega), if_neg (by omega)], rfl⟩
          · exact ⟨_, by rw [if_neg h4k, if_neg (by omega), if_pos e], rfl⟩
        have fin : ∀ c, lastC (L ++ oneE i k d c) = c := fun c => by
          obtain ⟨e, he, hc⟩ := one c
          rw [he, ← hc]
          exact last_snoc L [] e
        by_cases hgo : 0 < k ∧ (ds.getD (k - 1) zD).2.2.2 = d.2.2.2
        · obtain ⟨k0, hgo⟩ := hgo
          have e0 : goB ds k = true := by rw [hg, hgo]; simp [k0, g0]
          have f0 : f.getD d.2.2.2.toNat 0 ≠ 0 := by have := h5 (k - 1) (by omega) (by rw [hgo]; exact g0); rw [hgo] at this; exact this
          have f1 : f.getD d.2.2.2.toNat 0 = lastC L := by have := h6 k0 (by rw [hgo]; exact g0); rw [hgo] at this; exact this
          have e2 : fstE d.2.2.2 L.length f = f := by unfold fstE; rw [if_neg (fun h => f0 h.2)]
          have e1 : ncE L (goB ds k) = clsE d.2.2.2 L.length f := by
            rw [e0]
            unfold ncE clsE
            rw [if_pos rfl, if_pos gp, e2, f1]
          have e3 : clsE d.2.2.2 L.length f = f.getD d.2.2.2.toNat 0 := by unfold clsE; rw [if_pos gp, e2]
          rw [e1]
          simp only
          rw [e2]
          refine ⟨by trivial, h2, by rw [List.length_append]; omega, fun g hg0 hg10 hn => h4 g hg0 hg10 (fun j hj => hn j (by omega)), fun j hj hne => ?_, fun _ _ => ?_⟩
          · by_cases e : j = k
            · subst e; rw [hdd]; exact f0
            · exact h5 j (by omega) hne
          · rw [fin, e3]
        · have none : ∀ j, j < k → (ds.getD j zD).2.2.2 ≠ d.2.2.2 := by
            intro j hj he
            refine hgo ⟨by omega, ?_⟩
            have := ht k j (by omega) hj (by rw [hdd]; exact g0) (by rw [hdd]; exact he)
            rw [hdd] at this
            exact this
          obtain ⟨g, hgg⟩ := Int.eq_ofNat_of_zero_le r2
          have g10 : g < 10 := by omega
          have f0 : f.getD d.2.2.2.toNat 0 = 0 := by
            rw [hgg, Int.toNat_natCast]
            exact h4 g (by omega) g10 (fun j hj => by rw [← hgg]; exact none j hj)
          have e0 : goB ds k = false := by
            rw [hg]
            by_cases k0 : 0 < k
            · have : ¬ (d.2.2.2 = (ds.getD (k - 1) zD).2.2.2) := fun e => hgo ⟨k0, e.symm⟩
              have e : (d.2.2.2 == (ds.getD (k - 1) zD).2.2.2) = false := by simpa using this
              rw [e, Bool.and_false]
            · simp [k0]
          have e2 : fstE d.2.2.2 L.length f = f.set d.2.2.2.toNat (L.length : Int) := by unfold fstE; rw [if_pos ⟨gp, f0⟩]
          have e3 : clsE d.2.2.2 L.length f = (L.length : Int) := by
            unfold clsE
            rw [if_pos gp, e2, getD_setE f _ _ _ (by omega), if_pos rfl]
          have e1 : ncE L (goB ds k) = clsE d.2.2.2 L.length f := by rw [e0, e3]; simp [ncE]
          rw [e1]
          simp only
          rw [e2]
          refine ⟨by trivial, by rw [List.length_set]; exact h2, by rw [List.length_append]; omega, fun q hq0 hq10 hn => ?_, fun j hj hne => ?_, fun _ _ => ?_⟩
          · have hqk := hn k (by omega)
            rw [hdd] at hqk
            rw [getD_setE f _ _ _ (by omega), if_neg (by omega)]
            exact h4 q hq0 hq10 (fun j hj => hn j (by omega))
          · by_cases e : j = k
            · subst e
              rw [hdd, getD_setE f _ _ _ (by omega), if_pos rfl]
              omega
            · have nj := none j (by omega)
              have okj := okD_restE (hok j (by omega))
              rw [getD_setE f _ _ _ (by omega), if_neg (by omega)]
              exact h5 j (by omega) hne
          · rw [fin, e3, getD_setE f _ _ _ (by omega), if_pos rfl]
theorem evsP_same {dss : List (List Dd)} (hb : workB dss = true) : ∀ n : Nat, n ≤ dss.length → evsP dss n = evsW dss n ∧ 1 ≤ (evsW dss n).length
  | 0, _ => ⟨rfl, by simp [evsW, evBeg]⟩
  | n + 1, h => by
    obtain ⟨h1, h2⟩ := evsP_same hb n (by omega)
    have ht := work_tog hb n (by omega)
    simp only [workB, Bool.and_eq_true, decide_eq_true_eq] at hb
    obtain ⟨⟨⟨⟨_, ha⟩, _⟩, _⟩, _⟩ := hb
    have hok := all_get [] ha n (by omega)
    simp only [okL, Bool.and_eq_true, decide_eq_true_eq] at hok
    obtain ⟨q1, _, q3, _⟩ := clkP_same (i := n) ht (fun j hj => all_get zD hok.1 j hj) h2 (dss.getD n []).length (Nat.le_refl _)
    rw [evsP, evsW, h1, q1]
    exact ⟨rfl, q3⟩
end Go.Proofs.YtkbkdlaknmgjpaaGreat

/- Contracts of the program's shapesOf, goesOn, nextClass. -/
namespace Go.Proofs.YtkbkdlaknmgjpaaGreat
open Go.ChangeShapes Go.WideShapes Go.ChangeAt Go.RowKit

/-- What shapesOf hands back: a new row of these values. -/
def Shp (w w' : World) (e : Ending) (vs : Array Value) : Prop :=
  ∃ B, e = .returned (.slice (some ⟨B, 0, none⟩) vs.size vs.size) ∧ w'.heap[B]? = some (.cells vs 102) ∧ w.heap.size ≤ B ∧ Keep w w'
set_option maxHeartbeats 1000000 in
theorem shapes_rd (p v g : Int) (w : World) : Calls Tryz.prog 86 #[deedV 1 p v g] w fun e w' => Shp w w' e #[rdV p] := by
  go_enter Tryz.func86, Tryz.ntmps86
  go_wp2
  go_ret
  exact ⟨w.heap.size + 1, rfl, by rw [heap_at, if_pos (heap_size w _).symm], by omega, ((Keep.refl w).alloc _).alloc _⟩
set_option maxHeartbeats 1000000 in
theorem shapes_wr (p v g : Int) (w : World) : Calls Tryz.prog 86 #[deedV 2 p v g] w fun e w' => Shp w w' e #[wrV p v] := by
  go_enter Tryz.func86, Tryz.ntmps86
  go_wp2
  go_ret
  exact ⟨w.heap.size + 1, rfl, by rw [heap_at, if_pos (heap_size w _).symm], by omega, ((Keep.refl w).alloc _).alloc _⟩
set_option maxHeartbeats 1000000 in
theorem shapes_sw (p v g : Int) (w : World) : Calls Tryz.prog 86 #[deedV 3 p v g] w fun e w' => Shp w w' e #[rdV p, wrV p v] := by
  go_enter Tryz.func86, Tryz.ntmps86
  go_wp2
  go_ret
  exact ⟨w.heap.size + 1, rfl, by rw [heap_at, if_pos (heap_size w _).symm], by omega, ((Keep.refl w).alloc _).alloc _⟩
set_option maxHeartbeats 1000000 in
theorem shapes_wa (p v g : Int) (w : World) : Calls Tryz.prog 86 #[deedV 4 p v g] w fun e w' => Shp w w' e #[] := by
  go_enter Tryz.func86, Tryz.ntmps86
  go_wp2
  go_ret
  exact ⟨w.heap.size + 1, rfl, by rw [heap_at, if_pos (heap_size w _).symm], by omega, ((Keep.refl w).alloc _).alloc _⟩
set_option maxRecDepth 100000 in
set_option maxHeartbeats 2000000 in
theorem goesOn_any (w : World) (v : Value) (ds : List Dd) (h : RdD w v ds) (k : Nat) (hk : k < ds.length) (hx : ds.length ≤ 1048576) :
    Calls Tryz.prog 85 #[v, .int .i64 k] w fun e w' => e = .returned (.bool (goB ds k)) ∧ Keep w w' := by
  obtain ⟨a, c, rfl, h⟩ := h
  rcases h with h | ⟨b, o, rfl, hb, hc⟩
  · exfalso; rw [h] at hk; simp at hk
  have A3 := (hc k hk).2.2.2
  have i1 : (0 : Int) ≤ (k : Int) := Int.natCast_nonneg _
  have i2 : (k : Int) < (ds.length : Int) := by omega
  have HP : Hid (goB ds k = (decide (0 < k) && ((ds.getD k zD).2.2.2 != 0) && ((ds.getD k zD).2.2.2 == (ds.getD (k - 1) zD).2.2.2))) := Lib.hid rfl
  by_cases h0 : k = 0
  · have HT : Hid (goB ds k = false) := Lib.hid (by rw [HP.out]; simp [h0])
    have d0 : decide (0 < k) = false := by simp [h0]
    generalize (ds.getD k zD).2.2.2 = x3 at A3
    clear HP hc h0
    go_enter Tryz.func85, Tryz.ntmps85
    go_wp2
    go_quiet (fail)
    go_wp2
    go_ret
    exact ⟨by rw [HT.out]; rfl, (Keep.refl w).drewN _⟩
  · obtain ⟨r, rfl⟩ : ∃ r : Nat, k = r + 1 := ⟨k - 1, by omega⟩
    rw [Nat.add_sub_cancel] at HP
    have B3 := (hc r (by omega)).2.2.2
    clear hc h0
    have j1 : (0 : Int) ≤ (r : Int) := Int.natCast_nonneg _
    have j2 : (r : Int) < (ds.length : Int) := by omega
    have d2 : (r : Int) + 1 < (ds.length : Int) := by omega
    have d6 : (0 : Int) ≤ (r : Int) + 1 := by omega
    have d3 : IntKind.i64.wrap (r : Int) = (r : Int) := by rw [IntKind.wrap_i64]; omega
    have d4 : wrap64 (r : Int) = (r : Int) := wrap64_small _ (by omega) (by omega)
    generalize (ds.getD (r + 1) zD).2.2.2 = x3 at A3 HP
    generalize (ds.getD r zD).2.2.2 = y3 at B3 HP
    by_cases e0 : x3 = 0
    · have HT : Hid (goB ds (r + 1) = false) := Lib.hid (by rw [HP.out]; simp [e0])
      have q0 : (x3 != 0) = false := by simp [e0]
      clear HP e0
      go_enter Tryz.func85, Tryz.ntmps85
      go_wp2
      go_quiet (fail)
      go_wp2
      go_ret
      exact ⟨by rw [HT.out]; rfl, (Keep.refl w).drewN _⟩
    · have q0 : (x3 != 0) = true := by simp [e0]
      have q1 : (decide (0 < r + 1)) = true := by simp
      have HT : Hid (goB ds (r + 1) = (x3 == y3)) := Lib.hid (by rw [HP.out, q0, q1]; simp)
      clear HP e0 q1
      go_enter Tryz.func85, Tryz.ntmps85
      go_wp2
      go_quiet (fail)
      go_wp2
      go_ret
      exact ⟨by rw [HT.out]; rfl, (Keep.refl w).drewN _⟩
set_option maxHeartbeats 1000000 in
theorem nextClass_any (w : World) (v : Value) (es : List Ev) (h : RdE w v es) (hx : es.length ≤ 1048576) (h1 : 1 ≤ es.length) (go : Bool) :
    Calls Tryz.prog 84 #[v, .bool go] w fun e w' => e = .returned (.int .i64 (ncE es go)) ∧ Keep w w' := by
  obtain ⟨a, c, rfl, h⟩ := h
  rcases h with h | ⟨b, o, rfl, hb, hc⟩
  · exfalso; rw [h] at h1; simp at h1
  cases go
  · have HT : Hid (ncE es false = (es.length : Int)) := Lib.hid (by simp [ncE])
    go_enter Tryz.func84, Tryz.ntmps84
    go_wp2
    go_ret
    exact ⟨by rw [HT.out]; rfl, Keep.refl w⟩
  · obtain ⟨m, hm⟩ : ∃ m, es.length = m + 1 := ⟨es.length - 1, by omega⟩
    have AT := hc m _ (evs_get (by omega))
    have HT : Hid (ncE es true = csE (es.getD m zE)) := Lib.hid (by simp [ncE, lastC, hm])
    generalize es.getD m zE = e at AT HT
    obtain ⟨x0, x1, x2, x3, x4, x5⟩ := e
    obtain ⟨-, -, -, -, -, A5⟩ := atE AT
    clear AT hc
    rw [hm]
    have j1 : (0 : Int) ≤ (m : Int) := Int.natCast_nonneg _
    have d3 : IntKind.i64.wrap (m : Int) = (m : Int) := by rw [IntKind.wrap_i64]; omega
    have d4 : wrap64 (m : Int) = (m : Int) := wrap64_small _ (by omega) (by omega)
    clear hm
    go_enter Tryz.func84, Tryz.ntmps84
    go_wp2
    go_ret
    exact ⟨by rw [HT.out]; rfl, Keep.refl w⟩
end Go.Proofs.YtkbkdlaknmgjpaaGreat

/- Plain mathematics of the program's clerks: the Groups that they have, as sets; that the program's test on them is the specification's. -/
namespace Go.Proofs.YtkbkdlaknmgjpaaGreat
open Go.RowKit

def grD (d : Dd) : Int := d.2.2.2
/-- The Groups of the first k deeds, as a set. -/
def gK (ds : List Dd) : Nat → Int
  | 0 => 0
  | k + 1 => if grD (ds.getD k zD) = 0 then gK ds k else gAdd (gK ds k) (grD (ds.getD k zD))
def gC (ds : List Dd) : Int := gK ds ds.length
/-- Does the deed k begin a Group that was there before? -/
def partK (ds : List Dd) (k : Nat) : Bool := decide (0 < k) && (grD (ds.getD k zD) != grD (ds.getD (k - 1) zD)) && inSetB (gK ds k) (grD (ds.getD k zD))
def togK (ds : List Dd) : Nat → Bool
  | 0 => true
  | k + 1 => togK ds k && !partK ds k
/-- The Groups of the clerks ahead. -/
def takW (dss : List (List Dd)) : Nat → Int
  | 0 => 0
  | i + 1 => bits .or .i64 (takW dss i) (gC (dss.getD i []))
def rightB (ds : List Dd) (t : Int) : Bool := decide (ds.length ≤ 5) && ds.all okD && togK ds ds.length && (bits .and .i64 (gC ds) t == 0)
def rightsW (dss : List (List Dd)) : Nat → Bool
  | 0 => true
  | i + 1 => rightsW dss i && rightB (dss.getD i []) (takW dss i)
theorem take_getD {α : Type} (l : List α) (i k : Nat) (z : α) (h : k < i) : (l.take i).getD k z = l.getD k z := by
  rw [List.getD_eq_getElem?_getD, List.getElem?_take, if_pos h, List.getD_eq_getElem?_getD]
theorem gK_take (ds : List Dd) (i : Nat) : ∀ k : Nat, k ≤ i → gK (ds.take i) k = gK ds k
  | 0, _ => rfl
  | k + 1, h => by rw [gK, gK, gK_take ds i k (by omega), take_getD ds i k zD (by omega)]
theorem gC_take (ds : List Dd) (i : Nat) (h : i ≤ ds.length) : gC (ds.take i) = gK ds i := by
  rw [gC, List.length_take, Nat.min_eq_left h, gK_take ds i i (Nat.le_refl _)]
theorem togK_false {ds : List Dd} {k : Nat} (h : togK ds k = false) : ∀ n : Nat, k ≤ n → togK ds n = false
  | 0, hn => by
    obtain rfl : k = 0 := by omega
    exact h
  | n + 1, hn => by
    by_cases e : k = n + 1
    · rw [← e]; exact h
    · rw [togK, togK_false h n (by omega)]; rfl
theorem rightsW_false {dss : List (List Dd)} {k : Nat} (h : rightsW dss k = false) : ∀ n : Nat, k ≤ n → rightsW dss n = false
  | 0, hn => by
    obtain rfl : k = 0 := by omega
    exact h
  | n + 1, hn => by
    by_cases e : k = n + 1
    · rw [← e]; exact h
    · rw [rightsW, rightsW_false h n (by omega)]; rfl
/-- No number is in both. -/
def Dis (a b : Nat) : Prop := ∀ k, a.testBit k = true → b.testBit k = false
theorem dis_iff (a b : Nat) : Dis a b ↔ a &&& b = 0 := by
  constructor
  · intro h
    apply Nat.eq_of_testBit_eq
    intro k
    rw [Nat.testBit_and, Nat.zero_testBit]
    cases ha : a.testBit k
    · rfl
    · rw [h k ha]; rfl
  · intro h k ha
    have h1 : (a &&& b).testBit k = false := by rw [h, Nat.zero_testBit]
    rw [Nat.testBit_and, ha] at h1
    simpa using h1
theorem or_bit (a g k : Nat) : (a ||| 2 ^ g).testBit k = (a.testBit k || decide (g = k)) := by
  rw [Nat.testBit_or, Nat.testBit_two_pow]
theorem set_getD (o : List Int) (g : Nat) (x : Int) (j : Nat) (hg : g < o.length) : (o.set g x).getD j 0 = if g = j then x else o.getD j 0 := by
  rw [List.getD_eq_getElem?_getD, List.getElem?_set]
  by_cases e : g = j
  · subst e; rw [if_pos rfl, if_pos hg, if_pos rfl]; rfl
  · rw [if_neg e, if_neg e, List.getD_eq_getElem?_getD]
theorem okD_grp {d : Dd} (h : okD d = true) : 0 ≤ grD d ∧ grD d ≤ 9 := by
  simp [okD, deedB] at h
  unfold grD
  omega
theorem clerk_same {i : Nat} {own : List Int} {T : Nat} {ds : List Dd} (hl : own.length = 10) (hT : ∀ g, g < 10 → (own.getD g 0 ≠ 0 ↔ T.testBit g = true)) (hi : ∀ g, g < 10 → own.getD g 0 ≠ (i : Int) + 1) (hT0 : T.testBit 0 = false) :
    ∀ k : Nat, (∀ j, j < k → okD (ds.getD j zD) = true) → ∃ G : Nat, G < 4096 ∧ gK ds k = (G : Int) ∧ G.testBit 0 = false ∧ (k = 0 → G = 0) ∧
      (grpK i own ds k = none → togK ds k = false ∨ ¬ Dis G T) ∧
      ∀ o, grpK i own ds k = some o → togK ds k = true ∧ Dis G T ∧ o.length = 10 ∧ ∀ g, g < 10 → o.getD g 0 = if G.testBit g = true then (i : Int) + 1 else own.getD g 0
  | 0, _ => ⟨0, by omega, rfl, by simp, fun _ => rfl, by simp [grpK], by
      intro o ho
      simp only [grpK, Option.some.injEq] at ho
      subst ho
      exact ⟨rfl, fun k hk => by simp at hk, hl, by simp⟩⟩
  | k + 1, hok => by
    obtain ⟨G, hG, hgK, hG0, hz, hN, hS⟩ := clerk_same hl hT hi hT0 k (fun j hj => hok j (by omega))
    obtain ⟨h0, h9⟩ := okD_grp (hok k (by omega))
    obtain ⟨g, hg⟩ := Int.eq_ofNat_of_zero_le h0
    have hgg : (ds.getD k zD).2.2.2 = (g : Int) := hg
    by_cases hg0 : g = 0
    · subst hg0
      have hz0 : (ds.getD k zD).2.2.2 = 0 := hgg
      have e1 : gK ds (k + 1) = (G : Int) := by rw [gK, hg, if_pos (by simp), hgK]
      have e2 : partK ds k = false := by
        have : inSetB (gK ds k) (grD (ds.getD k zD)) = false := by rw [hgK, hg, inSetB_nat G 0 hG (by omega), hG0]
        rw [partK, this, Bool.and_false]
      have e3 : togK ds (k + 1) = togK ds k := by rw [togK, e2]; simp
      have e4 : grpK i own ds (k + 1) = grpK i own ds k := by
        rw [grpK]
        cases hq : grpK i own ds k with
        | none => rfl
        | some o => simp only; rw [if_pos hz0]
      refine ⟨G, hG, e1, hG0, by omega, ?_, ?_⟩
      · rw [e3, e4]; exact hN
      · rw [e3, e4]; exact hS
    · have hgne : (ds.getD k zD).2.2.2 ≠ 0 := by rw [hgg]; omega
      have g9 : g ≤ 9 := by rw [hg] at h9; omega
      have e1 : gK ds (k + 1) = ((G ||| 2 ^ g : Nat) : Int) := by
        rw [gK, hg, if_neg (by omega), hgK, gAdd_nat G g hG (by omega)]
      have e0 : (G ||| 2 ^ g).testBit 0 = false := by rw [or_bit, hG0]; simp [hg0]
      have inS : inSetB (gK ds k) (grD (ds.getD k zD)) = G.testBit g := by rw [hgK, hg, inSetB_nat G g hG (by omega)]
      refine ⟨G ||| 2 ^ g, or_lt G g hG (by omega), e1, e0, by omega, ?_, ?_⟩
      · intro hn
        rw [grpK] at hn
        cases hq : grpK i own ds k with
        | none =>
          rcases hN hq with h | h
          · left; rw [togK, h]; rfl
          · right
            intro hd
            refine h (fun b hb => hd b ?_)
            rw [or_bit, hb]; rfl
        | some o =>
          rw [hq] at hn
          simp only at hn
          rw [if_neg hgne, hgg, Int.toNat_natCast] at hn
          obtain ⟨ht, hd, hlen, ho⟩ := hS o hq
          split at hn
          · rename_i hc
            cases hTg : T.testBit g with
            | true =>
              right
              intro hd2
              have := hd2 g (by rw [or_bit]; simp)
              rw [hTg] at this
              cases this
            | false =>
              left
              have hown : own.getD g 0 = 0 := by
                apply Classical.byContradiction
                intro hne
                rw [(hT g (by omega)).1 hne] at hTg
                cases hTg
              cases hGg : G.testBit g with
              | false =>
                exfalso
                have := ho g (by omega)
                rw [hGg, hown] at this
                exact hc.1 (by simpa using this)
              | true =>
                have hk0 : k ≠ 0 := by
                  intro hk
                  rw [hz hk] at hGg
                  simp at hGg
                have hog := ho g (by omega)
                rw [hGg, if_pos rfl] at hog
                have hp : (ds.getD (k - 1) zD).2.2.2 ≠ (g : Int) := by
                  rcases hc.2 with h | h | h
                  · exact absurd hog h
                  · exact absurd h hk0
                  · exact h
                have : partK ds k = true := by
                  rw [partK, inS, hGg, hg]
                  have hp' : ((g : Int) != grD (ds.getD (k - 1) zD)) = true := by
                    rw [bne_iff_ne]; exact fun e => hp e.symm
                  rw [hp']
                  simp; omega
                rw [togK, this]; simp
          · cases hn
      · intro o' hn
        rw [grpK] at hn
        cases hq : grpK i own ds k with
        | none => rw [hq] at hn; cases hn
        | some o =>
          rw [hq] at hn
          simp only at hn
          rw [if_neg hgne, hgg, Int.toNat_natCast] at hn
          obtain ⟨ht, hd, hlen, ho⟩ := hS o hq
          split at hn
          · cases hn
          · rename_i hc
            simp only [Option.some.injEq] at hn
            subst hn
            have hog := ho g (by omega)
            have hTg : T.testBit g = false := by
              cases hTg : T.testBit g with
              | false => rfl
              | true =>
                exfalso
                have hGg : G.testBit g = false := by
                  cases hGg : G.testBit g with
                  | false => rfl
                  | true => rw [hd g hGg] at hTg; cases hTg
                rw [hGg] at hog
                simp only [Bool.false_eq_true, if_false] at hog
                exact hc ⟨by rw [hog]; exact (hT g (by omega)).2 hTg, .inl (by rw [hog]; exact hi g (by omega))⟩
            refine ⟨?_, ?_, by rw [List.length_set]; exact hlen, ?_⟩
            · have : partK ds k = false := by
                cases hp : partK ds k with
                | false => rfl
                | true =>
                  exfalso
                  rw [partK, inS, hg, Bool.and_eq_true, Bool.and_eq_true, decide_eq_true_eq, bne_iff_ne] at hp
                  obtain ⟨⟨hk, hne⟩, hGg⟩ := hp
                  rw [hGg, if_pos rfl] at hog
                  exact hc ⟨by rw [hog]; omega, .inr (.inr (fun e => hne e.symm))⟩
              rw [togK, ht, this]; rfl
            · intro b hb
              rw [or_bit, Bool.or_eq_true, decide_eq_true_eq] at hb
              rcases hb with hb | rfl
              · exact hd b hb
              · exact hTg
            · intro j hj
              rw [set_getD o g _ j (by omega), or_bit]
              by_cases e : g = j
              · subst e; simp
              · rw [if_neg e, ho j hj]; simp [e]
theorem work_same {dss : List (List Dd)} : ∀ n : Nat, (∀ i, i < n → okL (dss.getD i []) = true) → ∃ T : Nat, T < 4096 ∧ takW dss n = (T : Int) ∧ T.testBit 0 = false ∧
      (grpW dss n = none → rightsW dss n = false) ∧
      ∀ o, grpW dss n = some o → rightsW dss n = true ∧ o.length = 10 ∧ (∀ g, g < 10 → (o.getD g 0 ≠ 0 ↔ T.testBit g = true)) ∧ ∀ g, g < 10 → 0 ≤ o.getD g 0 ∧ o.getD g 0 ≤ (n : Int)
  | 0, _ => ⟨0, by omega, rfl, by simp, by simp [grpW], by
      intro o ho
      simp only [grpW, Option.some.injEq] at ho
      subst ho
      refine ⟨rfl, by simp, fun g hg => ?_, fun g hg => ?_⟩
      · rw [List.getD_eq_getElem?_getD, List.getElem?_replicate, if_pos hg]; simp
      · rw [List.getD_eq_getElem?_getD, List.getElem?_replicate, if_pos hg]; simp⟩
  | n + 1, hok => by
    obtain ⟨T, hT, htk, hT0, hN, hS⟩ := work_same n (fun i hi => hok i (by omega))
    have okn := hok n (by omega)
    simp only [okL, Bool.and_eq_true, decide_eq_true_eq] at okn
    have hall := okn.1
    have hok2 : ∀ j, j < (dss.getD n []).length → okD ((dss.getD n []).getD j zD) = true := fun j hj => all_get zD hall j hj
    obtain ⟨G0, hG0, hgK0, hG00, -⟩ := clerk_same (i := 0) (own := List.replicate 10 0) (T := 0) (ds := dss.getD n []) (by simp) (fun g hg => by rw [List.getD_eq_getElem?_getD, List.getElem?_replicate, if_pos hg]; simp) (fun g hg => by rw [List.getD_eq_getElem?_getD, List.getElem?_replicate, if_pos hg]; simp) (by simp) (dss.getD n []).length hok2
    have hor : takW dss (n + 1) = ((T ||| G0 : Nat) : Int) := by
      rw [takW, htk, gC, hgK0, i64_or_nat T G0 (by omega) (by omega)]
    have hand : bits .and .i64 (gC (dss.getD n [])) (takW dss n) = ((G0 &&& T : Nat) : Int) := by
      rw [gC, hgK0, htk, i64_and_nat G0 T (by omega) (by omega)]
    have hR : rightB (dss.getD n []) (takW dss n) = (togK (dss.getD n []) (dss.getD n []).length && decide (G0 &&& T = 0)) := by
      rw [rightB, hall, decide_eq_true okn.2, hand]
      simp only [Bool.true_and]
      congr 1
      rw [Bool.eq_iff_iff, beq_iff_eq, decide_eq_true_eq]
      omega
    refine ⟨T ||| G0, Nat.or_lt_two_pow (n := 12) hT hG0, hor, by rw [Nat.testBit_or, hT0, hG00]; rfl, ?_, ?_⟩
    · intro hn
      rw [grpW] at hn
      cases hq : grpW dss n with
      | none => rw [rightsW, hN hq]; rfl
      | some o =>
        rw [hq] at hn
        simp only at hn
        obtain ⟨hr, hl, hb, hle⟩ := hS o hq
        obtain ⟨G, hG, hgK, -, -, hN2, -⟩ := clerk_same (i := n) (own := o) (T := T) (ds := dss.getD n []) hl hb (fun g hg => by have := hle g hg; omega) hT0 (dss.getD n []).length hok2
        obtain rfl : G = G0 := by rw [hgK0] at hgK; omega
        rw [rightsW, hr, hR]
        rcases hN2 hn with h | h
        · rw [h]; rfl
        · rw [decide_eq_false (fun e => h ((dis_iff _ _).2 e))]; simp
    · intro o' hn
      rw [grpW] at hn
      cases hq : grpW dss n with
      | none => rw [hq] at hn; cases hn
      | some o =>
        rw [hq] at hn
        simp only at hn
        obtain ⟨hr, hl, hb, hle⟩ := hS o hq
        obtain ⟨G, hG, hgK, -, -, -, hS2⟩ := clerk_same (i := n) (own := o) (T := T) (ds := dss.getD n []) hl hb (fun g hg => by have := hle g hg; omega) hT0 (dss.getD n []).length hok2
        obtain rfl : G = G0 := by rw [hgK0] at hgK; omega
        obtain ⟨h1, h2, h3, h4⟩ := hS2 o' hn
        refine ⟨by rw [rightsW, hr, hR, h1, decide_eq_true ((dis_iff _ _).1 h2)]; rfl, h3, fun g hg => ?_, fun g hg => ?_⟩
        · rw [h4 g hg, Nat.testBit_or, Bool.or_eq_true]
          cases hGg : G.testBit g
          · simp only [Bool.false_eq_true, if_false, or_false]; exact hb g hg
          · simp only [if_true, or_true, iff_true]; omega
        · rw [h4 g hg]
          have := hle g hg
          split <;> omega
/-- The program's test is the specification's. -/
theorem rights_same {dss : List (List Dd)} (h : dss.all okL = true) : rightsW dss dss.length = grpB dss := by
  obtain ⟨T, -, -, -, hN, hS⟩ := work_same (dss := dss) dss.length (fun i hi => all_get [] h i hi)
  rw [grpB]
  cases hq : grpW dss dss.length with
  | none => rw [hN hq]; rfl
  | some o => rw [(hS o hq).1]; rfl
theorem rights_okL {dss : List (List Dd)} (h : rightsW dss dss.length = true) : dss.all okL = true := by
  refine all_of [] (fun i hi => ?_)
  cases hb : rightsW dss (i + 1) with
  | false => rw [rightsW_false hb _ hi] at h; cases h
  | true =>
    rw [rightsW, Bool.and_eq_true] at hb
    have := hb.2
    simp only [rightB, Bool.and_eq_true] at this
    rw [okL, this.1.1.2, Bool.true_and]
    exact this.1.1.1
theorem work_rights (dss : List (List Dd)) : workB dss = (decide (1 ≤ dss.length ∧ dss.length ≤ 3) && rightsW dss dss.length && decide (lenW dss ≤ 12) && decide (evW dss dss.length ≤ 6)) := by
  rw [workB]
  cases h : dss.all okL with
  | true =>
    rw [rights_same h]
    cases grpB dss <;> simp
  | false =>
    cases hr : rightsW dss dss.length with
    | false => simp
    | true => rw [rights_okL hr] at h; cases h
end Go.Proofs.YtkbkdlaknmgjpaaGreat

/- Contracts of the program's DeedOk and of what it calls: it answers whether four numbers are a deed, and turns nothing. -/
namespace Go.Proofs.YtkbkdlaknmgjpaaGreat
open Go.ChangeShapes Go.WideShapes Go.ChangeAt Go.RowKit

theorem isFrom_any (lo x hi : Int) (w : World) :
    Calls Tryz.prog 131 #[.int .i64 lo, .int .i64 x, .int .i64 hi] w fun e w' => e = .returned (.bool (inB x lo hi)) ∧ w' = w := by
  go_enter Tryz.func131, Tryz.ntmps131
  go_wp2
  all_goals
    go_ret
    exact ⟨ret_bool (by rw [Bool.eq_iff_iff]; unfold inB; simp; omega), rfl⟩
/-- The greatest of each number, by the kind; the least value. -/
def mostP (k : Int) : Int := if k = 1 ∨ k = 2 ∨ k = 3 then 2 else 0
def mostV (k : Int) : Int := if k = 2 ∨ k = 3 then 9 else 0
def leastV (k : Int) : Int := if k = 2 ∨ k = 3 then 1 else 0
def mostG (k : Int) : Int := if k = 1 ∨ k = 2 then 9 else 0
theorem limits_any (k : Int) (w : World) :
    Calls Tryz.prog 182 #[.int .i64 k] w fun e w' => e = .returned (.tuple #[deedV 1 0 (leastV k) 0, deedV 4 (mostP k) (mostV k) (mostG k)]) ∧ Keep w w' := by
  have hk : k = 1 ∨ k = 2 ∨ k = 3 ∨ (¬ k = 1 ∧ ¬ k = 2 ∧ ¬ k = 3) := by omega
  rcases hk with rfl | rfl | rfl | ⟨h1, h2, h3⟩
  all_goals
    go_enter Tryz.func182, Tryz.ntmps182
    go_wp2
    go_region
    go_wp2
    refine bodyPost_ret (results_row2 (by rfl) _ _ _ _ _ _ _ _ _ _ _ rfl (by simp only [heap_at, heap_drew, heap_size]; repeat (first | exact if_pos rfl | exact if_pos trivial | rw [if_neg (by omega)])) rfl (by simp only [heap_at, heap_drew, heap_size]; repeat (first | exact if_pos rfl | exact if_pos trivial | rw [if_neg (by omega)])) Tryz.underlying96 rfl (by kernel_rfl) (by kernel_rfl)) rfl ?_
    refine ⟨?_, (((((Keep.refl w).alloc _).alloc _).alloc _).alloc _).drew⟩
    first | rfl | simp [deedV, leastV, mostP, mostV, mostG, h1, h2, h3]
theorem deedB_from (k p v g : Int) : deedB k p v g = (inB k 1 4 && inB p 0 (mostP k) && inB v (leastV k) (mostV k) && inB g 0 (mostG k)) := by
  have hk : k = 1 ∨ k = 2 ∨ k = 3 ∨ k = 4 ∨ ¬ (1 ≤ k ∧ k ≤ 4) := by omega
  rw [Bool.eq_iff_iff]
  rcases hk with rfl | rfl | rfl | rfl | h
  all_goals
    simp [deedB, inB, mostP, mostV, leastV, mostG]
    omega
theorem implDeedOk_any (k p v g : Int) (w : World) :
    Calls Tryz.prog 177 #[deedV k p v g] w fun e w' => e = .returned (.bool (deedB k p v g)) ∧ Keep w w' := by
  rw [deedB_from]
  unfold deedV
  go_enter Tryz.func177, Tryz.ntmps177
  go_wp2_with fail
  refine (limits_any _ _).mono ?_
  rintro e w1 ⟨rfl, k1⟩
  have hs := box_size k1
  have c0 : w1.cell? ⟨w.heap.size, 0, none⟩ = some (.int .i64 k) := box_cell k1 0
  have c1 : w1.cell? ⟨w.heap.size, 1, none⟩ = some (.int .i64 p) := box_cell k1 1
  have c2 : w1.cell? ⟨w.heap.size, 2, none⟩ = some (.int .i64 v) := box_cell k1 2
  have c3 : w1.cell? ⟨w.heap.size, 3, none⟩ = some (.int .i64 g) := box_cell k1 3
  have K1 : Keep w w1 := ((Keep.refl w).alloc _).trans k1
  clear k1
  go_wp2_with (go_at_call 131; refine (isFrom_any _ _ _ _).mono ?_; rintro e w' ⟨rfl, rfl⟩)
  all_goals
    go_ret
    exact ⟨ret_bool (by simp [*]), (K1.alloc _).alloc _⟩
end Go.Proofs.YtkbkdlaknmgjpaaGreat

/- Contracts of the program's deeds: how many they are, their events, their Groups, whether each is right. -/
namespace Go.Proofs.YtkbkdlaknmgjpaaGreat
open Go.ChangeShapes Go.WideShapes Go.ChangeAt Go.RowKit

theorem setAnd_bits (s t : Int) (w : World) :
    Calls Tryz.prog 166 #[.int .i64 s, .int .i64 t] w fun e w' => e = .returned (.int .i64 (bits .and .i64 s t)) ∧ w' = w := by
  go_enter Tryz.func166, Tryz.ntmps166
  go_wp2
  go_ret
  exact ⟨rfl, rfl⟩
theorem setOr_bits (s t : Int) (w : World) :
    Calls Tryz.prog 97 #[.int .i64 s, .int .i64 t] w fun e w' => e = .returned (.int .i64 (bits .or .i64 s t)) ∧ w' = w := by
  go_enter Tryz.func97, Tryz.ntmps97
  go_wp2
  go_ret
  exact ⟨rfl, rfl⟩
theorem count_any (a : Option Addr) (n c : Nat) (w : World) :
    Calls Tryz.prog 133 #[.slice a n c] w fun e w' => e = .returned (.int .i64 (n : Int)) ∧ w' = w := by
  go_enter Tryz.func133, Tryz.ntmps133
  go_wp2
  go_ret
  exact ⟨rfl, rfl⟩
theorem evD_cases (d : Dd) : (d.1 = 3 ∧ evD d = 2) ∨ (d.1 = 1 ∧ evD d = 1) ∨ (d.1 = 2 ∧ evD d = 1) ∨ (¬ d.1 = 3 ∧ ¬ d.1 = 1 ∧ ¬ d.1 = 2 ∧ evD d = 0) := by
  unfold evD
  repeat' split
  all_goals omega
set_option maxRecDepth 100000 in
set_option maxHeartbeats 2000000 in
theorem events_any (w : World) (v : Value) (ds : List Dd) (h : RdD w v ds) (hx : ds.length ≤ 1048576) :
    Calls Tryz.prog 134 #[v] w fun e w' => e = .returned (.int .i64 (evK ds ds.length)) ∧ Keep w w' := by
  obtain ⟨a, c, rfl, h⟩ := h
  go_enter Tryz.func134, Tryz.ntmps134
  go_wp2
  go_loopw [3, 8] (fun n i wr => ∃ k : Nat, ∃ m : Int, k ≤ ds.length ∧ n = .int .i64 m ∧ i = .int .i64 k ∧ Hid (m = evK ds k) ∧ 0 ≤ m ∧ m ≤ 2 * k ∧ Keep w wr) (fun _ i _ => ds.length - (intOf i).toNat)
  case atStart => exact ⟨0, 0, Nat.zero_le _, rfl, rfl, Lib.hid rfl, by omega, by omega, Keep.refl _⟩
  case round =>
    obtain ⟨k, m, hk, rfl, rfl, hm, m0, m1, hK⟩ := hrel
    by_cases hlt : k < ds.length
    · rcases h with h | ⟨b, o, rfl, hb, hc⟩
      · exfalso; rw [h] at hlt; simp at hlt
      obtain ⟨A0, A1, A2, A3⟩ := (hc k hlt).keep hb hK
      clear hc
      have HE : Hid (m + evD (ds.getD k zD) = evK ds (k + 1)) := Lib.hid (by rw [evK, hm.out])
      have CS := evD_cases (ds.getD k zD)
      clear hm
      obtain ⟨d, hd⟩ : ∃ d, d = ds.getD k zD := ⟨_, rfl⟩
      rw [← hd] at A0 A1 A2 A3 HE CS
      clear hd
      obtain ⟨x0, x1, x2, x3⟩ := d
      simp only at A0 A1 A2 A3 CS
      have hbw : b < wr.heap.size := Nat.lt_of_lt_of_le hb hK.size
      have i1 : (0 : Int) ≤ (k : Int) := Int.natCast_nonneg _
      have i2 : (k : Int) < (ds.length : Int) := by omega
      rcases CS with ⟨rfl, e⟩ | ⟨rfl, e⟩ | ⟨rfl, e⟩ | ⟨n3, n1, n2, e⟩
      · rw [e] at HE
        clear e
        go_wp2
        go_roundw
        case rel => exact ⟨k + 1, m + 2, by omega, by go_num, by go_num, HE, by omega, by omega, hK.alloc _⟩
        case measure => simp [intOf]; omega
      · rw [e] at HE
        clear e
        go_wp2
        go_roundw
        case rel => exact ⟨k + 1, m + 1, by omega, by go_num, by go_num, HE, by omega, by omega, hK.alloc _⟩
        case measure => simp [intOf]; omega
      · rw [e] at HE
        clear e
        go_wp2
        go_roundw
        case rel => exact ⟨k + 1, m + 1, by omega, by go_num, by go_num, HE, by omega, by omega, hK.alloc _⟩
        case measure => simp [intOf]; omega
      · rw [e, Int.add_zero] at HE
        clear e
        have e3 : (x0 == 3) = false := by simp [n3]
        have e1 : (x0 == 1) = false := by simp [n1]
        have e2 : (x0 == 2) = false := by simp [n2]
        clear n3 n1 n2
        go_wp2
        go_roundw
        case rel => exact ⟨k + 1, m, by omega, by go_num, by go_num, HE, by omega, by omega, hK.alloc _⟩
        case measure => simp [intOf]; omega
    · obtain rfl : k = ds.length := by omega
      go_wp2
      go_ret
      exact ⟨by rw [hm.out]; rfl, hK⟩
set_option maxRecDepth 100000 in
set_option maxHeartbeats 2000000 in
theorem groups_any (w : World) (v : Value) (ds : List Dd) (h : RdD w v ds) (hx : ds.length ≤ 1048576) :
    Calls Tryz.prog 135 #[v] w fun e w' => e = .returned (.int .i64 (gC ds)) ∧ Keep w w' := by
  obtain ⟨a, c, rfl, h⟩ := h
  go_enter Tryz.func135, Tryz.ntmps135
  go_wp2
  go_loopw [3, 8] (fun n i wr => ∃ k : Nat, ∃ m : Int, k ≤ ds.length ∧ n = .int .i64 m ∧ i = .int .i64 k ∧ Hid (m = gK ds k) ∧ Keep w wr) (fun _ i _ => ds.length - (intOf i).toNat)
  case atStart => exact ⟨0, 0, Nat.zero_le _, rfl, rfl, Lib.hid rfl, Keep.refl _⟩
  case round =>
    obtain ⟨k, m, hk, rfl, rfl, hm, hK⟩ := hrel
    by_cases hlt : k < ds.length
    · rcases h with h | ⟨b, o, rfl, hb, hc⟩
      · exfalso; rw [h] at hlt; simp at hlt
      obtain ⟨A0, A1, A2, A3⟩ := (hc k hlt).keep hb hK
      clear hc
      have HE : Hid (gK ds (k + 1) = if grD (ds.getD k zD) = 0 then m else gAdd m (grD (ds.getD k zD))) := Lib.hid (by rw [gK, hm.out])
      clear hm
      obtain ⟨d, hd⟩ : ∃ d, d = ds.getD k zD := ⟨_, rfl⟩
      rw [← hd] at A0 A1 A2 A3 HE
      clear hd
      obtain ⟨x0, x1, x2, x3⟩ := d
      unfold grD at HE
      simp only at A0 A1 A2 A3 HE
      have hbw : b < wr.heap.size := Nat.lt_of_lt_of_le hb hK.size
      have i1 : (0 : Int) ≤ (k : Int) := Int.natCast_nonneg _
      have i2 : (k : Int) < (ds.length : Int) := by omega
      by_cases h0 : x3 = 0
      · subst h0
        go_wp2
        go_roundw
        case rel => exact ⟨k + 1, m, by omega, by go_num, by go_num, Lib.hid (by rw [HE.out, if_pos rfl]), hK.alloc _⟩
        case measure => simp [intOf]; omega
      · have e0 : (x3 != 0) = true := by simp [h0]
        have HF : Hid (gK ds (k + 1) = gAdd m x3) := Lib.hid (by rw [HE.out, if_neg h0])
        clear h0 HE
        go_wp2_with fail
        refine (with_any _ _ _).mono ?_
        rintro e wz ⟨rfl, rfl⟩
        go_wp2
        go_roundw
        case rel => exact ⟨k + 1, _, by omega, rfl, by go_num, Lib.hid HF.out.symm, hK.alloc _⟩
        case measure => simp [intOf]; omega
    · obtain rfl : k = ds.length := by omega
      go_wp2
      go_ret
      exact ⟨by rw [hm.out]; rfl, hK⟩
theorem all_moreC {α : Type} {f : α → Bool} {l : List α} {k : Nat} (z : α) (h : k < l.length) (h1 : (l.take k).all f = true) (h2 : f (l.getD k z) = true) : (l.take (k + 1)).all f = true := by
  rw [List.take_add_one, List.getElem?_eq_getElem h, List.all_append, h1]
  rw [List.getD_eq_getElem?_getD, List.getElem?_eq_getElem h] at h2
  simpa using h2
set_option maxRecDepth 100000 in
set_option maxHeartbeats 2000000 in
theorem areRight_any (w : World) (v : Value) (ds : List Dd) (h : RdD w v ds) (hx : ds.length ≤ 1048576) :
    Calls Tryz.prog 164 #[v] w fun e w' => e = .returned (.bool (ds.all okD)) ∧ Keep w w' := by
  obtain ⟨a, c, rfl, h⟩ := h
  go_enter Tryz.func164, Tryz.ntmps164
  go_wp2
  go_loopw [7] (fun i wr => ∃ k : Nat, k ≤ ds.length ∧ i = .int .i64 k ∧ Hid ((ds.take k).all okD = true) ∧ Keep w wr) (fun i _ => ds.length - (intOf i).toNat)
  case atStart => exact ⟨0, Nat.zero_le _, rfl, Lib.hid (by simp), Keep.refl _⟩
  case round =>
    obtain ⟨k, hk, rfl, hm, hK⟩ := hrel
    by_cases hlt : k < ds.length
    · rcases h with h | ⟨b, o, rfl, hb, hc⟩
      · exfalso; rw [h] at hlt; simp at hlt
      obtain ⟨A0, A1, A2, A3⟩ := (hc k hlt).keep hb hK
      clear hc
      have HT : okD (ds.getD k zD) = true → Hid ((ds.take (k + 1)).all okD = true) := fun e => Lib.hid (all_moreC zD hlt hm.out e)
      have HF : okD (ds.getD k zD) = false → Hid (ds.all okD = false) := fun e => Lib.hid (all_not zD k hlt e)
      clear hm
      obtain ⟨d, hd⟩ : ∃ d, d = ds.getD k zD := ⟨_, rfl⟩
      rw [← hd] at A0 A1 A2 A3 HT HF
      clear hd
      obtain ⟨x0, x1, x2, x3⟩ := d
      simp only at A0 A1 A2 A3
      have hbw : b < wr.heap.size := Nat.lt_of_lt_of_le hb hK.size
      have i1 : (0 : Int) ≤ (k : Int) := Int.natCast_nonneg _
      have i2 : (k : Int) < (ds.length : Int) := by omega
      cases hd : deedB x0 x1 x2 x3
      · have HE := HF hd
        clear HT HF
        go_wp2_with fail
        refine (implDeedOk_any _ _ _ _ _).mono ?_
        rintro e wz ⟨rfl, kk⟩
        go_wp2
        go_ret
        exact ⟨by rw [HE.out]; rfl, (hK.alloc _).trans kk⟩
      · have HE := HT hd
        clear HT HF
        go_wp2_with fail
        refine (implDeedOk_any _ _ _ _ _).mono ?_
        rintro e wz ⟨rfl, kk⟩
        go_wp2
        go_roundw
        case rel => exact ⟨k + 1, by omega, by go_num, HE, (hK.alloc _).trans kk⟩
        case measure => simp [intOf]; omega
    · obtain rfl : k = ds.length := by omega
      rw [List.take_length] at hm
      go_wp2
      go_ret
      exact ⟨by rw [hm.out]; rfl, hK⟩
end Go.Proofs.YtkbkdlaknmgjpaaGreat

/- Contract of the program's areTogether: no Group begins a second time. -/
namespace Go.Proofs.YtkbkdlaknmgjpaaGreat
open Go.ChangeShapes Go.WideShapes Go.ChangeAt Go.RowKit

abbrev boxD (x0 x1 x2 x3 : Int) : Obj := .cells #[.int .i64 x0, .int .i64 x1, .int .i64 x2, .int .i64 x3] 96
theorem RdD.cut {w : World} {b o : Nat} {ds : List Dd} {c k : Nat} (hk : k ≤ ds.length) (hb : b < w.heap.size) (hc : ∀ i, i < ds.length → AtD w b (o + i * 4) (ds.getD i zD)) :
    RdD w (.slice (some ⟨b, o, none⟩) k (ds.length + c)) (ds.take k) := by
  refine ⟨some ⟨b, o, none⟩, ds.length + c - k, ?_, .inr ⟨b, o, rfl, hb, fun i hi => ?_⟩⟩
  · rw [List.length_take, Nat.min_eq_left hk]
    congr 1
    omega
  · rw [List.length_take] at hi
    rw [take_getD ds k i zD (by omega)]
    exact hc i (by omega)
theorem tog_on {ds : List Dd} {k : Nat} (h : togK ds k = true) (hp : partK ds k = false) : togK ds (k + 1) = true := by rw [togK, h, hp]; rfl
theorem tog_off {ds : List Dd} {k : Nat} (hk : k < ds.length) (hp : partK ds k = true) : togK ds ds.length = false := by
  refine togK_false (k := k + 1) ?_ _ hk
  rw [togK, hp]; simp
set_option maxRecDepth 100000 in
set_option maxHeartbeats 4000000 in
theorem areTogether_any (w : World) (v : Value) (ds : List Dd) (h : RdD w v ds) (hx : ds.length ≤ 1048576) :
    Calls Tryz.prog 165 #[v] w fun e w' => e = .returned (.bool (togK ds ds.length)) ∧ Keep w w' := by
  obtain ⟨a, c, rfl, h⟩ := h
  go_enter Tryz.func165, Tryz.ntmps165
  go_wp2
  go_loopw [3, 7] (fun j i wr => ∃ k : Nat, k ≤ ds.length ∧ i = .int .i64 k ∧ Hid (togK ds k = true) ∧ Keep w wr) (fun _ i _ => ds.length - (intOf i).toNat)
  case atStart => exact ⟨0, Nat.zero_le _, rfl, Lib.hid rfl, Keep.refl _⟩
  case round =>
    obtain ⟨k, hk, rfl, hm, hK⟩ := hrel
    by_cases hlt : k < ds.length
    · rcases h with h | ⟨b, o, rfl, hb, hc⟩
      · exfalso; rw [h] at hlt; simp at hlt
      obtain ⟨A0, A1, A2, A3⟩ := (hc k hlt).keep hb hK
      have hbw : b < wr.heap.size := Nat.lt_of_lt_of_le hb hK.size
      have i1 : (0 : Int) ≤ (k : Int) := Int.natCast_nonneg _
      have i2 : (k : Int) < (ds.length : Int) := by omega
      have HP : Hid (partK ds k = (decide (0 < k) && (grD (ds.getD k zD) != grD (ds.getD (k - 1) zD)) && inSetB (gK ds k) (grD (ds.getD k zD)))) := Lib.hid rfl
      by_cases h0 : k = 0
      · have HT := Lib.hid (tog_on hm.out (by rw [HP.out]; simp [h0]))
        have d0 : decide (0 < k) = false := by simp [h0]
        clear hm HP hc
        obtain ⟨d, hd⟩ : ∃ d, d = ds.getD k zD := ⟨_, rfl⟩
        rw [← hd] at A0 A1 A2 A3
        clear hd h0
        obtain ⟨x0, x1, x2, x3⟩ := d
        simp only at A0 A1 A2 A3
        go_wp2
        go_quiet (fail)
        go_wp2
        go_roundw
        case rel => exact ⟨k + 1, by omega, by go_num, HT, (hK.alloc _).drewN _⟩
        case measure => simp [intOf]; omega
      · obtain ⟨r, rfl⟩ : ∃ r : Nat, k = r + 1 := ⟨k - 1, by omega⟩
        rw [Nat.add_sub_cancel] at HP
        have B3 := ((hc r (by omega)).keep hb hK).2.2.2
        have RT : RdD w (.slice (some ⟨b, o, none⟩) (r + 1) (ds.length + c)) (ds.take (r + 1)) := RdD.cut (by omega) hb hc
        have HG := Lib.hid (gC_take ds (r + 1) (by omega))
        have HL := Lib.hid (show (ds.take (r + 1)).length = r + 1 by rw [List.length_take]; omega)
        clear hc
        have j1 : (0 : Int) ≤ (r : Int) := Int.natCast_nonneg _
        have j2 : (r : Int) < (ds.length : Int) := by omega
        have d2 : (r : Int) + 1 < (ds.length : Int) := by omega
        have d5 : (r : Int) + 1 ≤ (ds.length : Int) + (c : Int) := by omega
        have d6 : (0 : Int) ≤ (r : Int) + 1 := by omega
        have d7 : ((r + 1 : Nat) : Int) ≤ ((ds.length + c : Nat) : Int) := by omega
        have d3 : IntKind.i64.wrap (r : Int) = (r : Int) := by rw [IntKind.wrap_i64]; omega
        have d4 : wrap64 (r : Int) = (r : Int) := wrap64_small _ (by omega) (by omega)
        obtain ⟨d, hd⟩ : ∃ d, d = ds.getD (r + 1) zD := ⟨_, rfl⟩
        rw [← hd] at A0 A1 A2 A3 HP
        clear hd
        obtain ⟨p, hp⟩ : ∃ p, p = (ds.getD r zD).2.2.2 := ⟨_, rfl⟩
        rw [← hp] at B3
        have HQ : Hid (grD (ds.getD r zD) = p) := Lib.hid (by rw [hp]; rfl)
        clear hp
        rw [HQ.out] at HP
        clear HQ
        obtain ⟨x0, x1, x2, x3⟩ := d
        unfold grD at HP
        simp only at A0 A1 A2 A3 HP
        by_cases he : x3 = p
        · subst he
          have HT := Lib.hid (tog_on hm.out (by rw [HP.out]; simp))
          have ne : (x3 != x3) = false := by simp
          clear HP hm
          go_wp2
          go_quiet (fail)
          go_wp2
          go_roundw
          case rel => exact ⟨r + 1 + 1, by omega, by go_num, HT, (hK.alloc _).drewN _⟩
          case measure => simp [intOf]; omega
        · have ne : (x3 != p) = true := by simp [he]
          clear he
          cases hin : inSetB (gK ds (r + 1)) x3
          · have HT := Lib.hid (tog_on hm.out (by rw [HP.out, hin]; simp))
            clear HP hm
            go_wp2
            have KK : Keep w ((wr.alloc (boxD x0 x1 x2 x3)).drew) := (hK.alloc _).drew
            have z1 : wr.heap.size < ((wr.alloc (boxD x0 x1 x2 x3)).drew).heap.size := by rw [heap_drew, heap_size]; omega
            have z2 : b < ((wr.alloc (boxD x0 x1 x2 x3)).drew).heap.size := by rw [heap_drew, heap_size]; omega
            go_region_held3 (fun w' => w'.cell? ⟨wr.heap.size, 3, none⟩ = some (.int .i64 x3) ∧ w'.cell? ⟨b, o + r * 4 + 3, none⟩ = some (.int .i64 p))
              (first | go_keep | (go_split_ands; refine ⟨?_, ?_⟩ <;> (rw [kk.cell (by assumption)]; assumption)))
              ((first
                | (go_at_call 135; refine (groups_any _ _ _ (RT.keep KK) (by rw [HL.out]; omega)).mono ?_; rw [HG.out]; rintro e wz ⟨rfl, kk⟩; have KK := KK.trans kk; have z1 := Nat.lt_of_lt_of_le z1 kk.size; have z2 := Nat.lt_of_lt_of_le z2 kk.size)
                | (go_at_call 60; refine (has_any _ _ _).mono ?_; rintro e wy ⟨rfl, rfl⟩)))
            all_goals
              go_wp2
              go_roundw
              case rel => exact ⟨r + 1 + 1, by omega, by go_num, HT, KK⟩
              case measure => simp [intOf]; omega
          · have HT := Lib.hid (tog_off hlt (by rw [HP.out, hin, ne]; simp))
            clear HP hm
            go_wp2
            have KK : Keep w ((wr.alloc (boxD x0 x1 x2 x3)).drew) := (hK.alloc _).drew
            have z1 : wr.heap.size < ((wr.alloc (boxD x0 x1 x2 x3)).drew).heap.size := by rw [heap_drew, heap_size]; omega
            have z2 : b < ((wr.alloc (boxD x0 x1 x2 x3)).drew).heap.size := by rw [heap_drew, heap_size]; omega
            go_region_held3 (fun w' => w'.cell? ⟨wr.heap.size, 3, none⟩ = some (.int .i64 x3) ∧ w'.cell? ⟨b, o + r * 4 + 3, none⟩ = some (.int .i64 p))
              (first | go_keep | (go_split_ands; refine ⟨?_, ?_⟩ <;> (rw [kk.cell (by assumption)]; assumption)))
              ((first
                | (go_at_call 135; refine (groups_any _ _ _ (RT.keep KK) (by rw [HL.out]; omega)).mono ?_; rw [HG.out]; rintro e wz ⟨rfl, kk⟩; have KK := KK.trans kk; have z1 := Nat.lt_of_lt_of_le z1 kk.size; have z2 := Nat.lt_of_lt_of_le z2 kk.size)
                | (go_at_call 60; refine (has_any _ _ _).mono ?_; rintro e wy ⟨rfl, rfl⟩)))
            all_goals
              go_wp2
              go_ret
              exact ⟨by rw [HT.out]; rfl, KK⟩
    · obtain rfl : k = ds.length := by omega
      go_wp2
      go_ret
      exact ⟨by rw [hm.out]; rfl, hK⟩
end Go.Proofs.YtkbkdlaknmgjpaaGreat

/- A region that draws its order, walked by hand: one operation taken first, or passed by where its guard is false; the slot that it fills is named. -/
namespace Go.Proofs.YtkbkdlaknmgjpaaGreat
open Go

section
variable {P : Program} {md : Region.Mode} {ops : Array Oper} {Q : Exit → Act → World → Prop} {S : World → Prop}
theorem takeH (i d : Nat) {oi : Oper} {v : Value} {fuel : Nat} {listed : Array Bool} {a : Act} {w : World} (hi : ops[i]? = some oi) (hd : oi.dst = some d)
    (hs : Region.noSelect ops = true) (hf : Region.free md ops listed i = true) (hr : (Region.ready md ops listed).contains i = true)
    (hQ : ∀ c a w, Q (.panic c) (a.put (some d) v) w → Q (.panic c) a w) (hw : Region.wanted oi (yielded ops a.tmps) = true) (hy : ∀ w, S w → (execOp a.eval oi).run P w = .ok (.value v) w) (hS : S w)
    (h : wpAnyH P md ops Q S fuel (listed.setIfInBounds i true) (a.put (some d) v) w) : wpAnyH P md ops Q S (fuel + 1) listed a w := by
  rw [← hd] at hQ h
  exact wpAnyH_take hi hs hf hr hQ (Or.inl ⟨hw, hy⟩) hS h
theorem skipH (i d : Nat) {oi : Oper} {fuel : Nat} {listed : Array Bool} {a : Act} {w : World} (hi : ops[i]? = some oi) (hd : oi.dst = some d)
    (hs : Region.noSelect ops = true) (hf : Region.free md ops listed i = true) (hr : (Region.ready md ops listed).contains i = true)
    (hQ : ∀ c a w, Q (.panic c) (a.put (some d) undef) w → Q (.panic c) a w) (hw : Region.wanted oi (yielded ops a.tmps) = false) (hS : S w)
    (h : wpAnyH P md ops Q S fuel (listed.setIfInBounds i true) (a.put (some d) undef) w) : wpAnyH P md ops Q S (fuel + 1) listed a w := by
  rw [← hd] at hQ h
  exact wpAnyH_take hi hs hf hr hQ (Or.inr ⟨hw, rfl⟩) hS h
end
end Go.Proofs.YtkbkdlaknmgjpaaGreat
