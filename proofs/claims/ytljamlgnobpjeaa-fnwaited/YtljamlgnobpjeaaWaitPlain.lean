/- Plain mathematics of Waited: waits between each two deeds, and no groups. -/
import Derived.Test.YtljamlgnobpjeaaWorkPlain
namespace Go.Proofs.Ytljamlgnobpjeaa

def waitD : Dd := (4, 0, 0, 0)
def bareD (d : Dd) : Dd := (d.1, d.2.1, d.2.2.1, 0)
/-- What Waited has made of the first k deeds of a clerk. -/
def waitK (ds : List Dd) : Nat → List Dd
  | 0 => []
  | k + 1 => if (ds.getD k zD).1 = 4 then waitK ds k else if waitK ds k = [] then [bareD (ds.getD k zD)] else waitK ds k ++ [waitD] ++ [bareD (ds.getD k zD)]
def waitC (ds : List Dd) : List Dd := waitK ds ds.length
def waitW (dss : List (List Dd)) : List (List Dd) := dss.map waitC
def waitB (dss : List (List Dd)) : List (List Dd) := if workB dss = true then (if workB (waitW dss) = true then waitW dss else []) else []
def btw : List Dd → List Dd
  | [] => []
  | [d] => [d]
  | d :: e :: r => d :: waitD :: btw (e :: r)
def strip : List Dd → List Dd
  | [] => []
  | d :: r => if d.1 = 4 then strip r else bareD d :: strip r
theorem btw_cons (d : Dd) {r : List Dd} (h : r ≠ []) : btw (d :: r) = d :: waitD :: btw r := by
  cases r with
  | nil => exact absurd rfl h
  | cons e r => rfl
theorem btw_snoc (d : Dd) : ∀ {l : List Dd}, l ≠ [] → btw (l ++ [d]) = btw l ++ [waitD] ++ [d]
  | [], h => absurd rfl h
  | [e], _ => rfl
  | e :: f :: r, _ => by
    rw [List.cons_append, btw_cons e (by simp), btw_snoc d (l := f :: r) (by simp), btw_cons e (by simp)]
    simp
theorem btw_nil {l : List Dd} : btw l = [] ↔ l = [] := by
  cases l with
  | nil => simp [btw]
  | cons d r =>
    cases r with
    | nil => simp [btw]
    | cons e r => simp [btw]
theorem strip_app : ∀ (l m : List Dd), strip (l ++ m) = strip l ++ strip m
  | [], m => by simp [strip]
  | d :: r, m => by
    rw [List.cons_append, strip, strip, strip_app r m]
    split
    · rfl
    · rfl
theorem take_moreW {α : Type} (l : List α) (k : Nat) (z : α) (h : k < l.length) : l.take (k + 1) = l.take k ++ [l.getD k z] := by
  rw [List.take_add_one, List.getElem?_eq_getElem h, List.getD_eq_getElem?_getD, List.getElem?_eq_getElem h]
  rfl
theorem waitK_btw (ds : List Dd) : ∀ k : Nat, k ≤ ds.length → waitK ds k = btw (strip (ds.take k))
  | 0, _ => by simp [waitK, strip, btw]
  | k + 1, h => by
    rw [waitK, waitK_btw ds k (by omega), take_moreW ds k zD (by omega), strip_app]
    simp only [strip]
    split
    · simp
    · split
      · rename_i h0
        rw [btw_nil] at h0
        rw [h0]
        rfl
      · rename_i h0
        rw [btw_nil] at h0
        rw [btw_snoc _ h0]
theorem waitC_btw (ds : List Dd) : waitC ds = btw (strip ds) := by
  rw [waitC, waitK_btw ds _ (Nat.le_refl _), List.take_length]
def bareB (l : List Dd) : Prop := ∀ d, d ∈ l → d.1 ≠ 4 ∧ d.2.2.2 = 0
theorem strip_bare : ∀ l : List Dd, bareB (strip l)
  | [] => by simp [bareB, strip]
  | d :: r => by
    have ih := strip_bare r
    rw [strip]
    split
    · exact ih
    · rename_i h
      intro x hx
      rcases List.mem_cons.1 hx with rfl | hx
      · exact ⟨h, rfl⟩
      · exact ih x hx
theorem bareD_same {d : Dd} (h : d.2.2.2 = 0) : bareD d = d := by
  obtain ⟨a, b, c, e⟩ := d
  simp only at h
  subst h
  rfl
theorem strip_btw : ∀ {l : List Dd}, bareB l → strip (btw l) = l
  | [], _ => rfl
  | [d], h => by
    have h1 := h d (by simp)
    simp only [btw, strip]
    rw [if_neg h1.1, bareD_same h1.2]
  | d :: e :: r, h => by
    have h1 := h d (by simp)
    have ih := strip_btw (l := e :: r) (fun x hx => h x (by simp only [List.mem_cons] at hx ⊢; exact .inr hx))
    rw [btw_cons d (by simp), strip, if_neg h1.1, bareD_same h1.2, strip, if_pos (show waitD.1 = 4 from rfl), ih]
/-- What is waited stays so. -/
theorem waitC_twice (ds : List Dd) : waitC (waitC ds) = waitC ds := by
  rw [waitC_btw, waitC_btw, strip_btw (strip_bare ds)]
theorem waitW_twice (dss : List (List Dd)) : waitW (waitW dss) = waitW dss := by
  simp only [waitW, List.map_map]
  congr 1
  funext ds
  exact waitC_twice ds
def evS (ds : List Dd) : Int := (ds.map evD).sum
theorem evK_take (ds : List Dd) : ∀ k : Nat, k ≤ ds.length → evK ds k = evS (ds.take k)
  | 0, _ => by simp [evK, evS]
  | k + 1, h => by
    rw [evK, evK_take ds k (by omega), take_moreW ds k zD (by omega)]
    simp [evS]
theorem evK_sum (ds : List Dd) : evK ds ds.length = evS ds := by rw [evK_take ds _ (Nat.le_refl _), List.take_length]
theorem evD_bare (d : Dd) : evD (bareD d) = evD d := rfl
theorem evS_strip : ∀ l : List Dd, evS (strip l) = evS l
  | [] => rfl
  | d :: r => by
    have ih := evS_strip r
    rw [strip]
    split
    · rename_i h
      rw [ih]
      simp [evS, evD, h]
    · simp only [evS, List.map_cons, List.sum_cons, evD_bare] at ih ⊢
      rw [ih]
theorem evS_btw : ∀ l : List Dd, evS (btw l) = evS l
  | [] => rfl
  | [d] => rfl
  | d :: e :: r => by
    have ih := evS_btw (e :: r)
    rw [btw_cons d (by simp)]
    simp only [evS, List.map_cons, List.sum_cons] at ih ⊢
    rw [ih]
    simp [evD, waitD]
theorem evS_wait (ds : List Dd) : evS (waitC ds) = evS ds := by rw [waitC_btw, evS_btw, evS_strip]
theorem evW_map (dss : List (List Dd)) (f : List Dd → List Dd) (hf : ∀ ds, evS (f ds) = evS ds) (h0 : f [] = []) : ∀ i : Nat, evW (dss.map f) i = evW dss i
  | 0 => rfl
  | i + 1 => by
    have e1 : (dss.map f).getD i [] = f (dss.getD i []) := by
      rw [List.getD_eq_getElem?_getD, List.getElem?_map, List.getD_eq_getElem?_getD]
      cases dss[i]? with
      | none => exact h0.symm
      | some x => rfl
    rw [evW, evW, evW_map dss f hf h0 i, e1, evK_sum, evK_sum, hf]
/-- A waited work has as many events. -/
theorem evW_wait (dss : List (List Dd)) : evW (waitW dss) (waitW dss).length = evW dss dss.length := by
  rw [waitW, List.length_map, evW_map dss waitC evS_wait rfl]
theorem waitK_pre (ds : List Dd) (k : Nat) : ∀ n : Nat, k ≤ n → ∃ t, waitK ds n = waitK ds k ++ t
  | 0, h => by
    obtain rfl : k = 0 := by omega
    exact ⟨[], by simp⟩
  | n + 1, h => by
    by_cases e : k = n + 1
    · subst e; exact ⟨[], by simp⟩
    · obtain ⟨t, ht⟩ := waitK_pre ds k n (by omega)
      rw [waitK]
      split
      · exact ⟨t, ht⟩
      · split
        · rename_i h0
          rw [h0] at ht
          have h1 : waitK ds k = [] := by
            cases hw : waitK ds k with
            | nil => rfl
            | cons a b => rw [hw] at ht; cases ht
          rw [h1]
          exact ⟨_, rfl⟩
        · rw [ht]
          exact ⟨t ++ [waitD] ++ [bareD (ds.getD n zD)], by simp⟩
theorem waitK_len (ds : List Dd) : ∀ k : Nat, (waitK ds k).length ≤ 2 * k
  | 0 => by simp [waitK]
  | k + 1 => by
    have ih := waitK_len ds k
    rw [waitK]
    split
    · omega
    · split
      · simp; omega
      · simp; omega
end Go.Proofs.Ytljamlgnobpjeaa
