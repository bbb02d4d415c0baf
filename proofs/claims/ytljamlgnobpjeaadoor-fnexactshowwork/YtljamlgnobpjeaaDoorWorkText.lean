/- Plain mathematics of works as texts: shown and read again. -/
import Derived.Test.YtljamlgnobpjeaaDoorWorkPlain
import Derived.Test.YtljamlgnobpjeaaDoorCutPlain
namespace Go.Proofs.YtljamlgnobpjeaaDoor

def shD (d : Dd) : List UInt8 := showL d.1 d.2.1 d.2.2.1 d.2.2.2
def showC (ds : List Dd) : List UInt8 := if ds = [] then [45] else joinL [59, 32] (ds.map shD)
def showW (dss : List (List Dd)) : List UInt8 := joinL [32, 124, 32] (dss.map showC)
def showB (dss : List (List Dd)) : List UInt8 := if workB dss = true then showW dss else []
/-- Each of a list, or nothing where one is nothing. -/
def seqO {α β : Type} (f : α → Option β) : List α → Option (List β)
  | [] => some []
  | x :: r => match f x with
    | none => none
    | some y => match seqO f r with
      | none => none
      | some ys => some (y :: ys)
theorem seqO_snoc {α β : Type} {f : α → Option β} {x : α} {y : β} (hx : f x = some y) : ∀ {l : List α} {ys : List β}, seqO f l = some ys → seqO f (l ++ [x]) = some (ys ++ [y])
  | [], ys, h => by
    simp only [seqO, Option.some.injEq] at h
    subst h
    simp [seqO, hx]
  | z :: r, ys, h => by
    rw [seqO] at h
    split at h
    · cases h
    · rename_i y0 h0
      split at h
      · cases h
      · rename_i ys0 h1
        simp only [Option.some.injEq] at h
        subst h
        rw [List.cons_append, seqO, h0]
        simp only
        rw [seqO_snoc hx h1]
        rfl
theorem seqO_none {α β : Type} {f : α → Option β} {x : α} (hx : f x = none) : ∀ {l : List α}, x ∈ l → seqO f l = none
  | [], h => by simp at h
  | z :: r, h => by
    rw [seqO]
    rcases List.mem_cons.1 h with rfl | h
    · rw [hx]
    · rw [seqO_none hx h]
      split <;> rfl
theorem seqO_more {α β : Type} {f : α → Option β} {l : List α} {ys : List β} {k : Nat} (z : α) (hk : k < l.length) (h : seqO f (l.take k) = some ys) {y : β} (hy : f (l.getD k z) = some y) : seqO f (l.take (k + 1)) = some (ys ++ [y]) := by
  rw [take_moreL l k z hk]
  exact seqO_snoc hy h
theorem seqO_stop {α β : Type} {f : α → Option β} {l : List α} {k : Nat} (z : α) (hk : k < l.length) (hy : f (l.getD k z) = none) : seqO f l = none := by
  refine seqO_none hy ?_
  rw [List.getD_eq_getElem?_getD, List.getElem?_eq_getElem hk]
  exact List.getElem_mem hk
theorem seqO_back {α β : Type} {f : α → Option β} {g : β → α} (hfg : ∀ x y, f x = some y → g y = x) : ∀ {l : List α} {ys : List β}, seqO f l = some ys → ys.map g = l
  | [], ys, h => by simp only [seqO, Option.some.injEq] at h; subst h; rfl
  | z :: r, ys, h => by
    rw [seqO] at h
    split at h
    · cases h
    · rename_i y0 h0
      split at h
      · cases h
      · rename_i ys0 h1
        simp only [Option.some.injEq] at h
        subst h
        rw [List.map_cons, hfg _ _ h0, seqO_back hfg h1]
theorem seqO_on {α β : Type} {f : α → Option β} {g : β → α} : ∀ {ys : List β}, (∀ y, y ∈ ys → f (g y) = some y) → seqO f (ys.map g) = some ys
  | [], _ => rfl
  | y :: ys, h => by
    rw [List.map_cons, seqO, h y (by simp), seqO_on (fun z hz => h z (by simp [hz]))]
def rdD (t : List UInt8) : Option Dd := if fitS t = true then some (gSk (splitL 32 t), gSp (splitL 32 t), gSv (splitL 32 t), gSg (splitL 32 t)) else none
def readC (s : List UInt8) : Option (List Dd) := if s = [45] then some [] else seqO rdD (cutL [59, 32] s)
def readWo (s : List UInt8) : Option (List (List Dd)) := seqO readC (cutL [32, 124, 32] s)
def readW (s : List UInt8) : Option (List (List Dd)) := match readWo s with
  | none => none
  | some x => if workB x = true then some x else none
theorem rdD_show {t : List UInt8} {d : Dd} (h : rdD t = some d) : shD d = t := by
  unfold rdD at h
  split at h
  · rename_i hf
    simp only [Option.some.injEq] at h
    subst h
    simp only [fitS, fits, Bool.and_eq_true, decide_eq_true_eq] at hf
    exact hf.2
  · cases h
theorem rdD_ok {t : List UInt8} {d : Dd} (h : rdD t = some d) : okD d = true := by
  unfold rdD at h
  split at h
  · rename_i hf
    simp only [Option.some.injEq] at h
    subst h
    simp only [fitS, fits, Bool.and_eq_true, decide_eq_true_eq] at hf
    exact hf.1
  · cases h
theorem show_rdD {d : Dd} (h : okD d = true) : rdD (shD d) = some d := by
  obtain ⟨k, p, v, g⟩ := d
  have h1 := fit_show (k := k) (p := p) (v := v) (g := g) h
  have h2 := guess_same h1.1
  unfold rdD shD
  simp only
  rw [fit_same, if_pos h1.1, h2.1, h2.2.1, h2.2.2.1, h2.2.2.2, h1.2.1, h1.2.2.1, h1.2.2.2.1, h1.2.2.2.2]
def cleanT (t : List UInt8) : Bool := !t.contains 45 && !t.contains 59 && !t.contains 124
theorem all_clean : (okList.all fun d => cleanT (showL d.1 d.2.1 d.2.2.1 d.2.2.2)) = true := by decide +kernel
theorem clean {d : Dd} (h : okD d = true) : 45 ∉ shD d ∧ 59 ∉ shD d ∧ 124 ∉ shD d := by
  have h1 := List.all_eq_true.1 all_clean _ (ok_mem _ _ _ _ h)
  simp only [cleanT, Bool.and_eq_true, Bool.not_eq_true', List.contains_eq_mem, decide_eq_false_iff_not] at h1
  exact ⟨h1.1.1, h1.1.2, h1.2⟩
theorem not_joined {b : List UInt8} {c : UInt8} (hb : c ∉ b) : ∀ {ts : List (List UInt8)}, (∀ t, t ∈ ts → c ∉ t) → c ∉ joinL b ts
  | [], _ => by simp [joinL]
  | [t], h => by rw [joinL]; exact h t (by simp)
  | t :: u :: r, h => by
    rw [joinL_cons b t (by simp)]
    have ih := not_joined hb (ts := u :: r) (fun x hx => h x (by simp only [List.mem_cons] at hx ⊢; exact .inr hx))
    have h1 := h t (by simp)
    simp only [List.mem_append, not_or]
    exact ⟨⟨h1, hb⟩, ih⟩
theorem readC_show {s : List UInt8} {ds : List Dd} (h : readC s = some ds) : showC ds = s := by
  unfold readC at h
  split at h
  · rename_i h0
    simp only [Option.some.injEq] at h
    subst h
    rw [h0]; rfl
  · have h1 := seqO_back (g := shD) (fun _ _ => rdD_show) h
    have h2 : ds ≠ [] := by
      rintro rfl
      exact cutL_ne [59, 32] s h1.symm
    rw [showC, if_neg h2, h1, join_cut]
/-- What is read is shown as the text that it was read from. -/
theorem readW_show {s : List UInt8} {dss : List (List Dd)} (h : readW s = some dss) : showB dss = s := by
  unfold readW at h
  split at h
  · cases h
  · rename_i x hx
    split at h
    · rename_i hw
      simp only [Option.some.injEq] at h
      subst h
      rw [showB, if_pos hw, showW, seqO_back (g := showC) (fun _ _ => readC_show) hx, join_cut]
    · cases h
theorem show_readC {ds : List Dd} (h : ∀ d, d ∈ ds → okD d = true) : readC (showC ds) = some ds := by
  by_cases h0 : ds = []
  · subst h0; rfl
  · have hc : ∀ t, t ∈ ds.map shD → 59 ∉ t := by
      intro t ht
      obtain ⟨d, hd, rfl⟩ := List.mem_map.1 ht
      exact (clean (h d hd)).2.1
    have hm : (45 : UInt8) ∉ joinL [59, 32] (ds.map shD) := by
      refine not_joined (by decide) ?_
      intro t ht
      obtain ⟨d, hd, rfl⟩ := List.mem_map.1 ht
      exact (clean (h d hd)).1
    rw [showC, if_neg h0, readC, if_neg (fun e => hm (by rw [e]; simp)), cut_join (c := 59) (j := 0) rfl (by omega) (by simpa using h0) hc]
    exact seqO_on (fun d hd => show_rdD (h d hd))
theorem showC_bar {ds : List Dd} (h : ∀ d, d ∈ ds → okD d = true) : 124 ∉ showC ds := by
  unfold showC
  split
  · decide
  · refine not_joined (by decide) ?_
    intro t ht
    obtain ⟨d, hd, rfl⟩ := List.mem_map.1 ht
    exact (clean (h d hd)).2.2
theorem workB_parts {dss : List (List Dd)} (h : workB dss = true) : dss ≠ [] ∧ ∀ ds, ds ∈ dss → ∀ d, d ∈ ds → okD d = true := by
  simp only [workB, Bool.and_eq_true, decide_eq_true_eq] at h
  obtain ⟨⟨⟨⟨h1, h2⟩, _⟩, _⟩, _⟩ := h
  refine ⟨by rintro rfl; simp at h1, ?_⟩
  intro ds hds d hd
  have h3 := List.all_eq_true.1 h2 ds hds
  simp only [okL, Bool.and_eq_true] at h3
  exact List.all_eq_true.1 h3.1 d hd
/-- A right work, shown and read, is the work. -/
theorem show_readW {dss : List (List Dd)} (h : workB dss = true) : readW (showB dss) = some dss := by
  obtain ⟨h0, h1⟩ := workB_parts h
  have h2 : readWo (showW dss) = some dss := by
    rw [readWo, showW, cut_join (c := 124) (j := 1) rfl (by intro m hm; obtain rfl : m = 0 := by omega
                                                            decide) (by simpa using h0) (by
      intro t ht
      obtain ⟨ds, hds, rfl⟩ := List.mem_map.1 ht
      exact showC_bar (h1 ds hds))]
    exact seqO_on (fun ds hds => show_readC (h1 ds hds))
  rw [showB, if_pos h, readW, h2]
  simp only [h, if_true]
theorem readW_right {s : List UInt8} {dss : List (List Dd)} (h : readW s = some dss) : workB dss = true := by
  unfold readW at h
  split at h
  · cases h
  · split at h
    · rename_i hw
      simp only [Option.some.injEq] at h
      subst h
      exact hw
    · cases h
end Go.Proofs.YtljamlgnobpjeaaDoor
