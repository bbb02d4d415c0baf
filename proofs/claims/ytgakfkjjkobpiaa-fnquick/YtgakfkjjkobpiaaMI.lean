/- Gathered texts. -/
import Derived.Test.YtgakfkjjkobpiaaMH
import Derived.Lib.Hide
set_option maxRecDepth 100000
set_option maxHeartbeats 8000000
namespace Go.Proofs.Ytgakfkjjkobpiaa
open Go.ChangeShapes Go.WideShapes Go.ChangeAt Go.RowKit
section
section
variable {w w1 w2 w' : World} {m D : Nat} {v : BV} {nv rv : List Value} {bs N : Nat} {dss : List (List Dd)} {b : Bd}
theorem OwnBd.mk2 (h : OwnBd w m D v nv rv bs N dss b) {v' : BV} {nv' rv' : List Value} {b' : Bd} (F : Fam w' m (liveB nv' rv') (famR D v' nv' rv' b')) (ln : nv'.length = b'.nts.length) (lr : rv'.length = b'.rws.length) (hW : v'.W = v.W) (hs : w.heap.size ≤ w'.heap.size) (hwk : RdXN w' bs N v.W dss)
    (hout : ∀ i, liveB nv' rv' i → ∀ k, (famR D v' nv' rv' b' i).v.ownBlock = some k → (∃ j, liveB nv rv j ∧ (famR D v nv rv b j).v.ownBlock = some k) ∨ w.heap.size ≤ k) : OwnBd w' m D v' nv' rv' bs N dss b' :=
  ⟨F, ln, lr, by rw [hW]; exact hwk, Nat.le_trans h.top hs, fun i hi k hk => by
    rcases hout i hi k hk with ⟨j, hj, e⟩ | e
    · exact h.out j hj k e
    · have := h.top
      right; omega⟩
theorem bd_put {k : Nat} {x : Value} {v' : BV} (o : (bdR D v).own w m) (hv : (bdR D v').xs = (bdR D v).xs.set k x) : (bdR D v').own (w.setCell ⟨D, k, none⟩ x) m ∧ w.grownBy (w.setCell ⟨D, k, none⟩ x) (some D) ∧ w.frozen? ⟨D, k, none⟩ = false := by
  obtain ⟨h1, h2, h3⟩ := Rw.put o (g := D) (cap := 1) (k := k) rfl x
  refine ⟨?_, h2, h3⟩
  have e : bdR D v' = { bdR D v with xs := (bdR D v).xs.set k x } := by rw [← hv]
  rw [e]
  exact h1
theorem OwnBd.nD (h : OwnBd w m D v nv rv bs N dss b) : ∀ g, some D = some g → g < bs ∨ N ≤ g := fun g e => h.out .bd trivial g e
theorem OwnBd.growS (h : OwnBd w m D v nv rv bs N dss b) {u : Value} {zs : List Int} (hg : w.grownBy w2 v.S.ownBlock) (hb : u.ownBlock = v.S.ownBlock ∨ u.ownBlock = some w.heap.size ∨ u.ownBlock = none) (ho : Own w2 m u zs) :
    OwnBd (w2.setCell ⟨D, 5, none⟩ u) m D { v with S := u } nv rv bs N dss { b with sn := zs } ∧ w2.cell? ⟨D, 5, none⟩ = some v.S ∧ w2.frozen? ⟨D, 5, none⟩ = false := by
  have F1 := h.fam.set (i := .sn) trivial (r := ivR zs u) hg hb ho
  have o1 : (bdR D v).own w2 m := F1.own .bd trivial
  obtain ⟨q1, q2, q3⟩ := bd_put (k := 5) (x := u) (v' := { v with S := u }) o1 rfl
  have F2 := F1.set (i := .bd) trivial (r := bdR D { v with S := u }) q2 (.inl rfl) q1
  have hf : ∀ j, famR D { v with S := u } nv rv { b with sn := zs } j = upd (upd (famR D v nv rv b) .sn (ivR zs u)) .bd (bdR D { v with S := u }) j := fun j => by cases j <;> rfl
  refine ⟨h.mk2 (F2.congr (fun _ hj => hj) (fun j _ => hf j)) h.ln h.lr rfl (Nat.le_trans hg.size q2.size) ((h.work.kept hg (fun g e => h.out .sn trivial g e)).kept q2 h.nD) (fun j hj k hk => ?_), (h.stay .sn trivial (by simp) hg 5).trans h.cells.2.2.2.2.2.1, q3⟩
  by_cases e : j = .sn
  · subst e
    have hk : u.ownBlock = some k := hk
    rcases hb with e | e | e
    · exact .inl ⟨.sn, trivial, by rw [← hk, e]; rfl⟩
    · rw [e] at hk; exact .inr (Nat.le_of_eq (Option.some.inj hk))
    · rw [e] at hk; cases hk
  · refine .inl ⟨j, hj, ?_⟩
    cases j <;> first | exact hk | exact absurd rfl e
theorem OwnBd.growF (h : OwnBd w m D v nv rv bs N dss b) {u : Value} {zs : List Int} (hg : w.grownBy w2 v.F.ownBlock) (hb : u.ownBlock = v.F.ownBlock ∨ u.ownBlock = some w.heap.size ∨ u.ownBlock = none) (ho : Own w2 m u zs) :
    OwnBd (w2.setCell ⟨D, 6, none⟩ u) m D { v with F := u } nv rv bs N dss { b with fr := zs } ∧ w2.cell? ⟨D, 6, none⟩ = some v.F ∧ w2.frozen? ⟨D, 6, none⟩ = false := by
  have F1 := h.fam.set (i := .fr) trivial (r := ivR zs u) hg hb ho
  have o1 : (bdR D v).own w2 m := F1.own .bd trivial
  obtain ⟨q1, q2, q3⟩ := bd_put (k := 6) (x := u) (v' := { v with F := u }) o1 rfl
  have F2 := F1.set (i := .bd) trivial (r := bdR D { v with F := u }) q2 (.inl rfl) q1
  have hf : ∀ j, famR D { v with F := u } nv rv { b with fr := zs } j = upd (upd (famR D v nv rv b) .fr (ivR zs u)) .bd (bdR D { v with F := u }) j := fun j => by cases j <;> rfl
  refine ⟨h.mk2 (F2.congr (fun _ hj => hj) (fun j _ => hf j)) h.ln h.lr rfl (Nat.le_trans hg.size q2.size) ((h.work.kept hg (fun g e => h.out .fr trivial g e)).kept q2 h.nD) (fun j hj k hk => ?_), (h.stay .fr trivial (by simp) hg 6).trans h.cells.2.2.2.2.2.2.1, q3⟩
  by_cases e : j = .fr
  · subst e
    have hk : u.ownBlock = some k := hk
    rcases hb with e | e | e
    · exact .inl ⟨.fr, trivial, by rw [← hk, e]; rfl⟩
    · rw [e] at hk; exact .inr (Nat.le_of_eq (Option.some.inj hk))
    · rw [e] at hk; cases hk
  · refine .inl ⟨j, hj, ?_⟩
    cases j <;> first | exact hk | exact absurd rfl e
theorem getD_app {α : Type} (l : List α) (x z : α) (q : Nat) : (l ++ [x]).getD q z = if q = l.length then x else l.getD q z := by
  rw [List.getD_eq_getElem?_getD, List.getD_eq_getElem?_getD]
  by_cases e : q = l.length
  · subst e; simp
  · rw [if_neg e]
    by_cases hl : q < l.length
    · rw [List.getElem?_append_left hl]
    · rw [List.getElem?_eq_none (by rw [List.length_append]; simp; omega), List.getElem?_eq_none (by omega)]
theorem OwnBd.pushN (h : OwnBd w m D v nv rv bs N dss b) {u u' : Value} {ns : List Nt} (k1 : Keep w w1) (hu : ∀ k, u.ownBlock = some k → w.heap.size ≤ k) (ou : AppT cN 66 3 w1 m u ns)
    (hg : w1.grownBy w2 v.N.ownBlock) (hb : u'.ownBlock = v.N.ownBlock ∨ u'.ownBlock = some w1.heap.size ∨ u'.ownBlock = none) (ho : (hdR 36 (nv ++ [u]) u').own w2 m) :
    OwnBd (w2.setCell ⟨D, 3, none⟩ u') m D { v with N := u' } (nv ++ [u]) rv bs N dss { b with nts := b.nts ++ [ns] } ∧ w2.cell? ⟨D, 3, none⟩ = some v.N ∧ w2.frozen? ⟨D, 3, none⟩ = false := by
  have F1 := h.fam.add (i := .nt nv.length) (fun q => Nat.lt_irrefl _ (show nv.length < nv.length from q)) (r := nvR ns u) rfl k1 ou hu
  have F2 := F1.set (i := .nts) (.inl trivial) (r := hdR 36 (nv ++ [u]) u') hg hb ho
  have o1 : (bdR D v).own w2 m := F2.own .bd (.inl trivial)
  obtain ⟨q1, q2, q3⟩ := bd_put (k := 3) (x := u') (v' := { v with N := u' }) o1 rfl
  have F3 := F2.set (i := .bd) (.inl trivial) (r := bdR D { v with N := u' }) q2 (.inl rfl) q1
  have hs : w.heap.size ≤ w1.heap.size := k1.size
  have hf : ∀ j, famR D { v with N := u' } (nv ++ [u]) rv { b with nts := b.nts ++ [ns] } j = upd (upd (upd (famR D v nv rv b) (.nt nv.length) (nvR ns u)) .nts (hdR 36 (nv ++ [u]) u')) .bd (bdR D { v with N := u' }) j := fun j => by
    cases j with
    | nt q =>
      rw [upd_other _ _ (by simp), upd_other _ _ (by simp)]
      show nvR ((b.nts ++ [ns]).getD q []) ((nv ++ [u]).getD q nilS) = _
      rw [getD_app, getD_app, ← h.ln]
      by_cases e : q = nv.length
      · subst e; rw [upd_same, if_pos rfl, if_pos rfl]
      · rw [upd_other _ _ (by simpa using e), if_neg e, if_neg e]; rfl
    | _ => rfl
  have hne : some D ≠ v.N.ownBlock := by
    rcases h.fam.apart .bd .nts trivial trivial (by simp) with e | e
    · cases e
    · exact e
  refine ⟨h.mk2 (F3.congr (fun j hj => ?_) (fun j _ => hf j)) (by rw [List.length_append]; simp [h.ln]) h.lr rfl (Nat.le_trans hs (Nat.le_trans hg.size q2.size)) (((h.work.kept k1.grownBy (by simp)).kept hg (fun g e => h.out .nts trivial g e)).kept q2 h.nD) (fun j hj k hk => ?_), ?_, q3⟩
  · cases j with
    | nt q =>
      have hq : q < (nv ++ [u]).length := hj
      rw [List.length_append] at hq
      by_cases e : q = nv.length
      · exact .inr (by rw [e])
      · exact .inl (show q < nv.length by simp at hq; omega)
    | rw q => exact .inl hj
    | _ => exact .inl trivial
  · cases j with
    | nt q =>
      have hk : ((nv ++ [u]).getD q nilS).ownBlock = some k := hk
      rw [getD_app] at hk
      by_cases e : q = nv.length
      · rw [if_pos e] at hk; exact .inr (hu k hk)
      · rw [if_neg e] at hk
        have hq : q < (nv ++ [u]).length := hj
        rw [List.length_append] at hq
        exact .inl ⟨.nt q, show q < nv.length by simp at hq; omega, hk⟩
    | nts =>
      have hk : u'.ownBlock = some k := hk
      rcases hb with e | e | e
      · exact .inl ⟨.nts, trivial, by rw [← hk, e]; rfl⟩
      · rw [e] at hk; exact .inr (by have := Option.some.inj hk; omega)
      · rw [e] at hk; cases hk
    | rw q => exact .inl ⟨.rw q, hj, hk⟩
    | bd => exact .inl ⟨.bd, trivial, hk⟩
    | plc => exact .inl ⟨.plc, trivial, hk⟩
    | lst => exact .inl ⟨.lst, trivial, hk⟩
    | nxt => exact .inl ⟨.nxt, trivial, hk⟩
    | sn => exact .inl ⟨.sn, trivial, hk⟩
    | fr => exact .inl ⟨.fr, trivial, hk⟩
    | rws => exact .inl ⟨.rws, trivial, hk⟩
  · have hD := h.base.2
    have e1 : w2.cell? ⟨D, 3, none⟩ = w1.cell? ⟨D, 3, none⟩ := World.cell?_of_block (w := w1) (hg.block D (by omega) hne)
    rw [e1, k1.cell hD]
    exact h.cells.2.2.2.1
theorem OwnBd.pushR (h : OwnBd w m D v nv rv bs N dss b) {u u' : Value} {zs : List Int} (k1 : Keep w w1) (hu : ∀ k, u.ownBlock = some k → w.heap.size ≤ k) (ou : Own w1 m u zs)
    (hg : w1.grownBy w2 v.R.ownBlock) (hb : u'.ownBlock = v.R.ownBlock ∨ u'.ownBlock = some w1.heap.size ∨ u'.ownBlock = none) (ho : (hdR 25 (rv ++ [u]) u').own w2 m) :
    OwnBd (w2.setCell ⟨D, 7, none⟩ u') m D { v with R := u' } nv (rv ++ [u]) bs N dss { b with rws := b.rws ++ [zs] } ∧ w2.cell? ⟨D, 7, none⟩ = some v.R ∧ w2.frozen? ⟨D, 7, none⟩ = false := by
  have F1 := h.fam.add (i := .rw rv.length) (fun q => Nat.lt_irrefl _ (show rv.length < rv.length from q)) (r := ivR zs u) rfl k1 ou hu
  have F2 := F1.set (i := .rws) (.inl trivial) (r := hdR 25 (rv ++ [u]) u') hg hb ho
  have o1 : (bdR D v).own w2 m := F2.own .bd (.inl trivial)
  obtain ⟨q1, q2, q3⟩ := bd_put (k := 7) (x := u') (v' := { v with R := u' }) o1 rfl
  have F3 := F2.set (i := .bd) (.inl trivial) (r := bdR D { v with R := u' }) q2 (.inl rfl) q1
  have hs : w.heap.size ≤ w1.heap.size := k1.size
  have hf : ∀ j, famR D { v with R := u' } nv (rv ++ [u]) { b with rws := b.rws ++ [zs] } j = upd (upd (upd (famR D v nv rv b) (.rw rv.length) (ivR zs u)) .rws (hdR 25 (rv ++ [u]) u')) .bd (bdR D { v with R := u' }) j := fun j => by
    cases j with
    | rw q =>
      rw [upd_other _ _ (by simp), upd_other _ _ (by simp)]
      show ivR ((b.rws ++ [zs]).getD q []) ((rv ++ [u]).getD q nilS) = _
      rw [getD_app, getD_app, ← h.lr]
      by_cases e : q = rv.length
      · subst e; rw [upd_same, if_pos rfl, if_pos rfl]
      · rw [upd_other _ _ (by simpa using e), if_neg e, if_neg e]; rfl
    | _ => rfl
  have hne : some D ≠ v.R.ownBlock := by
    rcases h.fam.apart .bd .rws trivial trivial (by simp) with e | e
    · cases e
    · exact e
  refine ⟨h.mk2 (F3.congr (fun j hj => ?_) (fun j _ => hf j)) h.ln (by rw [List.length_append]; simp [h.lr]) rfl (Nat.le_trans hs (Nat.le_trans hg.size q2.size)) (((h.work.kept k1.grownBy (by simp)).kept hg (fun g e => h.out .rws trivial g e)).kept q2 h.nD) (fun j hj k hk => ?_), ?_, q3⟩
  · cases j with
    | rw q =>
      have hq : q < (rv ++ [u]).length := hj
      rw [List.length_append] at hq
      by_cases e : q = rv.length
      · exact .inr (by rw [e])
      · exact .inl (show q < rv.length by simp at hq; omega)
    | nt q => exact .inl hj
    | _ => exact .inl trivial
  · cases j with
    | rw q =>
      have hk : ((rv ++ [u]).getD q nilS).ownBlock = some k := hk
      rw [getD_app] at hk
      by_cases e : q = rv.length
      · rw [if_pos e] at hk; exact .inr (hu k hk)
      · rw [if_neg e] at hk
        have hq : q < (rv ++ [u]).length := hj
        rw [List.length_append] at hq
        exact .inl ⟨.rw q, show q < rv.length by simp at hq; omega, hk⟩
    | rws =>
      have hk : u'.ownBlock = some k := hk
      rcases hb with e | e | e
      · exact .inl ⟨.rws, trivial, by rw [← hk, e]; rfl⟩
      · rw [e] at hk; exact .inr (by have := Option.some.inj hk; omega)
      · rw [e] at hk; cases hk
    | nt q => exact .inl ⟨.nt q, hj, hk⟩
    | bd => exact .inl ⟨.bd, trivial, hk⟩
    | plc => exact .inl ⟨.plc, trivial, hk⟩
    | lst => exact .inl ⟨.lst, trivial, hk⟩
    | nxt => exact .inl ⟨.nxt, trivial, hk⟩
    | sn => exact .inl ⟨.sn, trivial, hk⟩
    | fr => exact .inl ⟨.fr, trivial, hk⟩
    | nts => exact .inl ⟨.nts, trivial, hk⟩
  · have hD := h.base.2
    have e1 : w2.cell? ⟨D, 7, none⟩ = w1.cell? ⟨D, 7, none⟩ := World.cell?_of_block (w := w1) (hg.block D (by omega) hne)
    rw [e1, k1.cell hD]
    exact h.cells.2.2.2.2.2.2.2
end
end
section
def rowsV (s : Nat) (V : Nat → Value) (ln : Nat → Nat) : Nat → List (Value × Nat)
  | 0 => []
  | n + 1 => rowsV s V ln n ++ [(V n, s * ln n)]
def SlV (v : Value) (n : Nat) : Prop := ∃ a c, v = .slice a n c ∧ (n = 0 ∨ ∃ b o, a = some ⟨b, o, none⟩)
section
variable (v : BV) (Vw Vn Vr : Nat → Value) (dss : List (List Dd)) (b : Bd)
def bdR0 : List (Value × Nat) := rowsV 4 Vw (fun i => (dss.getD i []).length) dss.length
def bdR1 : List (Value × Nat) := bdR0 Vw dss ++ [(v.P, b.plc.length)]
def bdR2 : List (Value × Nat) := bdR1 v Vw dss b ++ [(v.L, b.lst.length)]
def bdR3 : List (Value × Nat) := bdR2 v Vw dss b ++ rowsV 3 Vn (fun i => (b.nts.getD i []).length) b.nts.length
def bdR4 : List (Value × Nat) := bdR3 v Vw Vn dss b ++ [(v.X, b.nxt.length)]
def bdR5 : List (Value × Nat) := bdR4 v Vw Vn dss b ++ [(v.S, b.sn.length)]
def bdR6 : List (Value × Nat) := bdR5 v Vw Vn dss b ++ [(v.F, b.fr.length)]
def bdR7 : List (Value × Nat) := bdR6 v Vw Vn dss b ++ rowsV 1 Vr (fun i => (b.rws.getD i []).length) b.rws.length
end
def HdL (w : World) (v : Value) (V : Nat → Value) (n : Nat) (S : Addr → Prop) : Prop :=
  ∃ a c, v = .slice a n c ∧ (n = 0 ∨ ∃ b o, a = some ⟨b, o, none⟩ ∧ b < w.heap.size ∧ ∀ i, i < n → w.cell? ⟨b, o + i, none⟩ = some (V i) ∧ ¬ S ⟨b, o + i, none⟩)
theorem HdL.keep {w w' : World} {v : Value} {V : Nat → Value} {n : Nat} {S : Addr → Prop} (h : HdL w v V n S) (k : Keep w w') : HdL w' v V n S := by
  obtain ⟨a, c, e, h⟩ := h
  refine ⟨a, c, e, ?_⟩
  rcases h with h | ⟨b, o, ea, hb, hc⟩
  · exact .inl h
  · exact .inr ⟨b, o, ea, Nat.lt_of_lt_of_le hb k.size, fun i hi => ⟨(k.cell hb).trans (hc i hi).1, (hc i hi).2⟩⟩
theorem HdL.kept {w w' : World} {v : Value} {V : Nat → Value} {n : Nat} {S T : Addr → Prop} (h : HdL w v V n S) (k : Wrt T w w') (hs : ∀ x, T x → S x) : HdL w' v V n S := by
  obtain ⟨a, c, e, h⟩ := h
  refine ⟨a, c, e, ?_⟩
  rcases h with h | ⟨b, o, ea, hb, hc⟩
  · exact .inl h
  · exact .inr ⟨b, o, ea, Nat.lt_of_lt_of_le hb k.size, fun i hi => ⟨(k.cell _ hb (fun h => (hc i hi).2 (hs _ h))).trans (hc i hi).1, (hc i hi).2⟩⟩
theorem HdL.less {w : World} {v : Value} {V : Nat → Value} {n : Nat} {S T : Addr → Prop} (h : HdL w v V n S) (hs : ∀ x, T x → S x) : HdL w v V n T := by
  obtain ⟨a, c, e, h⟩ := h
  refine ⟨a, c, e, ?_⟩
  rcases h with h | ⟨b, o, ea, hb, hc⟩
  · exact .inl h
  · exact .inr ⟨b, o, ea, hb, fun i hi => ⟨(hc i hi).1, fun h => (hc i hi).2 (hs _ h)⟩⟩
theorem HdL.plain {w : World} {v : Value} {V : Nat → Value} {n : Nat} {S : Addr → Prop} (h : HdL w v V n S) : ∃ a c, v = .slice a n c ∧ (n = 0 ∨ ∃ b o, a = some ⟨b, o, none⟩ ∧ b < w.heap.size ∧ ∀ i, i < n → w.cell? ⟨b, o + i, none⟩ = some (V i)) := by
  obtain ⟨a, c, e, h⟩ := h
  refine ⟨a, c, e, ?_⟩
  rcases h with h | ⟨b, o, ea, hb, hc⟩
  · exact .inl h
  · exact .inr ⟨b, o, ea, hb, fun i hi => (hc i hi).1⟩
structure HdBd (w : World) (v : BV) (Vw Vn Vr : Nat → Value) (dss : List (List Dd)) (b : Bd) : Prop where
  hW : HdL w v.W Vw dss.length (rowsS (bdR7 v Vw Vn Vr dss b))
  sW : ∀ i, i < dss.length → SlV (Vw i) (dss.getD i []).length
  sP : SlV v.P b.plc.length
  sL : SlV v.L b.lst.length
  hN : HdL w v.N Vn b.nts.length (rowsS (bdR7 v Vw Vn Vr dss b))
  sN : ∀ i, i < b.nts.length → SlV (Vn i) (b.nts.getD i []).length
  sX : SlV v.X b.nxt.length
  sS : SlV v.S b.sn.length
  sF : SlV v.F b.fr.length
  hR : HdL w v.R Vr b.rws.length (rowsS (bdR7 v Vw Vn Vr dss b))
  sR : ∀ i, i < b.rws.length → SlV (Vr i) (b.rws.getD i []).length
section
variable {w w' : World} {v : BV} {Vw Vn Vr : Nat → Value} {dss : List (List Dd)} {b : Bd}
theorem HdBd.keep (h : HdBd w v Vw Vn Vr dss b) (k : Keep w w') : HdBd w' v Vw Vn Vr dss b :=
  ⟨h.hW.keep k, h.sW, h.sP, h.sL, h.hN.keep k, h.sN, h.sX, h.sS, h.sF, h.hR.keep k, h.sR⟩
theorem HdBd.kept (h : HdBd w v Vw Vn Vr dss b) {T : Addr → Prop} (k : Wrt T w w') (hs : ∀ x, T x → rowsS (bdR7 v Vw Vn Vr dss b) x) : HdBd w' v Vw Vn Vr dss b :=
  ⟨h.hW.kept k hs, h.sW, h.sP, h.sL, h.hN.kept k hs, h.sN, h.sX, h.sS, h.sF, h.hR.kept k hs, h.sR⟩
end
end
section
abbrev ddR (ds : List Dd) (v : Value) : Rw := ⟨98, 4, v, ds.length, ds.flatMap cD⟩
section
variable {α : Type} (t : TypeId) (rowOf : List α → Value → Rw)
def llR (v : Value) (hs : List Value) (xss : List (List α)) : Option Nat → Rw
  | none => hdR t hs v
  | some i => rowOf (xss.getD i []) (hs.getD i nilS)
def llLive (j : Nat) : Option Nat → Prop
  | none => True
  | some i => i < j
structure LLP (w : World) (m : Nat) (v : Value) (hs : List Value) (xss : List (List α)) (j : Nat) : Prop where
  fam : Fam w m (llLive j) (llR t rowOf v hs xss)
  len : hs.length = xss.length
  hv : ∀ xs u, (rowOf xs u).v = u
variable {t rowOf} {w w2 : World} {m : Nat} {v u : Value} {hs : List Value} {xss : List (List α)} {j : Nat}
theorem LLP.keep (h : LLP t rowOf w m v hs xss j) (k : Keep w w2) : LLP t rowOf w2 m v hs xss j := ⟨h.fam.keep k, h.len, h.hv⟩
theorem LLP.step (h : LLP t rowOf w m v hs xss j) (hj : j < xss.length) (k : Keep w w2) (ho : (rowOf (xss.getD j []) u).own w2 m) (hn : ∀ b, u.ownBlock = some b → w.heap.size ≤ b) {g cap : Nat} (hv : v = .slice (some ⟨g, 0, none⟩) hs.length cap) :
    LLP t rowOf (w2.setCell ⟨g, j, none⟩ u) m v (hs.set j u) xss (j + 1) ∧ w2.cell? ⟨g, j, none⟩ = some (hs.getD j nilS) ∧ w2.frozen? ⟨g, j, none⟩ = false ∧ w2.grownBy (w2.setCell ⟨g, j, none⟩ u) (some g) ∧ m ≤ g := by
  have hjl : j < hs.length := by rw [h.len]; exact hj
  have F1 := h.fam.add (i := some j) (fun q => Nat.lt_irrefl _ (show j < j from q)) (r := rowOf (xss.getD j []) u) rfl k ho (fun b hb => hn b (by rw [h.hv] at hb; exact hb))
  have o1 : (hdR t hs v).own w2 m := by have := F1.own none (.inl trivial); rw [upd_other _ _ (by simp)] at this; exact this
  obtain ⟨q1, q2, q3⟩ := Rw.put o1 (g := g) (cap := cap) (k := j) hv u
  have F2 := F1.set (i := none) (.inl trivial) (r := { hdR t hs v with xs := hs.set j u }) (by rw [upd_other _ _ (by simp)]; exact q2) (.inl (by rw [upd_other _ _ (by simp)]; rfl)) q1
  have hb : v.ownBlock = some g := by rw [hv]; rfl
  refine ⟨⟨F2.congr (fun o ho' => ?_) (fun o ho' => ?_), by rw [List.length_set]; exact h.len, h.hv⟩, ?_, q3, by rw [← hb]; exact q2, (h.fam.lt (i := none) trivial g hb).1⟩
  · cases o with
    | none => exact .inl trivial
    | some i =>
      have hi : i < j + 1 := ho'
      by_cases e : i = j
      · exact .inr (by rw [e])
      · exact .inl (show i < j by omega)
  · cases o with
    | none =>
      rw [upd_same]
      show hdR t (hs.set j u) v = _
      simp [hdR]
    | some i =>
      rw [upd_other _ _ (by simp)]
      show rowOf (xss.getD i []) ((hs.set j u).getD i nilS) = _
      rw [getD_setV _ _ _ _ hjl]
      by_cases e : i = j
      · subst e; rw [if_pos rfl, upd_same]
      · rw [if_neg e, upd_other _ _ (by simpa using e)]; rfl
  · have := Rw.cell o1 (g := g) (cap := cap) (k := j) hv (by show j < hs.length * 1; omega)
    rw [this, List.getD_eq_getElem?_getD]
    show hs[j]? = _
    rw [List.getElem?_eq_getElem hjl]
    rfl
structure OwnLL (t : TypeId) (rowOf : List α → Value → Rw) (w : World) (m : Nat) (v : Value) (hs : List Value) (xss : List (List α)) : Prop where
  fam : Fam w m (llLive hs.length) (llR t rowOf v hs xss)
  len : hs.length = xss.length
theorem LLP.all (h : LLP t rowOf w m v hs xss xss.length) : OwnLL t rowOf w m v hs xss := ⟨by rw [h.len]; exact h.fam, h.len⟩
theorem LLP.new (ho : (hdR t (List.replicate xss.length nilS) v).own w m) (hv : ∀ xs u, (rowOf xs u).v = u) : LLP t rowOf w m v (List.replicate xss.length nilS) xss 0 := by
  refine ⟨⟨fun o h => ?_, fun o o' h h' hne => ?_⟩, by simp, hv⟩
  · cases o with
    | none => exact ho
    | some i => exact absurd (show i < 0 from h) (by omega)
  · cases o with
    | none =>
      cases o' with
      | none => exact absurd rfl hne
      | some i => exact absurd (show i < 0 from h') (by omega)
    | some i => exact absurd (show i < 0 from h) (by omega)
end
end
section
inductive BJ where
  | b (i : BI)
  | wk
  | wd (c : Nat) deriving DecidableEq
def famA (v : BV) (nv rv wv : List Value) (dss : List (List Dd)) (b : Bd) : BJ → Rw
  | .b i => famR 0 v nv rv b i
  | .wk => hdR 72 wv v.W
  | .wd c => ddR (dss.getD c []) (wv.getD c nilS)
def liveA (nv rv wv : List Value) : BJ → Prop
  | .b i => liveB nv rv i ∧ i ≠ .bd
  | .wk => True
  | .wd c => c < wv.length
structure OwnA (w : World) (m : Nat) (v : BV) (nv rv wv : List Value) (dss : List (List Dd)) (b : Bd) : Prop where
  fam : Fam w m (liveA nv rv wv) (famA v nv rv wv dss b)
  ln : nv.length = b.nts.length
  lr : rv.length = b.rws.length
  lw : wv.length = dss.length
section
variable {w w' : World} {m : Nat} {v : BV} {nv rv wv : List Value} {dss : List (List Dd)} {b : Bd}
theorem OwnA.keep (h : OwnA w m v nv rv wv dss b) (k : Keep w w') : OwnA w' m v nv rv wv dss b := ⟨h.fam.keep k, h.ln, h.lr, h.lw⟩
theorem OwnA.far (h : OwnA w m v nv rv wv dss b) {g : Nat} (hg : w.grownBy w' (some g)) (hl : g < m) : OwnA w' m v nv rv wv dss b :=
  ⟨h.fam.far hg (fun i hi => by
    cases e : (famA v nv rv wv dss b i).v.ownBlock with
    | none => exact .inl rfl
    | some k => exact .inr (fun e' => by have := (h.fam.lt hi k e).1; have := Option.some.inj e'; omega)), h.ln, h.lr, h.lw⟩
theorem OwnA.rd (h : OwnA w m v nv rv wv dss b) : RdBd w v dss b := by
  have oN : ∀ {c : Nat}, c < b.nts.length → AppT cN 66 3 w m (nv.getD c nilS) (b.nts.getD c []) := fun {c} hc => h.fam.own (.b (.nt c)) ⟨by show c < nv.length; rw [h.ln]; exact hc, by simp⟩
  have oR : ∀ {p : Nat}, p < b.rws.length → Own w m (rv.getD p nilS) (b.rws.getD p []) := fun {p} hp => h.fam.own (.b (.rw p)) ⟨by show p < rv.length; rw [h.lr]; exact hp, by simp⟩
  have oW : ∀ {c : Nat}, c < dss.length → AppD w m (wv.getD c nilS) (dss.getD c []) := fun {c} hc => h.fam.own (.wd c) (by show c < wv.length; rw [h.lw]; exact hc)
  have o1 : Own w m v.P b.plc := h.fam.own (.b .plc) ⟨trivial, by simp⟩
  have o2 : Own w m v.L b.lst := h.fam.own (.b .lst) ⟨trivial, by simp⟩
  have o3 : Own w m v.X b.nxt := h.fam.own (.b .nxt) ⟨trivial, by simp⟩
  have o4 : Own w m v.S b.sn := h.fam.own (.b .sn) ⟨trivial, by simp⟩
  have o5 : Own w m v.F b.fr := h.fam.own (.b .fr) ⟨trivial, by simp⟩
  refine ⟨?_, o1.rd, o2.rd, ?_, o3.rd, o4.rd, o5.rd, ?_⟩
  · obtain ⟨a, cap, e, h1⟩ := own_head (h.fam.own .wk trivial)
    rw [h.lw] at e
    refine ⟨a, cap, e, ?_⟩
    rcases h1 with h1 | ⟨g, e1, e2, e3⟩
    · left
      have := h.lw
      rw [h1] at this
      exact List.eq_nil_of_length_eq_zero this.symm
    · exact .inr ⟨g, 0, e1, e2, fun i hi => ⟨_, by rw [Nat.zero_add]; exact e3 i (by rw [h.lw]; exact hi), (oW hi).ownD.rd⟩⟩
  · obtain ⟨a, cap, e, h1⟩ := own_head (h.fam.own (.b .nts) ⟨trivial, by simp⟩)
    rw [h.ln] at e
    refine ⟨a, cap, e, ?_⟩
    rcases h1 with h1 | ⟨g, e1, e2, e3⟩
    · left
      have := h.ln
      rw [h1] at this
      exact List.eq_nil_of_length_eq_zero this.symm
    · exact .inr ⟨g, 0, e1, e2, fun i hi => ⟨_, by rw [Nat.zero_add]; exact e3 i (by rw [h.ln]; exact hi), AppT.rd cN_len (oN hi)⟩⟩
  · obtain ⟨a, cap, e, h1⟩ := own_head (h.fam.own (.b .rws) ⟨trivial, by simp⟩)
    rw [h.lr] at e
    refine ⟨a, cap, e, ?_⟩
    rcases h1 with h1 | ⟨g, e1, e2, e3⟩
    · left
      have := h.lr
      rw [h1] at this
      exact List.eq_nil_of_length_eq_zero this.symm
    · exact .inr ⟨g, 0, e1, e2, fun i hi => ⟨_, by rw [Nat.zero_add]; exact e3 i (by rw [h.lr]; exact hi), (oR hi).rd⟩⟩
end
end
section
def HdM (v : Value) (n m : Nat) : Prop := ∀ b o l c, v = .slice (some ⟨b, o, none⟩) l c → 0 < n → m ≤ b
structure FreeBd (w : World) (m M : Nat) (v : BV) (dss : List (List Dd)) (b : Bd) : Prop where
  rd : RdBd w v dss b
  ex : ∃ Vw Vn Vr : Nat → Value, HdBd w v Vw Vn Vr dss b ∧ Loose w (bdR7 v Vw Vn Vr dss b) ∧ ∀ x, rowsS (bdR7 v Vw Vn Vr dss b) x → m ≤ x.block ∧ x.block < M
  hd : HdM v.W dss.length m ∧ HdM v.N b.nts.length m ∧ HdM v.R b.rws.length m
theorem FreeBd.keep {w w' : World} {m M : Nat} {v : BV} {dss : List (List Dd)} {b : Bd} (h : FreeBd w m M v dss b) (k : Keep w w') : FreeBd w' m M v dss b := by
  obtain ⟨Vw, Vn, Vr, h1, h2, h3⟩ := h.ex
  exact ⟨h.rd.keep k, ⟨Vw, Vn, Vr, h1.keep k, h2.keep k, h3⟩, h.hd⟩
theorem rowsV_map (s : Nat) (V : Nat → Value) (ln : Nat → Nat) : ∀ n, rowsV s V ln n = (List.range n).map (fun i => (V i, s * ln i))
  | 0 => rfl
  | n + 1 => by rw [rowsV, rowsV_map s V ln n, List.range_succ, List.map_append]; rfl
def bdJ (nw nn nr : Nat) : List BJ := (((((((List.range nw).map BJ.wd ++ [.b .plc]) ++ [.b .lst]) ++ (List.range nn).map (fun c => BJ.b (.nt c))) ++ [.b .nxt]) ++ [.b .sn]) ++ [.b .fr]) ++ (List.range nr).map (fun p => BJ.b (.rw p))
def rowJ (v : BV) (Vw Vn Vr : Nat → Value) (dss : List (List Dd)) (b : Bd) : BJ → Value × Nat
  | .wd c => (Vw c, 4 * (dss.getD c []).length)
  | .b .plc => (v.P, b.plc.length)
  | .b .lst => (v.L, b.lst.length)
  | .b (.nt c) => (Vn c, 3 * (b.nts.getD c []).length)
  | .b .nxt => (v.X, b.nxt.length)
  | .b .sn => (v.S, b.sn.length)
  | .b .fr => (v.F, b.fr.length)
  | .b (.rw p) => (Vr p, 1 * (b.rws.getD p []).length)
  | _ => (v.W, 0)
theorem bdR7_map (v : BV) (Vw Vn Vr : Nat → Value) (dss : List (List Dd)) (b : Bd) : bdR7 v Vw Vn Vr dss b = (bdJ dss.length b.nts.length b.rws.length).map (rowJ v Vw Vn Vr dss b) := by
  unfold bdR7 bdR6 bdR5 bdR4 bdR3 bdR2 bdR1 bdR0 bdJ
  simp only [rowsV_map, List.map_append, List.map_map, List.map_cons, List.map_nil]
  rfl
theorem bdJ_mem {nw nn nr : Nat} {j : BJ} (h : j ∈ bdJ nw nn nr) : (∃ c, c < nw ∧ j = .wd c) ∨ j = .b .plc ∨ j = .b .lst ∨ (∃ c, c < nn ∧ j = .b (.nt c)) ∨ j = .b .nxt ∨ j = .b .sn ∨ j = .b .fr ∨ ∃ p, p < nr ∧ j = .b (.rw p) := by
  unfold bdJ at h
  simp only [List.mem_append, List.mem_map, List.mem_range, List.mem_singleton] at h
  rcases h with ((((((⟨c, hc, rfl⟩ | h) | h) | ⟨c, hc, rfl⟩) | h) | h) | h) | ⟨c, hc, rfl⟩
  · exact .inl ⟨c, hc, rfl⟩
  · exact .inr (.inl h)
  · exact .inr (.inr (.inl h))
  · exact .inr (.inr (.inr (.inl ⟨c, hc, rfl⟩)))
  · exact .inr (.inr (.inr (.inr (.inl h))))
  · exact .inr (.inr (.inr (.inr (.inr (.inl h)))))
  · exact .inr (.inr (.inr (.inr (.inr (.inr (.inl h))))))
  · exact .inr (.inr (.inr (.inr (.inr (.inr (.inr ⟨c, hc, rfl⟩))))))
theorem nodup_map_inj {α β : Type} {f : α → β} {l : List α} (h : l.Nodup) (hf : ∀ a b, f a = f b → a = b) : (l.map f).Nodup := by
  unfold List.Nodup
  rw [List.pairwise_map]
  exact h.imp (fun {a b} hne e => hne (hf a b e))
theorem bdJ_nodup (nw nn nr : Nat) : (bdJ nw nn nr).Nodup := by
  have h1 := nodup_map_inj (f := BJ.wd) (List.nodup_range (n := nw)) (fun a b e => by injection e)
  have h2 := nodup_map_inj (f := fun c => BJ.b (.nt c)) (List.nodup_range (n := nn)) (fun a b e => by injection e with e; injection e)
  have h3 := nodup_map_inj (f := fun c => BJ.b (.rw c)) (List.nodup_range (n := nr)) (fun a b e => by injection e with e; injection e)
  unfold bdJ
  have one : ∀ j : BJ, [j].Nodup := fun j => by simp
  refine List.nodup_append.2 ⟨List.nodup_append.2 ⟨List.nodup_append.2 ⟨List.nodup_append.2 ⟨List.nodup_append.2 ⟨List.nodup_append.2 ⟨List.nodup_append.2 ⟨h1, one _, ?_⟩, one _, ?_⟩, h2, ?_⟩, one _, ?_⟩, one _, ?_⟩, one _, ?_⟩, h3, ?_⟩
  all_goals
    intro x hx y hy e
    subst e
    simp only [List.mem_append, List.mem_map, List.mem_range, List.mem_singleton] at hx hy
    first
      | (subst hy; simp at hx; done)
      | (obtain ⟨q, _, rfl⟩ := hy; simp at hx; done)
theorem Rw.wb {w : World} {m : Nat} {r : Rw} (h : r.own w m) {n : Nat} (hn : n ≤ r.n * r.size) {x : Addr} (hx : rowS r.v n x) : Wb w x ∧ m ≤ x.block ∧ r.v.ownBlock = some x.block := by
  obtain ⟨b, o, l, c, i, e, hi, rfl⟩ := hx
  unfold Rw.own at h
  rcases h.2 with ⟨h1, _⟩ | ⟨g, cap, cur, h1, hb, hg, hc, _, hs, _⟩
  · rw [h1] at e; simp at e
  · rw [h1] at e
    simp only [Value.slice.injEq, Option.some.injEq, Addr.mk.injEq, and_true] at e
    obtain ⟨⟨rfl, rfl⟩, rfl, rfl⟩ := e
    refine ⟨⟨cur, r.e, hg, ?_⟩, hb, by rw [h1]; rfl⟩
    rw [hs]
    have : r.n * r.size ≤ cap * r.size := Nat.mul_le_mul_right _ hc
    show 0 + i < cap * r.size
    omega
theorem Rw.slv {w : World} {m : Nat} {r : Rw} (h : r.own w m) : SlV r.v r.n := by
  unfold Rw.own at h
  rcases h.2 with ⟨h1, h2⟩ | ⟨g, cap, cur, h1, _⟩
  · exact ⟨none, 0, by rw [h1, h2], .inl h2⟩
  · exact ⟨_, cap, h1, .inr ⟨g, 0, rfl⟩⟩
section
variable {w : World} {m : Nat} {v : BV} {nv rv wv : List Value} {dss : List (List Dd)} {b : Bd}
theorem OwnA.row (h : OwnA w m v nv rv wv dss b) {j : BJ} (hj : j ∈ bdJ dss.length b.nts.length b.rws.length) :
    liveA nv rv wv j ∧ (rowJ v (fun i => wv.getD i nilS) (fun i => nv.getD i nilS) (fun i => rv.getD i nilS) dss b j).1 = (famA v nv rv wv dss b j).v ∧
    (rowJ v (fun i => wv.getD i nilS) (fun i => nv.getD i nilS) (fun i => rv.getD i nilS) dss b j).2 ≤ (famA v nv rv wv dss b j).n * (famA v nv rv wv dss b j).size := by
  rcases bdJ_mem hj with ⟨c, hc, rfl⟩ | rfl | rfl | ⟨c, hc, rfl⟩ | rfl | rfl | rfl | ⟨c, hc, rfl⟩
  · exact ⟨by show c < wv.length; rw [h.lw]; exact hc, rfl, by show 4 * (dss.getD c []).length ≤ (dss.getD c []).length * 4; omega⟩
  · exact ⟨⟨trivial, by simp⟩, rfl, by show b.plc.length ≤ b.plc.length * 1; omega⟩
  · exact ⟨⟨trivial, by simp⟩, rfl, by show b.lst.length ≤ b.lst.length * 1; omega⟩
  · exact ⟨⟨by show c < nv.length; rw [h.ln]; exact hc, by simp⟩, rfl, by show 3 * (b.nts.getD c []).length ≤ (b.nts.getD c []).length * 3; omega⟩
  · exact ⟨⟨trivial, by simp⟩, rfl, by show b.nxt.length ≤ b.nxt.length * 1; omega⟩
  · exact ⟨⟨trivial, by simp⟩, rfl, by show b.sn.length ≤ b.sn.length * 1; omega⟩
  · exact ⟨⟨trivial, by simp⟩, rfl, by show b.fr.length ≤ b.fr.length * 1; omega⟩
  · exact ⟨⟨by show c < rv.length; rw [h.lr]; exact hc, by simp⟩, rfl, by show 1 * (b.rws.getD c []).length ≤ (b.rws.getD c []).length * 1; omega⟩
theorem OwnA.heads (h : OwnA w m v nv rv wv dss b) {j : BJ} {t : TypeId} {vs : List Value} {u : Value} (hl : liveA nv rv wv j) (e : famA v nv rv wv dss b j = hdR t vs u) (hj : j ∉ bdJ dss.length b.nts.length b.rws.length) :
    HdL w u (fun i => vs.getD i nilS) vs.length (rowsS (bdR7 v (fun i => wv.getD i nilS) (fun i => nv.getD i nilS) (fun i => rv.getD i nilS) dss b)) := by
  have ho := h.fam.own j hl
  rw [e] at ho
  obtain ⟨a, c, ea, h1⟩ := own_head ho
  refine ⟨a, c, ea, ?_⟩
  rcases h1 with h1 | ⟨g, e1, e2, e3⟩
  · exact .inl (by rw [h1]; rfl)
  · refine .inr ⟨g, 0, e1, e2, fun i hi => ⟨by rw [Nat.zero_add]; exact e3 i hi, ?_⟩⟩
    rintro ⟨r, hr, hx⟩
    rw [bdR7_map, List.mem_map] at hr
    obtain ⟨q, hq, rfl⟩ := hr
    obtain ⟨l1, l2, l3⟩ := h.row hq
    rw [l2] at hx
    obtain ⟨-, -, hb⟩ := Rw.wb (h.fam.own q l1) l3 hx
    have ap := h.fam.apart q j l1 hl (fun e => hj (e ▸ hq))
    rw [hb, e] at ap
    rcases ap with ap | ap
    · cases ap
    · apply ap
      show _ = u.ownBlock
      rw [ea, e1]
      rfl
theorem OwnA.head_ge (h : OwnA w m v nv rv wv dss b) {j : BJ} (hl : liveA nv rv wv j) (n : Nat) : HdM (famA v nv rv wv dss b j).v n m := by
  intro q o l c e _
  exact (h.fam.lt hl q (by rw [e]; rfl)).1
theorem OwnA.free (h : OwnA w m v nv rv wv dss b) : FreeBd w m w.heap.size v dss b := by
  refine ⟨h.rd, ⟨fun i => wv.getD i nilS, fun i => nv.getD i nilS, fun i => rv.getD i nilS, ?_, ⟨?_, ?_⟩, ?_⟩, h.head_ge (j := .wk) trivial _, h.head_ge (j := .b .nts) ⟨trivial, by simp⟩ _, h.head_ge (j := .b .rws) ⟨trivial, by simp⟩ _⟩
  · have hw := h.heads (j := .wk) (t := 72) (vs := wv) (u := v.W) trivial rfl (fun hq => by have := bdJ_mem hq; simp at this)
    have hn := h.heads (j := .b .nts) (t := 36) (vs := nv) (u := v.N) ⟨trivial, by simp⟩ rfl (fun hq => by have := bdJ_mem hq; simp at this)
    have hr := h.heads (j := .b .rws) (t := 25) (vs := rv) (u := v.R) ⟨trivial, by simp⟩ rfl (fun hq => by have := bdJ_mem hq; simp at this)
    rw [h.lw] at hw
    rw [h.ln] at hn
    rw [h.lr] at hr
    exact ⟨hw, fun i hi => Rw.slv (h.fam.own (.wd i) (by show i < wv.length; rw [h.lw]; exact hi)), Rw.slv (h.fam.own (.b .plc) ⟨trivial, by simp⟩), Rw.slv (h.fam.own (.b .lst) ⟨trivial, by simp⟩), hn,
      fun i hi => Rw.slv (h.fam.own (.b (.nt i)) ⟨by show i < nv.length; rw [h.ln]; exact hi, by simp⟩), Rw.slv (h.fam.own (.b .nxt) ⟨trivial, by simp⟩), Rw.slv (h.fam.own (.b .sn) ⟨trivial, by simp⟩), Rw.slv (h.fam.own (.b .fr) ⟨trivial, by simp⟩), hr,
      fun i hi => Rw.slv (h.fam.own (.b (.rw i)) ⟨by show i < rv.length; rw [h.lr]; exact hi, by simp⟩)⟩
  · rintro x ⟨r, hr, hx⟩
    rw [bdR7_map, List.mem_map] at hr
    obtain ⟨q, hq, rfl⟩ := hr
    obtain ⟨l1, l2, l3⟩ := h.row hq
    rw [l2] at hx
    exact (Rw.wb (h.fam.own q l1) l3 hx).1
  · rw [bdR7_map, List.pairwise_map]
    refine List.Pairwise.imp_of_mem (R := fun a b => a ≠ b) (fun {p q} hp hq hne x hx hy => ?_) (bdJ_nodup _ _ _)
    obtain ⟨l1, l2, l3⟩ := h.row hp
    obtain ⟨k1, k2, k3⟩ := h.row hq
    rw [l2] at hx
    rw [k2] at hy
    have a1 := (Rw.wb (h.fam.own p l1) l3 hx).2.2
    have a2 := (Rw.wb (h.fam.own q k1) k3 hy).2.2
    rcases h.fam.apart p q l1 k1 hne with ap | ap
    · rw [a1] at ap; cases ap
    · rw [a1, a2] at ap; exact ap rfl
  · rintro x ⟨r, hr, hx⟩
    rw [bdR7_map, List.mem_map] at hr
    obtain ⟨q, hq, rfl⟩ := hr
    obtain ⟨l1, l2, l3⟩ := h.row hq
    rw [l2] at hx
    have := Rw.wb (h.fam.own q l1) l3 hx
    exact ⟨this.2.1, this.1.lt⟩
end
theorem rd_above {w w' : World} {m : Nat} (hh : ∀ q, m ≤ q → q < w.heap.size → w'.heap[q]? = w.heap[q]?) (hs : w.heap.size ≤ w'.heap.size) {v : Value} {zs : List Int} (h : Rd w v zs) (hr : ∀ x, rowS v zs.length x → m ≤ x.block) : Rd w' v zs := by
  obtain ⟨a, c, rfl, h⟩ := h
  refine ⟨a, c, rfl, ?_⟩
  rcases h with h | ⟨b, o, rfl, hb, hc⟩
  · exact .inl h
  · by_cases hz : zs.length = 0
    · exact .inl (List.eq_nil_of_length_eq_zero hz)
    have hm := hr ⟨b, o + 0, none⟩ ⟨b, o, _, c, 0, rfl, by omega, rfl⟩
    exact .inr ⟨b, o, rfl, Nat.lt_of_lt_of_le hb hs, fun i hi => (World.cell?_of_block (a := ⟨b, o + i, none⟩) (hh b hm hb)).trans (hc i hi)⟩
theorem rdN_above {w w' : World} {m : Nat} (hh : ∀ q, m ≤ q → q < w.heap.size → w'.heap[q]? = w.heap[q]?) (hs : w.heap.size ≤ w'.heap.size) {v : Value} {zs : List Nt} (h : RdN w v zs) (hr : ∀ x, rowS v (3 * zs.length) x → m ≤ x.block) : RdN w' v zs := by
  obtain ⟨a, c, rfl, h⟩ := h
  refine ⟨a, c, rfl, ?_⟩
  rcases h with h | ⟨b, o, rfl, hb, hc⟩
  · exact .inl h
  · by_cases hz : zs.length = 0
    · exact .inl (List.eq_nil_of_length_eq_zero hz)
    have hm := hr ⟨b, o + 0, none⟩ ⟨b, o, _, _, 0, rfl, by omega, rfl⟩
    exact .inr ⟨b, o, rfl, Nat.lt_of_lt_of_le hb hs, fun i x hx => (hc i x hx).same (hh b hm hb)⟩
theorem rdD_above {w w' : World} {m : Nat} (hh : ∀ q, m ≤ q → q < w.heap.size → w'.heap[q]? = w.heap[q]?) (hs : w.heap.size ≤ w'.heap.size) {v : Value} {zs : List Dd} (h : RdD w v zs) (hr : ∀ x, rowS v (4 * zs.length) x → m ≤ x.block) : RdD w' v zs := by
  obtain ⟨a, c, rfl, h⟩ := h
  refine ⟨a, c, rfl, ?_⟩
  rcases h with h | ⟨b, o, rfl, hb, hc⟩
  · exact .inl h
  · by_cases hz : zs.length = 0
    · exact .inl (List.eq_nil_of_length_eq_zero hz)
    have hm := hr ⟨b, o + 0, none⟩ ⟨b, o, _, _, 0, rfl, by omega, rfl⟩
    refine .inr ⟨b, o, rfl, Nat.lt_of_lt_of_le hb hs, fun i hi => ?_⟩
    obtain ⟨c0, c1, c2, c3⟩ := hc i hi
    have e := hh b hm hb
    exact ⟨(World.cell?_of_block (a := ⟨b, _, none⟩) e).trans c0, (World.cell?_of_block (a := ⟨b, _, none⟩) e).trans c1, (World.cell?_of_block (a := ⟨b, _, none⟩) e).trans c2, (World.cell?_of_block (a := ⟨b, _, none⟩) e).trans c3⟩
theorem hd_above {w w' : World} {m : Nat} (hh : ∀ q, m ≤ q → q < w.heap.size → w'.heap[q]? = w.heap[q]?) (hs : w.heap.size ≤ w'.heap.size) {v : Value} {V : Nat → Value} {n : Nat} {S : Addr → Prop} (h : HdL w v V n S) (hm : HdM v n m) : HdL w' v V n S := by
  obtain ⟨a, c, rfl, h⟩ := h
  refine ⟨a, c, rfl, ?_⟩
  rcases h with h | ⟨b, o, rfl, hb, hc⟩
  · exact .inl h
  · by_cases hz : n = 0
    · exact .inl hz
    · exact .inr ⟨b, o, rfl, Nat.lt_of_lt_of_le hb hs, fun i hi => ⟨(World.cell?_of_block (a := ⟨b, o + i, none⟩) (hh b (hm b o n c rfl (by omega)) hb)).trans (hc i hi).1, (hc i hi).2⟩⟩
theorem row_in {v : BV} {Vw Vn Vr : Nat → Value} {dss : List (List Dd)} {b : Bd} {j : BJ} (hj : j ∈ bdJ dss.length b.nts.length b.rws.length) {x : Addr} (hx : rowS (rowJ v Vw Vn Vr dss b j).1 (rowJ v Vw Vn Vr dss b j).2 x) : rowsS (bdR7 v Vw Vn Vr dss b) x :=
  ⟨_, by rw [bdR7_map]; exact List.mem_map.2 ⟨j, hj, rfl⟩, hx⟩
theorem bdJ_w {nw nn nr c : Nat} (h : c < nw) : BJ.wd c ∈ bdJ nw nn nr := by simp [bdJ, h]
theorem bdJ_n {nw nn nr c : Nat} (h : c < nn) : BJ.b (.nt c) ∈ bdJ nw nn nr := by simp [bdJ, h]
theorem bdJ_r {nw nn nr c : Nat} (h : c < nr) : BJ.b (.rw c) ∈ bdJ nw nn nr := by simp [bdJ, h]
theorem FreeBd.above {w w' : World} {m M : Nat} {v : BV} {dss : List (List Dd)} {b : Bd} (h : FreeBd w m M v dss b) (hh : ∀ q, m ≤ q → q < w.heap.size → w'.heap[q]? = w.heap[q]?) (hs : w.heap.size ≤ w'.heap.size) : FreeBd w' m M v dss b := by
  obtain ⟨Vw, Vn, Vr, H, L, G⟩ := h.ex
  obtain ⟨d1, d2, d3⟩ := h.hd
  have gr : ∀ j, j ∈ bdJ dss.length b.nts.length b.rws.length → ∀ x, rowS (rowJ v Vw Vn Vr dss b j).1 (rowJ v Vw Vn Vr dss b j).2 x → m ≤ x.block := fun j hj x hx => (G x (row_in hj hx)).1
  refine ⟨⟨?_, rd_above hh hs h.rd.P (gr (.b .plc) (by simp [bdJ])), rd_above hh hs h.rd.L (gr (.b .lst) (by simp [bdJ])), ?_, rd_above hh hs h.rd.X (gr (.b .nxt) (by simp [bdJ])), rd_above hh hs h.rd.S (gr (.b .sn) (by simp [bdJ])), rd_above hh hs h.rd.F (gr (.b .fr) (by simp [bdJ])), ?_⟩, ⟨Vw, Vn, Vr, ⟨hd_above hh hs H.hW d1, H.sW, H.sP, H.sL, hd_above hh hs H.hN d2, H.sN, H.sX, H.sS, H.sF, hd_above hh hs H.hR d3, H.sR⟩, ⟨fun x hx => ?_, L.ap⟩, G⟩, h.hd⟩
  · obtain ⟨a, c, e, hw⟩ := h.rd.W
    refine ⟨a, c, e, ?_⟩
    rcases hw with hw | ⟨q, o, rfl, hq, hc⟩
    · exact .inl hw
    · by_cases hz : dss.length = 0
      · exact .inl (List.eq_nil_of_length_eq_zero hz)
      obtain ⟨a', c', e', H1⟩ := H.hW
      rw [e] at e'
      simp only [Value.slice.injEq, true_and] at e'
      obtain ⟨rfl, rfl⟩ := e'
      rcases H1 with H1 | ⟨q', o', e2, _, H2⟩
      · exact absurd H1 hz
      simp only [Option.some.injEq, Addr.mk.injEq, and_true] at e2
      obtain ⟨rfl, rfl⟩ := e2
      refine .inr ⟨q, o, rfl, Nat.lt_of_lt_of_le hq hs, fun i hi => ?_⟩
      obtain ⟨vi, h1, h2⟩ := hc i hi
      have ev : vi = Vw i := by have := h1.symm.trans (H2 i hi).1; exact Option.some.inj this
      subst ev
      exact ⟨_, (World.cell?_of_block (a := ⟨q, o + i, none⟩) (hh q (d1 q o _ _ e (by omega)) hq)).trans h1, rdD_above hh hs h2 (gr (.wd i) (bdJ_w hi))⟩
  · obtain ⟨a, c, e, hw⟩ := h.rd.N
    refine ⟨a, c, e, ?_⟩
    rcases hw with hw | ⟨q, o, rfl, hq, hc⟩
    · exact .inl hw
    · by_cases hz : b.nts.length = 0
      · exact .inl (List.eq_nil_of_length_eq_zero hz)
      obtain ⟨a', c', e', H1⟩ := H.hN
      rw [e] at e'
      simp only [Value.slice.injEq, true_and] at e'
      obtain ⟨rfl, rfl⟩ := e'
      rcases H1 with H1 | ⟨q', o', e2, _, H2⟩
      · exact absurd H1 hz
      simp only [Option.some.injEq, Addr.mk.injEq, and_true] at e2
      obtain ⟨rfl, rfl⟩ := e2
      refine .inr ⟨q, o, rfl, Nat.lt_of_lt_of_le hq hs, fun i hi => ?_⟩
      obtain ⟨vi, h1, h2⟩ := hc i hi
      have ev : vi = Vn i := by have := h1.symm.trans (H2 i hi).1; exact Option.some.inj this
      subst ev
      exact ⟨_, (World.cell?_of_block (a := ⟨q, o + i, none⟩) (hh q (d2 q o _ _ e (by omega)) hq)).trans h1, rdN_above hh hs h2 (gr (.b (.nt i)) (bdJ_n hi))⟩
  · obtain ⟨a, c, e, hw⟩ := h.rd.R
    refine ⟨a, c, e, ?_⟩
    rcases hw with hw | ⟨q, o, rfl, hq, hc⟩
    · exact .inl hw
    · by_cases hz : b.rws.length = 0
      · exact .inl (List.eq_nil_of_length_eq_zero hz)
      obtain ⟨a', c', e', H1⟩ := H.hR
      rw [e] at e'
      simp only [Value.slice.injEq, true_and] at e'
      obtain ⟨rfl, rfl⟩ := e'
      rcases H1 with H1 | ⟨q', o', e2, _, H2⟩
      · exact absurd H1 hz
      simp only [Option.some.injEq, Addr.mk.injEq, and_true] at e2
      obtain ⟨rfl, rfl⟩ := e2
      refine .inr ⟨q, o, rfl, Nat.lt_of_lt_of_le hq hs, fun i hi => ?_⟩
      obtain ⟨vi, h1, h2⟩ := hc i hi
      have ev : vi = Vr i := by have := h1.symm.trans (H2 i hi).1; exact Option.some.inj this
      subst ev
      exact ⟨_, (World.cell?_of_block (a := ⟨q, o + i, none⟩) (hh q (d3 q o _ _ e (by omega)) hq)).trans h1, rd_above hh hs h2 (fun x hx => gr (.b (.rw i)) (bdJ_r hi) x (by show rowS _ (1 * _) x; rw [Nat.one_mul]; exact hx))⟩
  · obtain ⟨cur, t, h1, h2⟩ := L.wb x hx
    exact ⟨cur, t, (hh _ (G x hx).1 (L.wb x hx).lt).trans h1, h2⟩
end
section
structure OwnVal (w : World) (m : Nat) (v : BV) (nv rv : List Value) (bs N : Nat) (dss : List (List Dd)) (b : Bd) : Prop where
  fam : Fam w m (fun i => liveB nv rv i ∧ i ≠ .bd) (famR 0 v nv rv b)
  ln : nv.length = b.nts.length
  lr : rv.length = b.rws.length
  work : RdXN w bs N v.W dss
  top : N ≤ w.heap.size
  out : ∀ i, liveB nv rv i → i ≠ .bd → ∀ k, (famR 0 v nv rv b i).v.ownBlock = some k → k < bs ∨ N ≤ k
section
variable {w w' : World} {m D : Nat} {v : BV} {nv rv : List Value} {bs N : Nat} {dss : List (List Dd)} {b : Bd}
theorem famR_no (D : Nat) (v : BV) (nv rv : List Value) (b : Bd) {i : BI} (h : i ≠ .bd) : famR D v nv rv b i = famR 0 v nv rv b i := by cases i <;> first | rfl | exact absurd rfl h
theorem OwnBd.val (h : OwnBd w m D v nv rv bs N dss b) : OwnVal w m v nv rv bs N dss b :=
  ⟨h.fam.congr (fun _ hi => hi.1) (fun i hi => (famR_no D v nv rv b hi.2).symm), h.ln, h.lr, h.work, h.top, fun i hi hb k hk => h.out i hi k (by rw [famR_no D v nv rv b hb]; exact hk)⟩
theorem OwnVal.keep (h : OwnVal w m v nv rv bs N dss b) (k : Keep w w') : OwnVal w' m v nv rv bs N dss b :=
  ⟨h.fam.keep k, h.ln, h.lr, h.work.kept k.grownBy (by simp), Nat.le_trans h.top k.size, h.out⟩
theorem OwnVal.far (h : OwnVal w m v nv rv bs N dss b) {row : Option Nat} (hg : w.grownBy w' row) (hr : ∀ k, row = some k → k < m ∧ (k < bs ∨ N ≤ k)) : OwnVal w' m v nv rv bs N dss b :=
  ⟨h.fam.far hg (fun i hi => by
    cases e : (famR 0 v nv rv b i).v.ownBlock with
    | none => exact .inl rfl
    | some k => exact .inr (fun e' => by have := (h.fam.lt hi k e).1; have := hr k e'.symm; omega)), h.ln, h.lr, h.work.kept hg (fun g hg' => (hr g hg').2), Nat.le_trans h.top hg.size, h.out⟩
theorem OwnVal.box (h : OwnVal w m v nv rv bs N dss b) (hm : m ≤ w.heap.size) : OwnBd (w.alloc (.cells v.arr 29)) m w.heap.size v nv rv bs N dss b := by
  have k : Keep w (w.alloc (.cells v.arr 29)) := (Keep.refl w).alloc _
  have ho : (bdR w.heap.size v).own (w.alloc (.cells v.arr 29)) m := by
    refine ⟨rfl, .inr ⟨w.heap.size, 1, v.arr, rfl, hm, heap_alloc_new w _, Nat.le_refl _, by decide, rfl, ?_⟩⟩
    rfl
  have F := h.fam.add (i := .bd) (fun hi => hi.2 rfl) (r := bdR w.heap.size v) rfl k ho (fun q hq => by have e : w.heap.size = q := Option.some.inj hq; omega)
  have hk := h.keep k
  refine ⟨F.congr (fun i hi => ?_) (fun i hi => ?_), h.ln, h.lr, hk.work, hk.top, fun i hi q hq => ?_⟩
  · by_cases e : i = .bd
    · exact .inr e
    · exact .inl ⟨hi, e⟩
  · by_cases e : i = .bd
    · subst e; rw [upd_same]; rfl
    · rw [upd_other _ _ e]; exact famR_no _ _ _ _ _ e
  · by_cases e : i = .bd
    · subst e
      have : w.heap.size = q := Option.some.inj hq
      have := h.top
      right; omega
    · rw [famR_no _ _ _ _ _ e] at hq
      exact h.out i hi e q hq
theorem OwnVal.rd (h : OwnVal w m v nv rv bs N dss b) (hm : m ≤ w.heap.size) : RdBd (w.alloc (.cells v.arr 29)) v dss b := (h.box hm).rd
theorem OwnVal.rd0 (h : OwnVal w m v nv rv bs N dss b) : RdBd w v dss b := by
  have oN : ∀ {c : Nat}, c < b.nts.length → AppT cN 66 3 w m (nv.getD c nilS) (b.nts.getD c []) := fun {c} hc => h.fam.own (.nt c) ⟨by show c < nv.length; rw [h.ln]; exact hc, by simp⟩
  have oR : ∀ {p : Nat}, p < b.rws.length → Own w m (rv.getD p nilS) (b.rws.getD p []) := fun {p} hp => h.fam.own (.rw p) ⟨by show p < rv.length; rw [h.lr]; exact hp, by simp⟩
  have o1 : Own w m v.P b.plc := h.fam.own .plc ⟨trivial, by simp⟩
  have o2 : Own w m v.L b.lst := h.fam.own .lst ⟨trivial, by simp⟩
  have o3 : Own w m v.X b.nxt := h.fam.own .nxt ⟨trivial, by simp⟩
  have o4 : Own w m v.S b.sn := h.fam.own .sn ⟨trivial, by simp⟩
  have o5 : Own w m v.F b.fr := h.fam.own .fr ⟨trivial, by simp⟩
  refine ⟨h.work.rd, o1.rd, o2.rd, ?_, o3.rd, o4.rd, o5.rd, ?_⟩
  · obtain ⟨a, cap, e, h1⟩ := own_head (h.fam.own .nts ⟨trivial, by simp⟩)
    rw [h.ln] at e
    refine ⟨a, cap, e, ?_⟩
    rcases h1 with h1 | ⟨g, e1, e2, e3⟩
    · left
      have := h.ln
      rw [h1] at this
      exact List.eq_nil_of_length_eq_zero this.symm
    · exact .inr ⟨g, 0, e1, e2, fun i hi => ⟨_, by rw [Nat.zero_add]; exact e3 i (by rw [h.ln]; exact hi), AppT.rd cN_len (oN hi)⟩⟩
  · obtain ⟨a, cap, e, h1⟩ := own_head (h.fam.own .rws ⟨trivial, by simp⟩)
    rw [h.lr] at e
    refine ⟨a, cap, e, ?_⟩
    rcases h1 with h1 | ⟨g, e1, e2, e3⟩
    · left
      have := h.lr
      rw [h1] at this
      exact List.eq_nil_of_length_eq_zero this.symm
    · exact .inr ⟨g, 0, e1, e2, fun i hi => ⟨_, by rw [Nat.zero_add]; exact e3 i (by rw [h.lr]; exact hi), (oR hi).rd⟩⟩
theorem Fam.base_le {ι : Type} {m' : Nat} {live : ι → Prop} {R : ι → Rw} (h : Fam w m live R) (hm : m' ≤ m) : Fam w m' live R :=
  ⟨fun i hi => by
    have o := h.own i hi
    refine ⟨o.1, ?_⟩
    rcases o.2 with q | ⟨g, cap, cur, e, hg, r⟩
    · exact .inl q
    · exact .inr ⟨g, cap, cur, e, Nat.le_trans hm hg, r⟩, h.apart⟩
theorem OwnVal.base_le {m' : Nat} (h : OwnVal w m v nv rv bs N dss b) (hm : m' ≤ m) : OwnVal w m' v nv rv bs N dss b := ⟨h.fam.base_le hm, h.ln, h.lr, h.work, h.top, h.out⟩
theorem OwnBd.heapD (h : OwnBd w m D v nv rv bs N dss b) : w.heap[D]? = some (.cells v.arr 29 (0, 0)) := by
  have o := h.fam.own .bd trivial
  rcases o.2 with ⟨e, _⟩ | ⟨g, cap, cur, e, _, hg, _, _, hs, ht⟩
  · have e : Value.slice (some ⟨D, 0, none⟩) 1 1 = .slice none 0 0 := e
    simp at e
  · have e : Value.slice (some ⟨D, 0, none⟩) 1 1 = .slice (some ⟨g, 0, none⟩) 1 cap := e
    simp only [Value.slice.injEq, Option.some.injEq, Addr.mk.injEq, and_true, true_and] at e
    obtain ⟨rfl, rfl⟩ := e
    have hs : cur.size = 1 * 8 := hs
    have ht : cur.toList.take (1 * 8) = [v.W, v.P, v.L, v.N, v.X, v.S, v.F, v.R] := ht
    rw [List.take_of_length_le (by rw [Array.length_toList]; omega)] at ht
    have : cur = v.arr := Array.ext' ht
    rw [hg, this]
    rfl
end
end
theorem AppD.kept {w w' : World} {base : Nat} {v : Value} {ds : List Dd} {row : Option Nat} (h : AppD w base v ds) (hg : w.grownBy w' row) (hne : v.ownBlock = none ∨ v.ownBlock ≠ row) : AppD w' base v ds :=
  World.ownsRow.kept h hg hne
theorem AppD.lt {w : World} {base : Nat} {v : Value} {ds : List Dd} (h : AppD w base v ds) : ∀ k, v.ownBlock = some k → base ≤ k ∧ k < w.heap.size := World.ownsRow.lt h
theorem AppD.base_le {w : World} {base base' : Nat} {v : Value} {ds : List Dd} (h : AppD w base v ds) (hb : base' ≤ base) : AppD w base' v ds := by
  refine ⟨h.1, ?_⟩
  rcases h.2 with q | ⟨g, cap, cur, e, hg, r⟩
  · exact .inl q
  · exact .inr ⟨g, cap, cur, e, Nat.le_trans hb hg, r⟩
theorem ne_of_ge {v : Value} {base c : Nat} (h : ∀ k, v.ownBlock = some k → base ≤ k) (hc : c < base) : v.ownBlock = none ∨ v.ownBlock ≠ some c := by
  cases hv : v.ownBlock with
  | none => exact .inl rfl
  | some k => exact .inr (fun e => by have := h k hv; simp at e; omega)
theorem flat_set (ds : List Dd) (k : Nat) (x : Int) : k < ds.length → (ds.flatMap cD).set (k * 4 + 3) (.int .i64 x) = (ds.set k ((ds.getD k zD).1, (ds.getD k zD).2.1, (ds.getD k zD).2.2.1, x)).flatMap cD := by
  induction ds generalizing k with
  | nil => intro hk; simp at hk
  | cons d r ih =>
    intro hk
    cases k with
    | zero => simp [cD]
    | succ k =>
      have h1 := ih k (by simpa using hk)
      rw [List.flatMap_cons, List.set_append_right _ _ (by simp [cD]; omega), show (k + 1) * 4 + 3 - (cD d).length = k * 4 + 3 by simp [cD]; omega, h1]
      simp
theorem AppD.put {w : World} {base g n c : Nat} {ds : List Dd} (h : AppD w base (.slice (some ⟨g, 0, none⟩) n c) ds) {k : Nat} (hk : k < ds.length) (x : Int) :
    AppD (w.setCell ⟨g, k * 4 + 3, none⟩ (.int .i64 x)) base (.slice (some ⟨g, 0, none⟩) n c) (ds.set k ((ds.getD k zD).1, (ds.getD k zD).2.1, (ds.getD k zD).2.2.1, x)) := by
  have hlen : (ds.flatMap cD).length = ds.length * 4 := h.1
  have e := flat_set ds k x hk
  rcases h.2 with ⟨q, _⟩ | ⟨g', cap, cur, e1, hb, hg, hc1, hc2, hs, ht⟩
  · cases q
  · simp only [Value.slice.injEq, Option.some.injEq, Addr.mk.injEq, and_true] at e1
    obtain ⟨rfl, rfl, rfl⟩ := e1
    refine ⟨by rw [← e, List.length_set, List.length_set]; exact hlen, .inr ⟨g, _, cur.setIfInBounds (k * 4 + 3) (.int .i64 x), by rw [List.length_set], hb, ?_, by rw [List.length_set]; exact hc1, hc2, by simpa using hs, ?_⟩⟩
    · rw [heap_setCell_same w g (k * 4 + 3) _ _ _ hg]
    · rw [Array.toList_setIfInBounds, List.length_set, List.take_set, ht, e]
structure AppX (w : World) (base N : Nat) (v : Value) (V : Nat → Value) (dss : List (List Dd)) : Prop where
  row : w.ownsRow base 72 1 v dss.length ((List.range dss.length).map V)
  lt : ∀ k, v.ownBlock = some k → k < N
  each : ∀ i, i < dss.length → AppD w base (V i) (dss.getD i [])
  lts : ∀ i, i < dss.length → ∀ k, (V i).ownBlock = some k → k < N
  out : ∀ i, i < dss.length → ∀ k, (V i).ownBlock = some k → v.ownBlock ≠ some k
  apart : ∀ i j, i < j → j < dss.length → ∀ k, (V i).ownBlock = some k → (V j).ownBlock ≠ some k
theorem AppX.kept {w w' : World} {base N c : Nat} {v : Value} {V : Nat → Value} {dss : List (List Dd)} (h : AppX w base N v V dss) (hg : w.grownBy w' (some c)) (hc : c < base) : AppX w' base N v V dss :=
  ⟨World.ownsRow.kept h.row hg (ne_of_ge (fun k hk => (World.ownsRow.lt h.row k hk).1) hc), h.lt, fun i hi => (h.each i hi).kept hg (ne_of_ge (h.each i hi).ge hc), h.lts, h.out, h.apart⟩
theorem AppX.keep {w w' : World} {base N : Nat} {v : Value} {V : Nat → Value} {dss : List (List Dd)} (h : AppX w base N v V dss) (k : Keep w w') : AppX w' base N v V dss :=
  ⟨World.ownsRow.kept h.row k.grownBy (by cases v.ownBlock <;> simp), h.lt, fun i hi => (h.each i hi).keep k, h.lts, h.out, h.apart⟩
theorem AppX.up {w : World} {base N N' : Nat} {v : Value} {V : Nat → Value} {dss : List (List Dd)} (h : AppX w base N v V dss) (hN : N ≤ N') : AppX w base N' v V dss :=
  ⟨h.row, fun k hk => Nat.lt_of_lt_of_le (h.lt k hk) hN, h.each, fun i hi k hk => Nat.lt_of_lt_of_le (h.lts i hi k hk) hN, h.out, h.apart⟩
theorem range_getV (V : Nat → Value) (n i : Nat) (h : i < n) : ((List.range n).map V)[i]? = some (V i) := by
  rw [List.getElem?_map, List.getElem?_range h]; rfl
theorem AppX.at {w : World} {base N : Nat} {v : Value} {V : Nat → Value} {dss : List (List Dd)} (h : AppX w base N v V dss) (hn : 0 < dss.length) :
    ∃ g c, v = .slice (some ⟨g, 0, none⟩) dss.length c ∧ base ≤ g ∧ g < N ∧ g < w.heap.size ∧ dss.length ≤ c ∧ (∀ i, i < dss.length → w.cell? ⟨g, i, none⟩ = some (V i)) ∧ ∀ i, w.frozen? ⟨g, i, none⟩ = false := by
  have h2 := h.row
  have hlt := World.ownsRow.lt h2
  have hN := h.lt
  rcases h2.2 with ⟨_, hz⟩ | ⟨g, cap, cur, rfl, hb, hg, hc, _⟩
  · omega
  · refine ⟨g, cap, rfl, hb, hN g rfl, (hlt g rfl).2, hc, fun i hi => ?_, fun i => frozen_of_row w g i _ _ hg⟩
    rw [World.ownsRow.cellAt h2 i (by simpa using hi), range_getV V _ i hi]
theorem AppX.rdW {w : World} {base N : Nat} {v : Value} {V : Nat → Value} {dss : List (List Dd)} (h : AppX w base N v V dss) : RdW w v dss := by
  by_cases hn : 0 < dss.length
  · obtain ⟨g, c, rfl, _, _, hg, _, hc, _⟩ := h.at hn
    exact ⟨_, _, rfl, .inr ⟨g, 0, rfl, hg, fun i hi => ⟨V i, by rw [Nat.zero_add]; exact hc i hi, (h.each i hi).ownD.rd⟩⟩⟩
  · have h0 : dss = [] := List.eq_nil_of_length_eq_zero (by omega)
    subst h0
    rcases h.row.2 with ⟨rfl, _⟩ | ⟨g, cap, cur, rfl, _⟩
    · exact ⟨none, 0, rfl, .inl rfl⟩
    · exact ⟨_, _, rfl, .inl rfl⟩
theorem RdX.kept {w w' : World} {base c : Nat} {v : Value} {dss : List (List Dd)} (h : RdX w base v dss) (hg : w.grownBy w' (some c)) (hc : c < base) : RdX w' base v dss := by
  obtain ⟨a, cap, hv, h⟩ := h
  refine ⟨a, cap, hv, ?_⟩
  rcases h with h | ⟨b, off, ha, hbb, hb, hl⟩
  · exact .inl h
  · refine .inr ⟨b, off, ha, hbb, Nat.lt_of_lt_of_le hb hg.size, fun i hi => ?_⟩
    obtain ⟨vi, h1, h2⟩ := hl i hi
    have hblk : w'.heap[b]? = w.heap[b]? := hg.block b hb (by simp; omega)
    refine ⟨vi, ?_, h2.kept hg (ne_of_ge h2.ge hc)⟩
    simp only [World.cell?, hblk] at h1 ⊢
    exact h1
theorem AppX.rdX {w : World} {base N : Nat} {v : Value} {V : Nat → Value} {dss : List (List Dd)} (h : AppX w base N v V dss) : RdX w base v dss := by
  by_cases hn : 0 < dss.length
  · obtain ⟨g, c, rfl, hb, _, hg, _, hc, _⟩ := h.at hn
    exact ⟨_, _, rfl, .inr ⟨g, 0, rfl, hb, hg, fun i hi => ⟨V i, by rw [Nat.zero_add]; exact hc i hi, h.each i hi⟩⟩⟩
  · have h0 : dss = [] := List.eq_nil_of_length_eq_zero (by omega)
    subst h0
    rcases h.row.2 with ⟨rfl, _⟩ | ⟨g, cap, cur, rfl, _⟩
    · exact ⟨none, 0, rfl, .inl rfl⟩
    · exact ⟨_, _, rfl, .inl rfl⟩
theorem AppX.push {w w1 : World} {base N : Nat} {v v' u : Value} {V : Nat → Value} {dss : List (List Dd)} {ds : List Dd} (h : AppX w base N v V dss) (hu : AppD w N u ds) (hb : base ≤ N)
    (hown : w1.ownsRow base 72 1 v' (dss.length + 1) ((List.range dss.length).map V ++ [u])) (hgrow : w.grownBy w1 v.ownBlock) (hblk : v'.ownBlock = v.ownBlock ∨ v'.ownBlock = some w.heap.size) (hN : N ≤ w.heap.size) :
    AppX w1 base w1.heap.size v' (fun i => if i = dss.length then u else V i) (dss ++ [ds]) := by
  have hl : (dss ++ [ds]).length = dss.length + 1 := by simp
  have hs := hgrow.size
  have vne : ∀ k, u.ownBlock = some k → v.ownBlock ≠ some k := fun k hk e => by have := (hu.lt k hk).1; have := h.lt k e; omega
  have older : ∀ i, i < dss.length + 1 → i ≠ dss.length → i < dss.length := fun i h1 h2 => by omega
  refine ⟨?_, fun k hk => (World.ownsRow.lt hown k hk).2, fun i hi => ?_, fun i hi k hk => ?_, fun i hi k hk => ?_, fun i j hij hj k hk => ?_⟩
  · rw [hl, List.range_succ, List.map_append]
    have e : (List.range dss.length).map (fun i => if i = dss.length then u else V i) = (List.range dss.length).map V := by
      apply List.map_congr_left
      intro i hi
      rw [List.mem_range] at hi
      rw [if_neg (by omega)]
    rw [e]
    simpa using hown
  · rw [hl] at hi
    by_cases e : i = dss.length
    · subst e
      rw [if_pos rfl, getD_last dss ds []]
      refine (hu.base_le hb).kept hgrow ?_
      cases hv : u.ownBlock with
      | none => exact .inl rfl
      | some k => exact .inr (fun e => vne k hv e.symm)
    · rw [if_neg e, getD_left dss [ds] i [] (older i hi e)]
      refine (h.each i (older i hi e)).kept hgrow ?_
      cases hv : (V i).ownBlock with
      | none => exact .inl rfl
      | some k => exact .inr (fun e2 => h.out i (older i hi e) k hv e2.symm)
  · rw [hl] at hi
    by_cases e : i = dss.length
    · rw [if_pos e] at hk
      have := (hu.lt k hk).2
      omega
    · rw [if_neg e] at hk
      have := h.lts i (older i hi e) k hk
      omega
  · rw [hl] at hi
    by_cases e : i = dss.length
    · rw [if_pos e] at hk
      rcases hblk with e2 | e2
      · rw [e2]; exact vne k hk
      · rw [e2]
        have := (hu.lt k hk).2
        simp only [ne_eq, Option.some.injEq]
        omega
    · rw [if_neg e] at hk
      rcases hblk with e2 | e2
      · rw [e2]; exact h.out i (older i hi e) k hk
      · rw [e2]
        have := h.lts i (older i hi e) k hk
        simp only [ne_eq, Option.some.injEq]
        omega
  · rw [hl] at hj
    rw [if_neg (show i ≠ dss.length by omega)] at hk
    by_cases e : j = dss.length
    · rw [if_pos e]
      intro e2
      have := (hu.lt k e2).1
      have := h.lts i (by omega) k hk
      omega
    · rw [if_neg e]
      exact h.apart i j hij (by omega) k hk
theorem getD_setW {α : Type} (l : List α) (i j : Nat) (x z : α) (hi : i < l.length) : (l.set i x).getD j z = if i = j then x else l.getD j z := by
  rw [List.getD_eq_getElem?_getD, List.getElem?_set]
  by_cases e : i = j
  · subst e; rw [if_pos rfl, if_pos hi, if_pos rfl]; rfl
  · rw [if_neg e, if_neg e, List.getD_eq_getElem?_getD]
theorem AppX.put {w : World} {base N : Nat} {v : Value} {V : Nat → Value} {dss : List (List Dd)} (h : AppX w base N v V dss) {i k g n c : Nat} (hi : i < dss.length) (hV : V i = .slice (some ⟨g, 0, none⟩) n c) (hk : k < (dss.getD i []).length) (x : Int) :
    ∃ ds, ds.length = (dss.getD i []).length ∧ AppX (w.setCell ⟨g, k * 4 + 3, none⟩ (.int .i64 x)) base N v V (dss.set i ds) := by
  have ob : (V i).ownBlock = some g := by rw [hV]; rfl
  have hg := grown_put w g (k * 4 + 3) (.int .i64 x)
  have hap := h.each i hi
  rw [hV] at hap
  refine ⟨(dss.getD i []).set k (((dss.getD i []).getD k zD).1, ((dss.getD i []).getD k zD).2.1, ((dss.getD i []).getD k zD).2.2.1, x), by rw [List.length_set], ⟨?_, h.lt, fun j hj => ?_, fun j hj => h.lts j (by simpa using hj), fun j hj => h.out j (by simpa using hj), fun a b hab hb => h.apart a b hab (by simpa using hb)⟩⟩
  · rw [List.length_set]
    refine World.ownsRow.kept h.row hg ?_
    exact .inr (h.out i hi g ob)
  · rw [List.length_set] at hj
    rw [getD_setW dss i j _ [] hi]
    by_cases e : i = j
    · subst e
      rw [if_pos rfl, hV]
      exact hap.put hk x
    · rw [if_neg e]
      refine (h.each j hj).kept hg ?_
      cases hv : (V j).ownBlock with
      | none => exact .inl rfl
      | some q =>
        refine .inr (fun e2 => ?_)
        simp only [Option.some.injEq] at e2
        subst e2
        rcases Nat.lt_or_gt_of_ne e with hl | hl
        · exact h.apart i j hl hj q ob hv
        · exact h.apart j i hl hi q hv ob
section
section
variable {w w1 w2 w' : World} {m D : Nat} {v : BV} {nv rv : List Value} {bs N : Nat} {dss : List (List Dd)} {b : Bd}
end
structure OwnLW (w : World) (bs N : Nat) (v : Value) (wv : List Value) (dss : List (List Dd)) : Prop where
  ll : OwnLL 72 ddR w bs v wv dss
  lt : ∀ o, llLive wv.length o → ∀ k, (llR 72 ddR v wv dss o).v.ownBlock = some k → k < N
theorem OwnLW.kept {w w' : World} {bs N : Nat} {v : Value} {wv : List Value} {dss : List (List Dd)} (h : OwnLW w bs N v wv dss) {row : Option Nat} (hg : w.grownBy w' row) (hr : ∀ g, row = some g → g < bs ∨ N ≤ g) : OwnLW w' bs N v wv dss :=
  ⟨⟨h.ll.fam.far hg (fun i hi => by
    cases e : (llR 72 ddR v wv dss i).v.ownBlock with
    | none => exact .inl rfl
    | some k => exact .inr (fun e' => by have := (h.ll.fam.lt hi k e).1; have := h.lt i hi k e; have := hr k e'.symm; omega)), h.ll.len⟩, h.lt⟩
theorem OwnLW.keep {w w' : World} {bs N : Nat} {v : Value} {wv : List Value} {dss : List (List Dd)} (h : OwnLW w bs N v wv dss) (k : Keep w w') : OwnLW w' bs N v wv dss := h.kept k.grownBy (by simp)
theorem AppX.ownLW {w : World} {base N : Nat} {v : Value} {V : Nat → Value} {dss : List (List Dd)} (h : AppX w base N v V dss) : OwnLW w base N v ((List.range dss.length).map V) dss := by
  have e : ∀ i, i < dss.length → ((List.range dss.length).map V).getD i nilS = V i := fun i hi => by rw [List.getD_eq_getElem?_getD, range_getV V _ i hi]; rfl
  have hl : ((List.range dss.length).map V).length = dss.length := by simp
  have at0 : ∀ i, llLive ((List.range dss.length).map V).length (some i) → i < dss.length := fun i hi => by rw [← hl]; exact hi
  refine ⟨⟨⟨fun o ho => ?_, fun o o' ho ho' hne => ?_⟩, hl⟩, fun o ho k hk => ?_⟩
  · cases o with
    | none =>
      show w.ownsRow base _ 1 v ((List.range dss.length).map V).length ((List.range dss.length).map V)
      rw [hl]; exact h.row
    | some i =>
      show w.ownsRow base _ 4 (((List.range dss.length).map V).getD i nilS) (dss.getD i []).length _
      rw [e i (at0 i ho)]; exact h.each i (at0 i ho)
  · cases o with
    | none =>
      cases o' with
      | none => exact absurd rfl hne
      | some i =>
        show v.ownBlock = none ∨ v.ownBlock ≠ (((List.range dss.length).map V).getD i nilS).ownBlock
        rw [e i (at0 i ho')]
        cases hv : (V i).ownBlock with
        | none => cases v.ownBlock <;> simp
        | some k => exact .inr (h.out i (at0 i ho') k hv)
    | some i =>
      show (((List.range dss.length).map V).getD i nilS).ownBlock = none ∨ (((List.range dss.length).map V).getD i nilS).ownBlock ≠ _
      rw [e i (at0 i ho)]
      cases hv : (V i).ownBlock with
      | none => exact .inl rfl
      | some k =>
        right
        cases o' with
        | none => exact fun q => h.out i (at0 i ho) k hv q.symm
        | some j =>
          show _ ≠ (((List.range dss.length).map V).getD j nilS).ownBlock
          rw [e j (at0 j ho')]
          have hij : i ≠ j := fun q => hne (by rw [q])
          rcases Nat.lt_or_ge i j with q | q
          · exact fun x => h.apart i j q (at0 j ho') k hv x.symm
          · exact fun x => h.apart j i (by omega) (at0 i ho) k x.symm hv
  · cases o with
    | none => exact h.lt k hk
    | some i =>
      have hk : (((List.range dss.length).map V).getD i nilS).ownBlock = some k := hk
      rw [e i (at0 i ho)] at hk
      exact h.lts i (at0 i ho) k hk
theorem grown_more {a b c : World} {row r2 : Option Nat} (h : a.grownBy b row) (k : b.grownBy c r2) (hr : ∀ g, r2 = some g → a.heap.size ≤ g) : a.grownBy c row :=
  ⟨k.os.trans h.os, k.tape.trans h.tape, k.output.trans h.output, Nat.le_trans h.size k.size, fun q hq hne => (k.block q (Nat.lt_of_lt_of_le hq h.size) (fun e => by have := hr q e.symm; omega)).trans (h.block q hq hne)⟩
theorem grown_same {a b c : World} {row : Option Nat} (h : a.grownBy b row) (k : b.grownBy c row) : a.grownBy c row :=
  ⟨k.os.trans h.os, k.tape.trans h.tape, k.output.trans h.output, Nat.le_trans h.size k.size, fun q hq hne => (k.block q (Nat.lt_of_lt_of_le hq h.size) hne).trans (h.block q hq hne)⟩
structure NB (wb w : World) (m D : Nat) (v : BV) (nv rv : List Value) (bs N : Nat) (dss : List (List Dd)) (b : Bd) : Prop where
  ob : OwnBd w m D v nv rv bs N dss b
  lo : ∀ i, liveB nv rv i → i ≠ .bd → ∀ k, (famR D v nv rv b i).v.ownBlock = some k → wb.heap.size ≤ k
  sm : wb.grownBy w (some D)
section
variable {wb w w1 w2 w' : World} {m D : Nat} {v : BV} {nv rv wv : List Value} {bs N : Nat} {dss : List (List Dd)} {b : Bd}
theorem NB.start {W : Value} (h : OwnBd w m D ⟨W, nilS, nilS, nilS, nilS, nilS, nilS, nilS⟩ [] [] bs N dss ⟨[], [], [], [], [], [], []⟩) : NB w w m D ⟨W, nilS, nilS, nilS, nilS, nilS, nilS, nilS⟩ [] [] bs N dss ⟨[], [], [], [], [], [], []⟩ := by
  refine ⟨h, fun i hi hb k hk => ?_, World.grownBy.refl _ _⟩
  cases i with
  | bd => exact absurd rfl hb
  | nt c => exact absurd (show c < 0 from hi) (by omega)
  | rw c => exact absurd (show c < 0 from hi) (by omega)
  | _ => exact absurd (show (none : Option Nat) = some k from hk) (by simp)
theorem NB.keep (h : NB wb w m D v nv rv bs N dss b) (k : Keep w w') : NB wb w' m D v nv rv bs N dss b := ⟨h.ob.keep k, h.lo, grown_more h.sm k.grownBy (by simp)⟩
theorem NB.put (h : NB wb w m D v nv rv bs N dss b) (i : BI) (hi : liveB nv rv i) (hb : i ≠ .bd) (hg : w.grownBy w2 (famR D v nv rv b i).v.ownBlock) (k : Nat) (u : Value) : wb.grownBy (w2.setCell ⟨D, k, none⟩ u) (some D) :=
  grown_same (grown_more h.sm hg (fun g e => h.lo i hi hb g e)) (grown_set w2 D k u)
theorem NB.growS (h : NB wb w m D v nv rv bs N dss b) {u : Value} {zs : List Int} (hg : w.grownBy w2 v.S.ownBlock) (hb : u.ownBlock = v.S.ownBlock ∨ u.ownBlock = some w.heap.size) (ho : Own w2 m u zs) :
    NB wb (w2.setCell ⟨D, 5, none⟩ u) m D { v with S := u } nv rv bs N dss { b with sn := zs } ∧ w2.cell? ⟨D, 5, none⟩ = some v.S ∧ w2.frozen? ⟨D, 5, none⟩ = false := by
  obtain ⟨h1, h2, h3⟩ := h.ob.growS hg (by rcases hb with e | e; exact .inl e; exact .inr (.inl e)) ho
  refine ⟨⟨h1, fun i hi hb' k hk => ?_, h.put .sn trivial (by simp) hg 5 u⟩, h2, h3⟩
  by_cases e : i = .sn
  · subst e
    have hk : u.ownBlock = some k := hk
    rcases hb with e | e
    · exact h.lo .sn trivial (by simp) k (e.symm.trans hk)
    · rw [e] at hk
      have := Option.some.inj hk
      have := h.sm.size
      omega
  · refine h.lo i hi hb' k ?_
    cases i <;> first | exact hk | exact absurd rfl e | exact absurd rfl hb'
theorem NB.growF (h : NB wb w m D v nv rv bs N dss b) {u : Value} {zs : List Int} (hg : w.grownBy w2 v.F.ownBlock) (hb : u.ownBlock = v.F.ownBlock ∨ u.ownBlock = some w.heap.size) (ho : Own w2 m u zs) :
    NB wb (w2.setCell ⟨D, 6, none⟩ u) m D { v with F := u } nv rv bs N dss { b with fr := zs } ∧ w2.cell? ⟨D, 6, none⟩ = some v.F ∧ w2.frozen? ⟨D, 6, none⟩ = false := by
  obtain ⟨h1, h2, h3⟩ := h.ob.growF hg (by rcases hb with e | e; exact .inl e; exact .inr (.inl e)) ho
  refine ⟨⟨h1, fun i hi hb' k hk => ?_, h.put .fr trivial (by simp) hg 6 u⟩, h2, h3⟩
  by_cases e : i = .fr
  · subst e
    have hk : u.ownBlock = some k := hk
    rcases hb with e | e
    · exact h.lo .fr trivial (by simp) k (e.symm.trans hk)
    · rw [e] at hk
      have := Option.some.inj hk
      have := h.sm.size
      omega
  · refine h.lo i hi hb' k ?_
    cases i <;> first | exact hk | exact absurd rfl e | exact absurd rfl hb'
theorem NB.pushN (h : NB wb w m D v nv rv bs N dss b) {u u' : Value} {ns : List Nt} (k1 : Keep w w1) (hu : ∀ k, u.ownBlock = some k → w.heap.size ≤ k) (ou : AppT cN 66 3 w1 m u ns)
    (hg : w1.grownBy w2 v.N.ownBlock) (hb : u'.ownBlock = v.N.ownBlock ∨ u'.ownBlock = some w1.heap.size) (ho : (hdR 36 (nv ++ [u]) u').own w2 m) :
    NB wb (w2.setCell ⟨D, 3, none⟩ u') m D { v with N := u' } (nv ++ [u]) rv bs N dss { b with nts := b.nts ++ [ns] } ∧ w2.cell? ⟨D, 3, none⟩ = some v.N ∧ w2.frozen? ⟨D, 3, none⟩ = false := by
  obtain ⟨h1, h2, h3⟩ := h.ob.pushN k1 hu ou hg (by rcases hb with e | e; exact .inl e; exact .inr (.inl e)) ho
  have hs := h.sm.size
  have hs1 := k1.size
  refine ⟨⟨h1, fun i hi hb' k hk => ?_, (h.keep k1).put .nts trivial (by simp) hg 3 u'⟩, h2, h3⟩
  cases i with
  | bd => exact absurd rfl hb'
  | nts =>
    have hk : u'.ownBlock = some k := hk
    rcases hb with e | e
    · exact h.lo .nts trivial (by simp) k (e.symm.trans hk)
    · rw [e] at hk
      have := Option.some.inj hk
      omega
  | nt q =>
    have hk : ((nv ++ [u]).getD q nilS).ownBlock = some k := hk
    rw [getD_app] at hk
    by_cases e : q = nv.length
    · rw [if_pos e] at hk; have := hu k hk; omega
    · rw [if_neg e] at hk
      have hq : q < (nv ++ [u]).length := hi
      rw [List.length_append] at hq
      exact h.lo (.nt q) (show q < nv.length by simp at hq; omega) (by simp) k hk
  | rw q => exact h.lo (.rw q) hi (by simp) k hk
  | plc => exact h.lo .plc trivial (by simp) k hk
  | lst => exact h.lo .lst trivial (by simp) k hk
  | nxt => exact h.lo .nxt trivial (by simp) k hk
  | sn => exact h.lo .sn trivial (by simp) k hk
  | fr => exact h.lo .fr trivial (by simp) k hk
  | rws => exact h.lo .rws trivial (by simp) k hk
theorem NB.pushR (h : NB wb w m D v nv rv bs N dss b) {u u' : Value} {zs : List Int} (k1 : Keep w w1) (hu : ∀ k, u.ownBlock = some k → w.heap.size ≤ k) (ou : Own w1 m u zs)
    (hg : w1.grownBy w2 v.R.ownBlock) (hb : u'.ownBlock = v.R.ownBlock ∨ u'.ownBlock = some w1.heap.size) (ho : (hdR 25 (rv ++ [u]) u').own w2 m) :
    NB wb (w2.setCell ⟨D, 7, none⟩ u') m D { v with R := u' } nv (rv ++ [u]) bs N dss { b with rws := b.rws ++ [zs] } ∧ w2.cell? ⟨D, 7, none⟩ = some v.R ∧ w2.frozen? ⟨D, 7, none⟩ = false := by
  obtain ⟨h1, h2, h3⟩ := h.ob.pushR k1 hu ou hg (by rcases hb with e | e; exact .inl e; exact .inr (.inl e)) ho
  have hs := h.sm.size
  have hs1 := k1.size
  refine ⟨⟨h1, fun i hi hb' k hk => ?_, (h.keep k1).put .rws trivial (by simp) hg 7 u'⟩, h2, h3⟩
  cases i with
  | bd => exact absurd rfl hb'
  | rws =>
    have hk : u'.ownBlock = some k := hk
    rcases hb with e | e
    · exact h.lo .rws trivial (by simp) k (e.symm.trans hk)
    · rw [e] at hk
      have := Option.some.inj hk
      omega
  | rw q =>
    have hk : ((rv ++ [u]).getD q nilS).ownBlock = some k := hk
    rw [getD_app] at hk
    by_cases e : q = rv.length
    · rw [if_pos e] at hk; have := hu k hk; omega
    · rw [if_neg e] at hk
      have hq : q < (rv ++ [u]).length := hi
      rw [List.length_append] at hq
      exact h.lo (.rw q) (show q < rv.length by simp at hq; omega) (by simp) k hk
  | nt q => exact h.lo (.nt q) hi (by simp) k hk
  | plc => exact h.lo .plc trivial (by simp) k hk
  | lst => exact h.lo .lst trivial (by simp) k hk
  | nxt => exact h.lo .nxt trivial (by simp) k hk
  | sn => exact h.lo .sn trivial (by simp) k hk
  | fr => exact h.lo .fr trivial (by simp) k hk
  | nts => exact h.lo .nts trivial (by simp) k hk
theorem OwnBd.all (ob : OwnBd w m D v nv rv bs N dss b) (lw : OwnLW w bs N v.W wv dss) (hm : m ≤ bs) : OwnA w m v nv rv wv dss b := by
  have fo : ∀ i, i ≠ BI.bd → famR 0 v nv rv b i = famR D v nv rv b i := fun i hi => by cases i <;> first | rfl | exact absurd rfl hi
  have wl : ∀ o, llLive wv.length o → ∀ k, (llR 72 ddR v.W wv dss o).v.ownBlock = some k → bs ≤ k ∧ k < N := fun o ho k hk => ⟨(lw.ll.fam.lt ho k hk).1, lw.lt o ho k hk⟩
  have cross : ∀ i, liveB nv rv i → ∀ o, llLive wv.length o → (famR D v nv rv b i).v.ownBlock = none ∨ (famR D v nv rv b i).v.ownBlock ≠ (llR 72 ddR v.W wv dss o).v.ownBlock := fun i hi o ho => by
    cases e : (famR D v nv rv b i).v.ownBlock with
    | none => exact .inl rfl
    | some k => exact .inr (fun q => by have := ob.out i hi k e; have := wl o ho k q.symm; omega)
  have cross' : ∀ o, llLive wv.length o → ∀ i, liveB nv rv i → (llR 72 ddR v.W wv dss o).v.ownBlock = none ∨ (llR 72 ddR v.W wv dss o).v.ownBlock ≠ (famR D v nv rv b i).v.ownBlock := fun o ho i hi => by
    cases e : (llR 72 ddR v.W wv dss o).v.ownBlock with
    | none => exact .inl rfl
    | some k => exact .inr (fun q => by have := ob.out i hi k q.symm; have := wl o ho k e; omega)
  refine ⟨⟨fun j hj => ?_, fun i j hi hj hij => ?_⟩, ob.ln, ob.lr, lw.ll.len⟩
  · cases j with
    | b i =>
      show (famR 0 v nv rv b i).own w m
      rw [fo i hj.2]; exact ob.fam.own i hj.1
    | wk => exact own_base (lw.ll.fam.own none trivial) hm
    | wd c => exact own_base (lw.ll.fam.own (some c) hj) hm
  · cases i with
    | b i =>
      show (famR 0 v nv rv b i).v.ownBlock = none ∨ (famR 0 v nv rv b i).v.ownBlock ≠ _
      rw [fo i hi.2]
      cases j with
      | b j =>
        show _ ∨ _ ≠ (famR 0 v nv rv b j).v.ownBlock
        rw [fo j hj.2]
        exact ob.fam.apart i j hi.1 hj.1 (fun e => hij (by rw [e]))
      | wk => exact cross i hi.1 none trivial
      | wd c => exact cross i hi.1 (some c) hj
    | wk =>
      cases j with
      | b j =>
        show _ ∨ _ ≠ (famR 0 v nv rv b j).v.ownBlock
        rw [fo j hj.2]
        exact cross' none trivial j hj.1
      | wk => exact absurd rfl hij
      | wd c => exact lw.ll.fam.apart none (some c) trivial hj (by simp)
    | wd c =>
      cases j with
      | b j =>
        show _ ∨ _ ≠ (famR 0 v nv rv b j).v.ownBlock
        rw [fo j hj.2]
        exact cross' (some c) hi j hj.1
      | wk => exact lw.ll.fam.apart (some c) none hi trivial (by simp)
      | wd d => exact lw.ll.fam.apart (some c) (some d) hi hj (fun e => hij (by have := Option.some.inj e; rw [this]))
end
end
end Go.Proofs.Ytgakfkjjkobpiaa
