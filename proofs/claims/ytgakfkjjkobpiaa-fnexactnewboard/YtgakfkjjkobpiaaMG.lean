/- Gathered texts. -/
import Derived.Test.YtgakfkjjkobpiaaRows
import Derived.OpenShut
import Derived.Deep.Slices
import Derived.Lib.SmallJoins
import Derived.Test.YtgakfkjjkobpiaaMB
import Derived.Lib.Hide
import Derived.Outline
import Derived.OwnWalk
import Derived.Maps.AppendAt
import Derived.Laws.OwnMore
import Derived.Laws.Tables
import Derived.BigRegion
set_option maxRecDepth 100000
set_option maxHeartbeats 8000000
namespace Go.Proofs.Ytgakfkjjkobpiaa
open Go.ChangeShapes Go.WideShapes Go.ChangeAt Go.RowKit
theorem l1In_any (x lo hi : Int) (w : World) :
    Calls Try.prog 45 #[.int .i64 x, .int .i64 lo, .int .i64 hi] w fun e w' => e = .returned (.bool (inB x lo hi)) ∧ w' = w := by
  go_enter Try.func45, Try.ntmps45
  go_wp2
  all_goals
    go_ret
    exact ⟨ret_bool (by rw [Bool.eq_iff_iff]; unfold inB; simp; omega), rfl⟩
abbrev deedV (k p v g : Int) : Value := .agg #[.int .i64 k, .int .i64 p, .int .i64 v, .int .i64 g]
theorem specDeedOk_any (k p v g : Int) (w : World) :
    Calls Try.prog 78 #[deedV k p v g] w fun e w' => e = .returned (.bool (deedB k p v g)) ∧ Keep w w' := by
  unfold deedV
  go_enter Try.func78, Try.ntmps78
  go_wp2_with (go_at_call 45; refine (l1In_any _ _ _ _).mono ?_; rintro e w' ⟨rfl, rfl⟩)
  all_goals
    go_ret
    refine ⟨ret_bool ?_, (Keep.refl w).alloc _⟩
    simp [inB] at *
    rw [Bool.eq_iff_iff]
    simp [deedB]
    omega
abbrev dV (d : Dd) : Value := deedV d.1 d.2.1 d.2.2.1 d.2.2.2
def AtD (w : World) (b o : Nat) (d : Dd) : Prop :=
  w.cell? ⟨b, o, none⟩ = some (.int .i64 d.1) ∧ w.cell? ⟨b, o + 1, none⟩ = some (.int .i64 d.2.1) ∧ w.cell? ⟨b, o + 2, none⟩ = some (.int .i64 d.2.2.1) ∧ w.cell? ⟨b, o + 3, none⟩ = some (.int .i64 d.2.2.2)
def RdD (w : World) (v : Value) (ds : List Dd) : Prop :=
  ∃ (a : Option Addr) (cap : Nat), v = .slice a ds.length (ds.length + cap) ∧
    (ds = [] ∨ ∃ b off, a = some ⟨b, off, none⟩ ∧ b < w.heap.size ∧ ∀ i, i < ds.length → AtD w b (off + i * 4) (ds.getD i zD))
def RdW (w : World) (v : Value) (dss : List (List Dd)) : Prop :=
  ∃ (a : Option Addr) (cap : Nat), v = .slice a dss.length cap ∧
    (dss = [] ∨ ∃ b off, a = some ⟨b, off, none⟩ ∧ b < w.heap.size ∧ ∀ i, i < dss.length → ∃ vi, w.cell? ⟨b, off + i, none⟩ = some vi ∧ RdD w vi (dss.getD i []))
theorem AtD.keep {w w' : World} {b o : Nat} {d : Dd} (h : AtD w b o d) (hb : b < w.heap.size) (k : Keep w w') : AtD w' b o d :=
  ⟨(k.cell hb).trans h.1, (k.cell hb).trans h.2.1, (k.cell hb).trans h.2.2.1, (k.cell hb).trans h.2.2.2⟩
theorem RdD.keep {w w' : World} {v : Value} {ds : List Dd} (h : RdD w v ds) (k : Keep w w') : RdD w' v ds := by
  obtain ⟨a, cap, hv, h⟩ := h
  refine ⟨a, cap, hv, ?_⟩
  rcases h with h | ⟨b, off, ha, hb, hc⟩
  · exact .inl h
  · exact .inr ⟨b, off, ha, Nat.lt_of_lt_of_le hb k.size, fun i hi => (hc i hi).keep hb k⟩
theorem RdW.keep {w w' : World} {v : Value} {dss : List (List Dd)} (h : RdW w v dss) (k : Keep w w') : RdW w' v dss := by
  obtain ⟨a, cap, hv, h⟩ := h
  refine ⟨a, cap, hv, ?_⟩
  rcases h with h | ⟨b, off, ha, hb, hc⟩
  · exact .inl h
  · refine .inr ⟨b, off, ha, Nat.lt_of_lt_of_le hb k.size, fun i hi => ?_⟩
    obtain ⟨vi, h1, h2⟩ := hc i hi
    exact ⟨vi, (k.cell hb).trans h1, h2.keep k⟩
theorem Keep.set {w wr : World} (h : Keep w wr) {g : Nat} (hg : w.heap.size ≤ g) (i : Nat) (x : Value) : Keep w (wr.setCell ⟨g, i, none⟩ x) :=
  h.grown (row := some g) ⟨rfl, rfl, rfl, by simp, fun k _ hk => heap_setCell_other wr ⟨g, i, none⟩ k x (fun e => hk (by simp [e]))⟩ (fun k hk => by simp at hk; omega)
theorem range_getD {α : Type} (f : Nat → α) (n i : Nat) (z : α) (h : i < n) : ((List.range n).map f).getD i z = f i := by
  rw [List.getD_eq_getElem?_getD, List.getElem?_map, List.getElem?_range h]
  rfl
theorem plain_add {b o i : Nat} : (⟨b, o, none⟩ : Addr).add i = ⟨b, o + i, none⟩ := by unfold Addr.add; split <;> simp_all
theorem block_lt {w : World} {b o : Nat} {v : Value} (h : w.cell? ⟨b, o, none⟩ = some v) : b < w.heap.size := by
  apply Classical.byContradiction
  intro hn
  have h3 : w.heap[b]? = none := by simp; omega
  simp [World.cell?, h3] at h
section
section
variable {H : Type} {enc : TypeId × Value → H} {w : World} {base : Nat} {held : Bool}
theorem open_deeds {fuel : Nat} {v : Value} {x : DataW H × List MemPlace} (h : DataW.trod enc Try.prog w base (fun _ => true) held fuel 75 [v] = some x) : ∃ ds, RdD w v ds ∧ ds.length ≤ maxLen := by
  have c4 : Try.prog.cellsOf 108 = 4 := by kernel_rfl
  have c2 : Try.prog.cellsOf 2 = 1 := by kernel_rfl
  rcases Deep.open_slice Try.underlying75 h with ⟨hcs, _⟩ | ⟨a, len, cap, m, n, D, Pl, hcs, hb, hl, hm, hmm, _, hx⟩
  · simp only [List.cons.injEq, and_true] at hcs
    subst hcs
    exact ⟨[], ⟨none, 0, rfl, .inl rfl⟩, by simp⟩
  · simp only [List.cons.injEq, and_true] at hcs
    subst hcs
    have hlm : len ≤ m := by rw [hmm]; split <;> omega
    have each : ∀ i, i < len → ∃ d : Dd, w.cell? (a.add (i * 4)) = some (.int .i64 d.1) ∧ w.cell? (a.add (i * 4 + 1)) = some (.int .i64 d.2.1) ∧ w.cell? (a.add (i * 4 + 2)) = some (.int .i64 d.2.2.1) ∧ w.cell? (a.add (i * 4 + 3)) = some (.int .i64 d.2.2.2) := by
      intro i hi
      obtain ⟨cs', h1, h2⟩ := hx i (by omega)
      rw [c4] at h1
      obtain ⟨_, hlen, hcell⟩ := World.cells?_some h1
      obtain ⟨xs, k, hk, hxy, _, hxl, hf⟩ := DataW.trod_struct Try.underlying108 h2
      match xs, hxl, cs', hlen with
      | [y0, y1, y2, y3], _, [v0, v1, v2, v3], _ =>
        have g0 := hf 0 _ rfl
        have g1 := hf 1 _ rfl
        have g2 := hf 2 _ rfl
        have g3 := hf 3 _ rfl
        simp [c2] at g0 g1 g2 g3
        obtain ⟨k0, e0, _, _⟩ := DataW.trod_int Try.underlying2 g0
        obtain ⟨k1, e1, _, _⟩ := DataW.trod_int Try.underlying2 g1
        obtain ⟨k2, e2, _, _⟩ := DataW.trod_int Try.underlying2 g2
        obtain ⟨k3, e3, _, _⟩ := DataW.trod_int Try.underlying2 g3
        simp only [List.cons.injEq, and_true] at e0 e1 e2 e3
        subst e0 e1 e2 e3
        have f0 := hcell 0 (by omega)
        have f1 := hcell 1 (by omega)
        have f2 := hcell 2 (by omega)
        have f3 := hcell 3 (by omega)
        rw [Deep.add_add] at f0 f1 f2 f3
        exact ⟨(k0, k1, k2, k3), by simpa using f0, by simpa using f1, by simpa using f2, by simpa using f3⟩
    obtain ⟨f, hf⟩ := Deep.choose_lt each
    refine ⟨(List.range len).map f, ⟨some a, cap - len, by simp; omega, ?_⟩, by simp; omega⟩
    by_cases h0 : len = 0
    · left; subst h0; rfl
    · right
      obtain ⟨b, off, spot⟩ := a
      have hc0 := (hf 0 (by omega)).1
      have hspot : spot = none := by simpa [Addr.add] using World.cell?_spot hc0
      subst hspot
      have hbl : b < w.heap.size := by
        rw [plain_add] at hc0
        exact block_lt hc0
      refine ⟨b, off, rfl, hbl, fun i hi => ?_⟩
      have hi' : i < len := by simpa using hi
      rw [range_getD f len i zD hi']
      obtain ⟨q0, q1, q2, q3⟩ := hf i hi'
      rw [plain_add] at q0 q1 q2 q3
      exact ⟨q0, q1, q2, q3⟩
theorem open_work {r : Reach} {b0 : Nat} {v : Value} {d : DataW H} {p : List MemPlace} (hv : Value.okWide Try.prog w r b0 37 v) (h : DataW.Trod enc Try.prog w base (fun _ => true) held 37 v d p) : ∃ dss, RdW w v dss ∧ dss.length ≤ maxLen ∧ ∀ i, i < dss.length → (dss.getD i []).length ≤ maxLen := by
  obtain ⟨a0, len0, cap0, rfl⟩ := okWide_slice Try.underlying37 hv
  obtain ⟨fuel, hf⟩ := h
  rcases Deep.open_slice1 Try.underlying37 (by kernel_rfl) hf with ⟨hcs, _⟩ | ⟨a, len, cap, m, n, V, D, Pl, hcs, hb, hl, hm, hmm, _, hx⟩
  · simp [Value.cells] at hcs
    obtain ⟨rfl, rfl, rfl⟩ := hcs
    exact ⟨[], ⟨none, 0, rfl, .inl rfl⟩, by simp, by simp⟩
  · simp [Value.cells] at hcs
    obtain ⟨rfl, rfl, rfl⟩ := hcs
    have hlm : len0 ≤ m := by rw [hmm]; split <;> omega
    have each : ∀ i, i < len0 → ∃ ds : List Dd, w.cell? (a.add i) = some (V i) ∧ RdD w (V i) ds ∧ ds.length ≤ maxLen := by
      intro i hi
      obtain ⟨h1, h2⟩ := hx i (by omega)
      obtain ⟨ds, h3, h4⟩ := open_deeds h2
      exact ⟨ds, h1, h3, h4⟩
    obtain ⟨f, hf⟩ := Deep.choose_lt each
    refine ⟨(List.range len0).map f, ⟨some a, cap0, by simp, ?_⟩, by simp; omega, fun i hi => by rw [range_getD f len0 i [] (by simpa using hi)]; exact (hf i (by simpa using hi)).2.2⟩
    by_cases h0 : len0 = 0
    · left; subst h0; rfl
    · right
      obtain ⟨b, off, spot⟩ := a
      have hc0 := (hf 0 (by omega)).1
      have hspot : spot = none := by simpa [Addr.add] using World.cell?_spot hc0
      subst hspot
      have hbl : b < w.heap.size := by
        rw [plain_add] at hc0
        exact block_lt hc0
      refine ⟨b, off, rfl, hbl, fun i hi => ?_⟩
      have hi' : i < len0 := by simpa using hi
      rw [range_getD f len0 i [] hi']
      obtain ⟨q0, q1, _⟩ := hf i hi'
      rw [plain_add] at q0
      exact ⟨V i, q0, q1⟩
end
end
abbrev zN : Nt := (0, 0, 0)
def cN (x : Nt) : List Value := [.int .i64 x.1, .int .i64 x.2.1, .int .i64 x.2.2]
theorem cN_len (x : Nt) : (cN x).length = 3 := rfl
abbrev RdN (w : World) (v : Value) (ns : List Nt) : Prop := RdT cN 3 w v ns
theorem atN {w : World} {b o : Nat} {x : Nt} (h : AtT cN w b o x) : w.cell? ⟨b, o, none⟩ = some (.int .i64 x.1) ∧ w.cell? ⟨b, o + 1, none⟩ = some (.int .i64 x.2.1) ∧ w.cell? ⟨b, o + 2, none⟩ = some (.int .i64 x.2.2) :=
  ⟨h 0 _ rfl, h 1 _ rfl, h 2 _ rfl⟩
theorem atN_mk {w : World} {b o : Nat} {x : Nt} (h0 : w.cell? ⟨b, o, none⟩ = some (.int .i64 x.1)) (h1 : w.cell? ⟨b, o + 1, none⟩ = some (.int .i64 x.2.1)) (h2 : w.cell? ⟨b, o + 2, none⟩ = some (.int .i64 x.2.2)) : AtT cN w b o x := by
  intro m u hm
  match m, hm with
  | 0, hm => simp [cN] at hm; subst hm; exact h0
  | 1, hm => simp [cN] at hm; subst hm; exact h1
  | 2, hm => simp [cN] at hm; subst hm; exact h2
theorem nts_get {ns : List Nt} {i : Nat} (h : i < ns.length) : ns[i]? = some (ns.getD i zN) := by
  rw [List.getD_eq_getElem?_getD, List.getElem?_eq_getElem h]; rfl
def RdNN (w : World) (v : Value) (nss : List (List Nt)) : Prop :=
  ∃ (a : Option Addr) (cap : Nat), v = .slice a nss.length cap ∧
    (nss = [] ∨ ∃ b off, a = some ⟨b, off, none⟩ ∧ b < w.heap.size ∧ ∀ i, i < nss.length → ∃ vi, w.cell? ⟨b, off + i, none⟩ = some vi ∧ RdN w vi (nss.getD i []))
theorem RdNN.keep {w w' : World} {v : Value} {nss : List (List Nt)} (h : RdNN w v nss) (k : Keep w w') : RdNN w' v nss := by
  obtain ⟨a, cap, hv, h⟩ := h
  refine ⟨a, cap, hv, ?_⟩
  rcases h with h | ⟨b, off, ha, hb, hc⟩
  · exact .inl h
  · refine .inr ⟨b, off, ha, Nat.lt_of_lt_of_le hb k.size, fun i hi => ?_⟩
    obtain ⟨vi, h1, h2⟩ := hc i hi
    exact ⟨vi, (k.cell hb).trans h1, h2.keep k⟩
structure BV where
  W : Value
  P : Value
  L : Value
  N : Value
  X : Value
  S : Value
  F : Value
  R : Value
abbrev BV.arr (v : BV) : Array Value := #[v.W, v.P, v.L, v.N, v.X, v.S, v.F, v.R]
abbrev BV.agg (v : BV) : Value := .agg #[v.W, v.P, v.L, v.N, v.X, v.S, v.F, v.R]
structure RdBd (w : World) (v : BV) (dss : List (List Dd)) (b : Bd) : Prop where
  W : RdW w v.W dss
  P : Rd w v.P b.plc
  L : Rd w v.L b.lst
  N : RdNN w v.N b.nts
  X : Rd w v.X b.nxt
  S : Rd w v.S b.sn
  F : Rd w v.F b.fr
  R : RdL w v.R b.rws
theorem RdBd.keep {w w' : World} {v : BV} {dss : List (List Dd)} {b : Bd} (h : RdBd w v dss b) (k : Keep w w') : RdBd w' v dss b :=
  ⟨h.W.keep k, h.P.keep k, h.L.keep k, h.N.keep k, h.X.keep k, h.S.keep k, h.F.keep k, h.R.keep k⟩
structure SzBd (dss : List (List Dd)) (b : Bd) : Prop where
  w1 : dss.length ≤ 1048576
  w2 : ∀ i, i < dss.length → (dss.getD i []).length ≤ 1048576
  plc : b.plc.length ≤ 1048576
  lst : b.lst.length ≤ 1048576
  n1 : b.nts.length ≤ 1048576
  n2 : ∀ i, i < b.nts.length → (b.nts.getD i []).length ≤ 1048576
  nxt : b.nxt.length ≤ 1048576
  sn : b.sn.length ≤ 1048576
  fr : b.fr.length ≤ 1048576
  r1 : b.rws.length ≤ 1048576
  r2 : ∀ i, i < b.rws.length → (b.rws.getD i []).length ≤ 1048576
theorem RdBd.shapes {w : World} {v : BV} {dss : List (List Dd)} {b : Bd} (h : RdBd w v dss b) :
    ∃ (aW aP aL aN aX aS aF aR : Option Addr) (cW cP cL cN cX cS cF cR : Nat), v = ⟨.slice aW dss.length cW, .slice aP b.plc.length cP, .slice aL b.lst.length cL, .slice aN b.nts.length cN, .slice aX b.nxt.length cX, .slice aS b.sn.length cS, .slice aF b.fr.length cF, .slice aR b.rws.length cR⟩ := by
  obtain ⟨vW, vP, vL, vN, vX, vS, vF, vR⟩ := v
  obtain ⟨hW, hP, hL, hN, hX, hS, hF, hR⟩ := h
  obtain ⟨aW, cW, eW, -⟩ := hW
  obtain ⟨aP, cP, eP, -⟩ := hP
  obtain ⟨aL, cL, eL, -⟩ := hL
  obtain ⟨aN, cN, eN, -⟩ := hN
  obtain ⟨aX, cX, eX, -⟩ := hX
  obtain ⟨aS, cS, eS, -⟩ := hS
  obtain ⟨aF, cF, eF, -⟩ := hF
  obtain ⟨aR, cR, eR, -⟩ := hR
  simp only at eW eP eL eN eX eS eF eR
  exact ⟨aW, aP, aL, aN, aX, aS, aF, aR, cW, cP, cL, cN, cX, cS, cF, cR, by rw [eW, eP, eL, eN, eX, eS, eF, eR]⟩
theorem Try.infoD : (Try.prog.info? 98).map (fun i => (i.zero, i.size, i.bytes)) = some (some (.agg #[.int .i64 0, .int .i64 0, .int .i64 0, .int .i64 0]), 4, 32) := by kernel_rfl
def Blk (w : World) (g n : Nat) : Prop := ∃ cur t, w.heap[g]? = some (.cells cur t (0, 0)) ∧ n ≤ cur.size
theorem Blk.free {w : World} {g n : Nat} (h : Blk w g n) (i : Nat) : w.frozen? ⟨g, i, none⟩ = false := by
  obtain ⟨cur, t, h, _⟩ := h
  exact frozen_of_row w g i cur t h
theorem Blk.cell {w : World} {g n : Nat} (h : Blk w g n) {i : Nat} (hi : i < n) : ∃ u, w.cell? ⟨g, i, none⟩ = some u := by
  obtain ⟨cur, t, h, hn⟩ := h
  exact ⟨cur[i]'(by omega), by rw [cell_of_row w g i cur t (0, 0) h, Array.getElem?_eq_getElem (by omega)]⟩
theorem Blk.lt {w : World} {g n : Nat} (h : Blk w g n) : g < w.heap.size := by
  obtain ⟨cur, t, h, _⟩ := h
  exact (Array.getElem?_eq_some_iff.1 h).1
theorem Blk.set {w : World} {g n : Nat} (h : Blk w g n) (i : Nat) (x : Value) : Blk (w.setCell ⟨g, i, none⟩ x) g n := by
  obtain ⟨cur, t, h, hn⟩ := h
  exact ⟨cur.setIfInBounds i x, t, heap_setCell_same w g i cur t x h, by simpa using hn⟩
theorem Blk.kept {w w' : World} {g n : Nat} {row : Option Nat} (h : Blk w g n) (hg : w.grownBy w' row) (hne : row ≠ some g) : Blk w' g n := by
  have hl := h.lt
  obtain ⟨cur, t, h, hn⟩ := h
  exact ⟨cur, t, (hg.block g hl (fun e => hne e.symm)).trans h, hn⟩
def OwnD (w : World) (base : Nat) (v : Value) (ds : List Dd) : Prop :=
  ∃ (a : Option Addr) (cap : Nat), v = .slice a ds.length (ds.length + cap) ∧ (ds = [] ∨ ∃ g, a = some ⟨g, 0, none⟩ ∧ base ≤ g ∧ Blk w g (ds.length * 4) ∧ ∀ i, i < ds.length → AtD w g (i * 4) (ds.getD i zD))
theorem OwnD.rd {w : World} {base : Nat} {v : Value} {ds : List Dd} (h : OwnD w base v ds) : RdD w v ds := by
  obtain ⟨a, cap, hv, h⟩ := h
  refine ⟨a, cap, hv, ?_⟩
  rcases h with h | ⟨g, ha, _, hb, hc⟩
  · exact .inl h
  · exact .inr ⟨g, 0, ha, hb.lt, fun i hi => by rw [Nat.zero_add]; exact hc i hi⟩
theorem putD {w : World} {g o : Nat} {d : Dd} {b' o' : Nat} {d' : Dd} (h : AtD w b' o' d') (hne : b' ≠ g ∨ o' + 4 ≤ o ∨ o + 4 ≤ o') :
    AtD ((((w.setCell ⟨g, o, none⟩ (.int .i64 d.1)).setCell ⟨g, o + 1, none⟩ (.int .i64 d.2.1)).setCell ⟨g, o + 2, none⟩ (.int .i64 d.2.2.1)).setCell ⟨g, o + 3, none⟩ (.int .i64 d.2.2.2)) b' o' d' := by
  have key : ∀ (w : World) (j : Nat) (x : Value) (q : Nat), q < o' + 4 → o' ≤ q → o ≤ j → j < o + 4 → (w.setCell ⟨g, j, none⟩ x).cell? ⟨b', q, none⟩ = w.cell? ⟨b', q, none⟩ := by
    intro w j x q h1 h2 h3 h4
    refine World.cell?_setCell_other _ _ _ _ (fun e => ?_)
    have e1 : g = b' ∧ j = q := by simpa using e
    omega
  unfold AtD at *
  refine ⟨?_, ?_, ?_, ?_⟩
  all_goals
    rw [key _ _ _ _ (by omega) (by omega) (by omega) (by omega), key _ _ _ _ (by omega) (by omega) (by omega) (by omega), key _ _ _ _ (by omega) (by omega) (by omega) (by omega), key _ _ _ _ (by omega) (by omega) (by omega) (by omega)]
  · exact h.1
  · exact h.2.1
  · exact h.2.2.1
  · exact h.2.2.2
theorem putD_same {w : World} {g o n : Nat} {d : Dd} (hb : Blk w g n) (ho : o + 4 ≤ n) :
    AtD ((((w.setCell ⟨g, o, none⟩ (.int .i64 d.1)).setCell ⟨g, o + 1, none⟩ (.int .i64 d.2.1)).setCell ⟨g, o + 2, none⟩ (.int .i64 d.2.2.1)).setCell ⟨g, o + 3, none⟩ (.int .i64 d.2.2.2)) g o d := by
  have oth : ∀ (w : World) (j q : Nat) (x : Value), j ≠ q → (w.setCell ⟨g, j, none⟩ x).cell? ⟨g, q, none⟩ = w.cell? ⟨g, q, none⟩ := by
    intro w j q x h
    exact World.cell?_setCell_other _ _ _ _ (by intro e; apply h; injection e)
  have h1 := hb.set o (.int .i64 d.1)
  have h2 := h1.set (o + 1) (.int .i64 d.2.1)
  have h3 := h2.set (o + 2) (.int .i64 d.2.2.1)
  obtain ⟨u0, e0⟩ := hb.cell (show o < n by omega)
  obtain ⟨u1, e1⟩ := h1.cell (show o + 1 < n by omega)
  obtain ⟨u2, e2⟩ := h2.cell (show o + 2 < n by omega)
  obtain ⟨u3, e3⟩ := h3.cell (show o + 3 < n by omega)
  refine ⟨?_, ?_, ?_, ?_⟩
  · rw [oth _ _ _ _ (by omega), oth _ _ _ _ (by omega), oth _ _ _ _ (by omega), World.cell?_setCell_same _ _ _ e0]
  · rw [oth _ _ _ _ (by omega), oth _ _ _ _ (by omega), World.cell?_setCell_same _ _ _ e1]
  · rw [oth _ _ _ _ (by omega), World.cell?_setCell_same _ _ _ e2]
  · rw [World.cell?_setCell_same _ _ _ e3]
theorem Blk.ofOwn {w : World} {base e size g n : Nat} {xs : List Value} (h : w.ownsRow base e size (.slice (some ⟨g, 0, none⟩) n n) n xs) : Blk w g (n * size) := by
  rcases h.2 with ⟨hv, _⟩ | ⟨g', cap, cur, hv, _, hg, _, _, hs, _⟩
  · cases hv
  · simp only [Value.slice.injEq, Option.some.injEq, Addr.mk.injEq, and_true, true_and] at hv
    obtain ⟨rfl, rfl⟩ := hv
    exact ⟨cur, e, hg, by rw [hs]; exact Nat.le_refl _⟩
theorem OwnD.keep {w w' : World} {base : Nat} {v : Value} {ds : List Dd} (h : OwnD w base v ds) (k : Keep w w') : OwnD w' base v ds := by
  obtain ⟨a, cap, hv, h⟩ := h
  refine ⟨a, cap, hv, ?_⟩
  rcases h with h | ⟨g, ha, hb, hB, hc⟩
  · exact .inl h
  · exact .inr ⟨g, ha, hb, hB.kept k.grownBy (by simp), fun i hi => (hc i hi).keep hB.lt k⟩
theorem OwnD.kept {w w' : World} {base : Nat} {v : Value} {ds : List Dd} {row : Option Nat} (h : OwnD w base v ds) (hg : w.grownBy w' row) (hne : ds = [] ∨ v.ownBlock ≠ row) : OwnD w' base v ds := by
  obtain ⟨a, cap, rfl, h⟩ := h
  refine ⟨a, cap, rfl, ?_⟩
  rcases h with h | ⟨g, rfl, hb, hB, hc⟩
  · exact .inl h
  · rcases hne with hne | hne
    · exact .inl hne
    · have hne' : row ≠ some g := fun e => hne (by simp [Value.ownBlock, e])
      have hcell : ∀ j, w'.cell? ⟨g, j, none⟩ = w.cell? ⟨g, j, none⟩ := fun j => World.cell?_of_block (w := w) (hg.block g hB.lt (fun e => hne' e.symm))
      exact .inr ⟨g, rfl, hb, hB.kept hg hne', fun i hi => ⟨(hcell _).trans (hc i hi).1, (hcell _).trans (hc i hi).2.1, (hcell _).trans (hc i hi).2.2.1, (hcell _).trans (hc i hi).2.2.2⟩⟩
theorem OwnD.mono {w : World} {base base' : Nat} {v : Value} {ds : List Dd} (h : OwnD w base v ds) (hb : base' ≤ base) : OwnD w base' v ds := by
  obtain ⟨a, cap, hv, h⟩ := h
  refine ⟨a, cap, hv, ?_⟩
  rcases h with h | ⟨g, ha, hg, rest⟩
  · exact .inl h
  · exact .inr ⟨g, ha, Nat.le_trans hb hg, rest⟩
theorem OwnD.block {w : World} {base : Nat} {v : Value} {ds : List Dd} (h : OwnD w base v ds) (hne : ds ≠ []) : ∃ g, v.ownBlock = some g ∧ base ≤ g ∧ g < w.heap.size := by
  obtain ⟨a, cap, rfl, h⟩ := h
  rcases h with h | ⟨g, rfl, hb, hB, _⟩
  · exact absurd h hne
  · exact ⟨g, rfl, hb, hB.lt⟩
def Apart (g n : Nat) (V : Nat → Value) (D : Nat → List Dd) : Prop :=
  (∀ i, i < n → D i ≠ [] → (V i).ownBlock ≠ some g) ∧ ∀ i j, i < j → j < n → D i ≠ [] → D j ≠ [] → (V i).ownBlock ≠ (V j).ownBlock
def OwnW (w : World) (base : Nat) (v : Value) (dss : List (List Dd)) : Prop :=
  ∃ (a : Option Addr) (cap : Nat), v = .slice a dss.length cap ∧ (dss = [] ∨ ∃ (g : Nat) (V : Nat → Value), a = some ⟨g, 0, none⟩ ∧ base ≤ g ∧ Blk w g dss.length ∧
    (∀ i, i < dss.length → w.cell? ⟨g, i, none⟩ = some (V i) ∧ OwnD w base (V i) (dss.getD i [])) ∧ Apart g dss.length V (fun i => dss.getD i []))
theorem OwnW.rd {w : World} {base : Nat} {v : Value} {dss : List (List Dd)} (h : OwnW w base v dss) : RdW w v dss := by
  obtain ⟨a, cap, hv, h⟩ := h
  refine ⟨a, cap, hv, ?_⟩
  rcases h with h | ⟨g, V, ha, _, hb, hc, _⟩
  · exact .inl h
  · exact .inr ⟨g, 0, ha, hb.lt, fun i hi => ⟨V i, by rw [Nat.zero_add]; exact (hc i hi).1, (hc i hi).2.rd⟩⟩
theorem Try.infoDS : (Try.prog.info? 72).map (fun i => (i.zero, i.size, i.bytes)) = some (some (.slice none 0 0), 1, 24) := by kernel_rfl
theorem grown_put (w : World) (g j : Nat) (v : Value) : w.grownBy (w.setCell ⟨g, j, none⟩ v) (some g) :=
  ⟨rfl, rfl, rfl, by simp, fun k _ hk => heap_setCell_other w ⟨g, j, none⟩ k v (fun e => hk (by simp [e]))⟩
def mkD (k : Int) (i : Nat) : Dd := (k + 4 * i, k + 4 * i + 1, k + 4 * i + 1 + 1, k + 4 * i + 1 + 1 + 1)
def mksD (k : Int) (n : Nat) : List Dd := (List.range n).map (mkD k)
theorem mksD_len (k : Int) (n : Nat) : (mksD k n).length = n := by simp [mksD]
theorem mksD_get (k : Int) (n i : Nat) (h : i < n) : (mksD k n).getD i zD = mkD k i := range_getD _ _ _ _ h
def ownO (v : Value) (ds : List Dd) : Option Nat := if ds = [] then none else v.ownBlock
theorem cell_same {w w' : World} {b : Nat} (h : w'.heap[b]? = w.heap[b]?) (o : Nat) : w'.cell? ⟨b, o, none⟩ = w.cell? ⟨b, o, none⟩ := by
  simp only [World.cell?, h]
theorem AtD.same {w w' : World} {b o : Nat} {d : Dd} (h : AtD w b o d) (hh : w'.heap[b]? = w.heap[b]?) : AtD w' b o d :=
  ⟨(cell_same hh _).trans h.1, (cell_same hh _).trans h.2.1, (cell_same hh _).trans h.2.2.1, (cell_same hh _).trans h.2.2.2⟩
theorem Blk.same {w w' : World} {g n : Nat} (h : Blk w g n) (hh : w'.heap[g]? = w.heap[g]?) : Blk w' g n := by
  obtain ⟨cur, t, h, hn⟩ := h
  exact ⟨cur, t, hh.trans h, hn⟩
theorem OwnD.same {w w' : World} {base : Nat} {v : Value} {ds : List Dd} (h : OwnD w base v ds) (hh : ∀ g, ownO v ds = some g → g < w.heap.size → base ≤ g → w'.heap[g]? = w.heap[g]?) : OwnD w' base v ds := by
  obtain ⟨a, cap, rfl, h⟩ := h
  refine ⟨a, cap, rfl, ?_⟩
  rcases h with h | ⟨g, rfl, hb, hB, hA⟩
  · exact .inl h
  · by_cases h0 : ds = []
    · exact .inl h0
    · have e := hh g (by rw [ownO, if_neg h0]; rfl) hB.lt hb
      exact .inr ⟨g, rfl, hb, hB.same e, fun i hi => (hA i hi).same e⟩
structure Only (lo hi : Nat) (w w' : World) : Prop where
  os : w'.os = w.os
  tape : w'.tape = w.tape
  output : w'.output = w.output
  size : w.heap.size ≤ w'.heap.size
  block : ∀ b, b < w.heap.size → (b < lo ∨ hi ≤ b) → w'.heap[b]? = w.heap[b]?
theorem Only.refl (lo hi : Nat) (w : World) : Only lo hi w w := ⟨rfl, rfl, rfl, Nat.le_refl _, fun _ _ _ => rfl⟩
theorem Only.grown {lo hi : Nat} {a w w' : World} {row : Option Nat} (h : Only lo hi a w) (hg : w.grownBy w' row) (hr : ∀ k, row = some k → lo ≤ k ∧ k < hi) : Only lo hi a w' :=
  ⟨hg.os.trans h.os, hg.tape.trans h.tape, hg.output.trans h.output, Nat.le_trans h.size hg.size, fun b hb ho => (hg.block b (Nat.lt_of_lt_of_le hb h.size) (fun e => by have := hr b e.symm; omega)).trans (h.block b hb ho)⟩
theorem Keep.only {a w w' : World} {lo hi : Nat} (h : Keep a w) (k : Only lo hi w w') (hl : a.heap.size ≤ lo) : Keep a w' :=
  ⟨k.os.trans (Below.os h), k.tape.trans (Below.tape h), k.output.trans (Below.output h), Nat.le_trans (Below.size h) k.size, fun b hb => (k.block b (Nat.lt_of_lt_of_le hb h.size) (.inl (Nat.lt_of_lt_of_le hb hl))).trans (Below.block h b hb)⟩
theorem OwnW.only {w w' : World} {base lo hi : Nat} {v : Value} {dss : List (List Dd)} (h : OwnW w base v dss) (k : Only lo hi w w') (hb : hi ≤ base) : OwnW w' base v dss := by
  obtain ⟨a, cap, rfl, h⟩ := h
  refine ⟨a, cap, rfl, ?_⟩
  rcases h with h | ⟨g, V, rfl, hg, hB, hc, hA⟩
  · exact .inl h
  · have e := k.block g hB.lt (.inr (Nat.le_trans hb hg))
    exact .inr ⟨g, V, rfl, hg, hB.same e, fun i hi => ⟨(cell_same e _).trans (hc i hi).1, (hc i hi).2.same (fun b _ hlt hbb => k.block b hlt (.inr (Nat.le_trans hb hbb)))⟩, hA⟩
theorem OwnW.base_le {w : World} {base base' : Nat} {v : Value} {dss : List (List Dd)} (h : OwnW w base v dss) (hb : base' ≤ base) : OwnW w base' v dss := by
  obtain ⟨a, cap, hv, h⟩ := h
  refine ⟨a, cap, hv, ?_⟩
  rcases h with h | ⟨g, V, ha, hg, hB, hc, hA⟩
  · exact .inl h
  · exact .inr ⟨g, V, ha, Nat.le_trans hb hg, hB, fun i hi => ⟨(hc i hi).1, (hc i hi).2.mono hb⟩, hA⟩
def mksW (k : Int) : List (List Dd) → List (List Dd)
  | [] => []
  | d :: r => mksD k d.length :: mksW (k + 4 * d.length) r
theorem mksW_len (k : Int) (dss : List (List Dd)) : (mksW k dss).length = dss.length := by
  induction dss generalizing k with
  | nil => rfl
  | cons d r ih => simp [mksW, ih]
theorem mksW_get (k : Int) : ∀ (dss : List (List Dd)) (i : Nat), i < dss.length → (mksW k dss).getD i [] = mksD (k + 4 * (lenW (dss.take i) : Nat)) (dss.getD i []).length
  | [], i, h => by simp at h
  | d :: r, 0, h => by simp [mksW, lenW]
  | d :: r, i + 1, h => by
    have ih := mksW_get (k + 4 * d.length) r i (by simpa using h)
    simp only [mksW, List.getD_cons_succ, List.take_succ_cons, lenW] at ih ⊢
    rw [ih]
    congr 1
    omega
theorem lenW_snocM (d : List Dd) : ∀ l : List (List Dd), lenW (l ++ [d]) = lenW l + d.length
  | [] => by simp [lenW]
  | x :: r => by rw [List.cons_append, lenW, lenW, lenW_snocM d r]; omega
theorem take_moreM {α : Type} (l : List α) (k : Nat) (z : α) (h : k < l.length) : l.take (k + 1) = l.take k ++ [l.getD k z] := by
  rw [List.take_add_one, List.getElem?_eq_getElem h, List.getD_eq_getElem?_getD, List.getElem?_eq_getElem h]
  rfl
theorem lenW_take_le (dss : List (List Dd)) : ∀ i, i ≤ dss.length → lenW (dss.take i) ≤ lenW dss := by
  induction dss with
  | nil => intro i _; simp
  | cons d r ih =>
    intro i hi
    cases i with
    | zero => simp [lenW]
    | succ i => simp only [List.take_succ_cons, lenW]; have := ih i (by simpa using hi); omega
theorem lenW_one (dss : List (List Dd)) (i : Nat) (h : i < dss.length) : lenW (dss.take i) + (dss.getD i []).length ≤ lenW dss := by
  have := lenW_take_le dss (i + 1) h
  rw [take_moreM dss i [] h, lenW_snocM] at this
  exact this
theorem mksD_nil {k : Int} {n : Nat} : mksD k n = [] ↔ n = 0 := by
  constructor
  · intro h; have := mksD_len k n; rw [h] at this; simpa using this.symm
  · rintro rfl; rfl
def cD (d : Dd) : List Value := [.int .i64 d.1, .int .i64 d.2.1, .int .i64 d.2.2.1, .int .i64 d.2.2.2]
def AppD (w : World) (base : Nat) (v : Value) (ds : List Dd) : Prop := w.ownsRow base 98 4 v ds.length (ds.flatMap cD)
theorem AppD.keep {w w' : World} {base : Nat} {v : Value} {ds : List Dd} (h : AppD w base v ds) (k : Keep w w') : AppD w' base v ds :=
  World.ownsRow.kept h k.grownBy (by cases v.ownBlock <;> simp)
theorem AppD.ge {w : World} {base : Nat} {v : Value} {ds : List Dd} (h : AppD w base v ds) : ∀ k, v.ownBlock = some k → base ≤ k := fun k hk => (World.ownsRow.lt h k hk).1
theorem cD_at : ∀ (ds : List Dd) (i m : Nat), i < ds.length → m < 4 → (ds.flatMap cD)[i * 4 + m]? = (cD (ds.getD i zD))[m]?
  | [], i, m, h, _ => by simp at h
  | d :: r, 0, m, _, hm => by
    rw [List.flatMap_cons, List.getElem?_append_left (by simp [cD]; omega)]
    simp
  | d :: r, i + 1, m, h, hm => by
    have ih := cD_at r i m (by simpa using h) hm
    rw [List.flatMap_cons, List.getElem?_append_right (by simp [cD]; omega), show (i + 1) * 4 + m - (cD d).length = i * 4 + m by simp [cD]; omega, ih]
    simp
theorem AppD.ownD {w : World} {base : Nat} {v : Value} {ds : List Dd} (h : AppD w base v ds) : OwnD w base v ds := by
  have h2 := h
  rcases h.2 with ⟨rfl, hn⟩ | ⟨g, cap, cur, rfl, hb, hg, hcap, _, hs, _⟩
  · have : ds = [] := List.eq_nil_of_length_eq_zero hn
    subst this
    exact ⟨none, 0, rfl, .inl rfl⟩
  · obtain ⟨x, rfl⟩ : ∃ x, cap = ds.length + x := ⟨cap - ds.length, by omega⟩
    by_cases h0 : ds = []
    · exact ⟨_, x, rfl, .inl h0⟩
    · have len : (ds.flatMap cD).length = ds.length * 4 := h.1
      have big : ds.length * 4 ≤ cur.size := by
        have h5 := World.ownsRow.cellAt h2 (ds.length * 4 - 1) (by
          have : ds.length ≠ 0 := fun e => h0 (List.eq_nil_of_length_eq_zero e)
          omega)
        rw [cell_of_row w g _ cur _ (0, 0) hg] at h5
        have hpos : ds.length ≠ 0 := fun e => h0 (List.eq_nil_of_length_eq_zero e)
        rw [List.getElem?_eq_getElem (by omega)] at h5
        have := (Array.getElem?_eq_some_iff.1 h5).1
        omega
      refine ⟨_, x, rfl, .inr ⟨g, rfl, hb, ⟨cur, _, hg, big⟩, fun i hi => ?_⟩⟩
      have key : ∀ m, m < 4 → w.cell? ⟨g, i * 4 + m, none⟩ = (cD (ds.getD i zD))[m]? := fun m hm => by
        rw [World.ownsRow.cellAt h2 (i * 4 + m) (by omega), cD_at ds i m hi hm]
      exact ⟨key 0 (by omega), key 1 (by omega), key 2 (by omega), key 3 (by omega)⟩
theorem AppD.shape {w : World} {base : Nat} {v : Value} {ds : List Dd} (h : AppD w base v ds) : ∃ a c, v = .slice a ds.length c := by
  obtain ⟨a, c, hv, _⟩ := h.ownD
  exact ⟨a, _, hv⟩
def vZ : Value := .slice none 0 0
def AppW (w : World) (base : Nat) (v : Value) (dss : List (List Dd)) : Prop :=
  ∃ vs : List Value, vs.length = dss.length ∧ w.ownsRow base 72 1 v dss.length vs ∧ (∀ i, i < dss.length → OwnD w base (vs.getD i vZ) (dss.getD i [])) ∧
    (∀ i, i < dss.length → dss.getD i [] ≠ [] → (vs.getD i vZ).ownBlock ≠ v.ownBlock) ∧
    ∀ i j, i < j → j < dss.length → dss.getD i [] ≠ [] → dss.getD j [] ≠ [] → (vs.getD i vZ).ownBlock ≠ (vs.getD j vZ).ownBlock
theorem AppW.keep {w w' : World} {base : Nat} {v : Value} {dss : List (List Dd)} (h : AppW w base v dss) (k : Keep w w') : AppW w' base v dss := by
  obtain ⟨vs, h1, h2, h3, h4⟩ := h
  exact ⟨vs, h1, World.ownsRow.kept h2 k.grownBy (by cases v.ownBlock <;> simp), fun i hi => (h3 i hi).keep k, h4⟩
theorem OwnD.blockIn {w : World} {base : Nat} {v : Value} {ds : List Dd} (h : OwnD w base v ds) (h0 : ds ≠ []) : ∃ g, v.ownBlock = some g ∧ base ≤ g ∧ g < w.heap.size := by
  obtain ⟨a, cap, rfl, h⟩ := h
  rcases h with h | ⟨g, rfl, hb, hB, _⟩
  · exact absurd h h0
  · exact ⟨g, rfl, hb, hB.lt⟩
theorem OwnD.base_le {w : World} {base base' : Nat} {v : Value} {ds : List Dd} (h : OwnD w base v ds) (hb : base' ≤ base) : OwnD w base' v ds := by
  obtain ⟨a, cap, rfl, h⟩ := h
  refine ⟨a, cap, rfl, ?_⟩
  rcases h with h | ⟨g, rfl, hg, r⟩
  · exact .inl h
  · exact .inr ⟨g, rfl, Nat.le_trans hb hg, r⟩
theorem getD_left {α : Type} (l m : List α) (i : Nat) (z : α) (h : i < l.length) : (l ++ m).getD i z = l.getD i z := by
  rw [List.getD_eq_getElem?_getD, List.getElem?_append_left h, List.getD_eq_getElem?_getD]
theorem getD_last {α : Type} (l : List α) (x z : α) : (l ++ [x]).getD l.length z = x := by
  rw [List.getD_eq_getElem?_getD]; simp
theorem AppW.push {w0 w w1 : World} {base B : Nat} {v v' u : Value} {dss : List (List Dd)} {ds : List Dd} {vs : List Value}
    (hvs : vs.length = dss.length) (ho : w0.ownsRow base 72 1 v dss.length vs)
    (h3 : ∀ i, i < dss.length → OwnD w0 base (vs.getD i vZ) (dss.getD i []))
    (h4 : ∀ i, i < dss.length → dss.getD i [] ≠ [] → (vs.getD i vZ).ownBlock ≠ v.ownBlock)
    (h5 : ∀ i j, i < j → j < dss.length → dss.getD i [] ≠ [] → dss.getD j [] ≠ [] → (vs.getD i vZ).ownBlock ≠ (vs.getD j vZ).ownBlock)
    (k : Keep w0 w) (hB : w0.heap.size ≤ B) (hb : base ≤ B) (hu : OwnD w B u ds)
    (hown : w1.ownsRow base 72 1 v' (dss.length + 1) (vs ++ [u])) (hgrow : w.grownBy w1 v.ownBlock) (hblk : v'.ownBlock = v.ownBlock ∨ v'.ownBlock = some w.heap.size) :
    AppW w1 base v' (dss ++ [ds]) := by
  have old : ∀ i, i < dss.length → dss.getD i [] ≠ [] → ∃ g, (vs.getD i vZ).ownBlock = some g ∧ g < w0.heap.size := fun i hi hd => by
    obtain ⟨g, e, _, hl⟩ := (h3 i hi).blockIn hd
    exact ⟨g, e, hl⟩
  have vlt : ∀ g, v.ownBlock = some g → g < w0.heap.size := fun g hg => (World.ownsRow.lt ho g hg).2
  have new : ds ≠ [] → ∃ g, u.ownBlock = some g ∧ w0.heap.size ≤ g ∧ g < w.heap.size := fun hd => by
    obtain ⟨g, e, hbg, hl⟩ := hu.blockIn hd
    exact ⟨g, e, Nat.le_trans hB hbg, hl⟩
  have ksz := k.size
  refine ⟨vs ++ [u], by simp [hvs], by simpa using hown, ?_, ?_, ?_⟩
  · intro i hi
    by_cases e : i < dss.length
    · rw [getD_left vs [u] i vZ (by omega), getD_left dss [ds] i [] e]
      refine ((h3 i e).keep k).kept hgrow ?_
      by_cases hd : dss.getD i [] = []
      · exact .inl hd
      · exact .inr (h4 i e hd)
    · have : i = dss.length := by simp at hi; omega
      subst this
      rw [getD_last dss ds [], ← hvs, getD_last vs u vZ]
      refine (hu.base_le hb).kept hgrow ?_
      by_cases hd : ds = []
      · exact .inl hd
      · right
        obtain ⟨g, e, hl, _⟩ := new hd
        rw [e]
        intro e'
        have := vlt g e'.symm
        omega
  · intro i hi
    by_cases e : i < dss.length
    · rw [getD_left vs [u] i vZ (by omega), getD_left dss [ds] i [] e]
      intro hd
      rcases hblk with hv | hv
      · rw [hv]; exact h4 i e hd
      · obtain ⟨g, e1, hl⟩ := old i e hd
        rw [hv, e1]
        simp only [ne_eq, Option.some.injEq]
        omega
    · have : i = dss.length := by simp at hi; omega
      subst this
      rw [getD_last dss ds [], ← hvs, getD_last vs u vZ]
      intro hd
      obtain ⟨g, e1, hl, hl2⟩ := new hd
      rw [e1]
      rcases hblk with hv | hv
      · rw [hv]
        intro e'
        have := vlt g e'.symm
        omega
      · rw [hv]
        simp only [ne_eq, Option.some.injEq]
        omega
  · intro i j hij hj
    have hi : i < dss.length := by simp at hj; omega
    rw [getD_left vs [u] i vZ (by omega), getD_left dss [ds] i [] hi]
    by_cases e : j < dss.length
    · rw [getD_left vs [u] j vZ (by omega), getD_left dss [ds] j [] e]
      exact h5 i j hij e
    · have : j = dss.length := by simp at hj; omega
      subst this
      rw [getD_last dss ds [], ← hvs, getD_last vs u vZ]
      intro hd hd2
      obtain ⟨g, e1, hl⟩ := old i hi hd
      obtain ⟨g2, e2, hl2, _⟩ := new hd2
      rw [e1, e2]
      simp only [ne_eq, Option.some.injEq]
      omega
def RdX (w : World) (base : Nat) (v : Value) (dss : List (List Dd)) : Prop :=
  ∃ (a : Option Addr) (cap : Nat), v = .slice a dss.length cap ∧
    (dss = [] ∨ ∃ b off, a = some ⟨b, off, none⟩ ∧ base ≤ b ∧ b < w.heap.size ∧ ∀ i, i < dss.length → ∃ vi, w.cell? ⟨b, off + i, none⟩ = some vi ∧ AppD w base vi (dss.getD i []))
theorem RdX.rd {w : World} {base : Nat} {v : Value} {dss : List (List Dd)} (h : RdX w base v dss) : RdW w v dss := by
  obtain ⟨a, cap, hv, h⟩ := h
  refine ⟨a, cap, hv, ?_⟩
  rcases h with h | ⟨b, off, ha, _, hb, hc⟩
  · exact .inl h
  · refine .inr ⟨b, off, ha, hb, fun i hi => ?_⟩
    obtain ⟨vi, h1, h2⟩ := hc i hi
    exact ⟨vi, h1, h2.ownD.rd⟩
theorem RdX.keep {w w' : World} {base : Nat} {v : Value} {dss : List (List Dd)} (h : RdX w base v dss) (k : Keep w w') : RdX w' base v dss := by
  obtain ⟨a, cap, hv, h⟩ := h
  refine ⟨a, cap, hv, ?_⟩
  rcases h with h | ⟨b, off, ha, hbb, hb, hl⟩
  · exact .inl h
  · refine .inr ⟨b, off, ha, hbb, Nat.lt_of_lt_of_le hb k.size, fun i hi => ?_⟩
    obtain ⟨vi, h1, h2⟩ := hl i hi
    exact ⟨vi, (k.cell hb).trans h1, h2.keep k⟩
def RdXN (w : World) (base N : Nat) (v : Value) (dss : List (List Dd)) : Prop :=
  ∃ (a : Option Addr) (cap : Nat), v = .slice a dss.length cap ∧
    (dss = [] ∨ ∃ b off, a = some ⟨b, off, none⟩ ∧ base ≤ b ∧ b < N ∧ b < w.heap.size ∧ ∀ i, i < dss.length → ∃ vi, w.cell? ⟨b, off + i, none⟩ = some vi ∧ AppD w base vi (dss.getD i []) ∧ ∀ k, vi.ownBlock = some k → k < N)
theorem RdX.upto {w : World} {base : Nat} {v : Value} {dss : List (List Dd)} (h : RdX w base v dss) : RdXN w base w.heap.size v dss := by
  obtain ⟨a, cap, hv, h⟩ := h
  refine ⟨a, cap, hv, ?_⟩
  rcases h with h | ⟨b, off, ha, hbb, hb, hl⟩
  · exact .inl h
  · refine .inr ⟨b, off, ha, hbb, hb, hb, fun i hi => ?_⟩
    obtain ⟨vi, h1, h2⟩ := hl i hi
    exact ⟨vi, h1, h2, fun k hk => (h2.lt k hk).2⟩
theorem RdXN.rd {w : World} {base N : Nat} {v : Value} {dss : List (List Dd)} (h : RdXN w base N v dss) : RdW w v dss := by
  obtain ⟨a, cap, hv, h⟩ := h
  refine ⟨a, cap, hv, ?_⟩
  rcases h with h | ⟨b, off, ha, _, _, hb, hc⟩
  · exact .inl h
  · refine .inr ⟨b, off, ha, hb, fun i hi => ?_⟩
    obtain ⟨vi, h1, h2, _⟩ := hc i hi
    exact ⟨vi, h1, h2.ownD.rd⟩
theorem RdXN.kept {w w' : World} {base N : Nat} {row : Option Nat} {v : Value} {dss : List (List Dd)} (h : RdXN w base N v dss) (hg : w.grownBy w' row) (hr : ∀ g, row = some g → g < base ∨ N ≤ g) : RdXN w' base N v dss := by
  obtain ⟨a, cap, hv, h⟩ := h
  refine ⟨a, cap, hv, ?_⟩
  rcases h with h | ⟨b, off, ha, hbb, hbN, hb, hl⟩
  · exact .inl h
  · refine .inr ⟨b, off, ha, hbb, hbN, Nat.lt_of_lt_of_le hb hg.size, fun i hi => ?_⟩
    obtain ⟨vi, h1, h2, h3⟩ := hl i hi
    have hblk : w'.heap[b]? = w.heap[b]? := hg.block b hb (fun e => by have := hr b e.symm; omega)
    refine ⟨vi, ?_, h2.kept hg ?_, h3⟩
    · simp only [World.cell?, hblk] at h1 ⊢
      exact h1
    · cases hu : vi.ownBlock with
      | none => exact .inl rfl
      | some k => exact .inr (fun e => by have := h2.ge k hu; have := h3 k hu; have := hr k e.symm; omega)
section
inductive BI where
  | bd | plc | lst | nts | nxt | sn | fr | rws
  | nt (c : Nat)
  | rw (p : Nat) deriving DecidableEq
abbrev nilS : Value := .slice none 0 0
abbrev ivR (zs : List Int) (v : Value) : Rw := ⟨2, 1, v, zs.length, zs.map (Value.int .i64)⟩
abbrev nvR (ns : List Nt) (v : Value) : Rw := ⟨66, 3, v, ns.length, ns.flatMap cN⟩
abbrev hdR (t : TypeId) (vs : List Value) (v : Value) : Rw := ⟨t, 1, v, vs.length, vs⟩
abbrev bdR (D : Nat) (v : BV) : Rw := ⟨29, 8, .slice (some ⟨D, 0, none⟩) 1 1, 1, [v.W, v.P, v.L, v.N, v.X, v.S, v.F, v.R]⟩
def famR (D : Nat) (v : BV) (nv rv : List Value) (b : Bd) : BI → Rw
  | .bd => bdR D v
  | .plc => ivR b.plc v.P
  | .lst => ivR b.lst v.L
  | .nts => hdR 36 nv v.N
  | .nxt => ivR b.nxt v.X
  | .sn => ivR b.sn v.S
  | .fr => ivR b.fr v.F
  | .rws => hdR 25 rv v.R
  | .nt c => nvR (b.nts.getD c []) (nv.getD c nilS)
  | .rw p => ivR (b.rws.getD p []) (rv.getD p nilS)
def liveB (nv rv : List Value) : BI → Prop
  | .nt c => c < nv.length
  | .rw p => p < rv.length
  | _ => True
theorem Fam.new {ι : Type} [DecidableEq ι] {w w' : World} {m : Nat} {live : ι → Prop} {R : ι → Rw} (h : Fam w m live R) {i : ι} {r : Rw} (k : Keep w w') (hn : ∀ b, r.v.ownBlock = some b → w.heap.size ≤ b) (ho : r.own w' m) : Fam w' m live (upd R i r) := by
  have hk := h.keep k
  have new : ∀ j, live j → (R j).v.ownBlock = none ∨ (R j).v.ownBlock ≠ r.v.ownBlock := fun j hj => by
    cases e : (R j).v.ownBlock with
    | none => exact .inl rfl
    | some b => exact .inr (fun e' => by have := (h.lt hj b e).2; have := hn b e'.symm; omega)
  refine ⟨fun j hj => ?_, fun j l hj hl hjl => ?_⟩
  · by_cases e : j = i
    · subst e; rw [upd_same]; exact ho
    · rw [upd_other R r e]; exact hk.own j hj
  · by_cases ej : j = i
    · subst ej
      have el : l ≠ j := fun e => hjl e.symm
      rw [upd_same, upd_other R r el]
      rcases new l hl with h1 | h1
      · rw [h1]
        cases r.v.ownBlock with
        | none => exact .inl rfl
        | some b => exact .inr (by simp)
      · exact .inr (fun e => h1 e.symm)
    · rw [upd_other R r ej]
      by_cases el : l = i
      · subst el; rw [upd_same]; exact new j hj
      · rw [upd_other R r el]; exact h.apart j l hj hl hjl
structure OwnBd (w : World) (m D : Nat) (v : BV) (nv rv : List Value) (bs N : Nat) (dss : List (List Dd)) (b : Bd) : Prop where
  fam : Fam w m (liveB nv rv) (famR D v nv rv b)
  ln : nv.length = b.nts.length
  lr : rv.length = b.rws.length
  work : RdXN w bs N v.W dss
  top : N ≤ w.heap.size
  out : ∀ i, liveB nv rv i → ∀ k, (famR D v nv rv b i).v.ownBlock = some k → k < bs ∨ N ≤ k
structure TurnB (w w' : World) (F F' : Nat → Prop) : Prop where
  os : w'.os = w.os
  tape : w'.tape = w.tape
  output : w'.output = w.output
  size : w.heap.size ≤ w'.heap.size
  block : ∀ g, g < w.heap.size → ¬ F g → w'.heap[g]? = w.heap[g]?
  news : ∀ g, F' g → F g ∨ w.heap.size ≤ g
theorem TurnB.refl (w : World) (F : Nat → Prop) : TurnB w w F F := ⟨rfl, rfl, rfl, Nat.le_refl _, fun _ _ _ => rfl, fun _ h => .inl h⟩
theorem TurnB.trans {a b c : World} {F G H : Nat → Prop} (h : TurnB a b F G) (k : TurnB b c G H) : TurnB a c F H :=
  ⟨k.os.trans h.os, k.tape.trans h.tape, k.output.trans h.output, Nat.le_trans h.size k.size, fun g hg hF => (k.block g (Nat.lt_of_lt_of_le hg h.size) (fun hG => by
    rcases h.news g hG with h1 | h1
    · exact hF h1
    · omega)).trans (h.block g hg hF), fun g hg => by
    rcases k.news g hg with h1 | h1
    · exact h.news g h1
    · exact .inr (Nat.le_trans h.size h1)⟩
theorem TurnB.keep {a w w' : World} {F G : Nat → Prop} (h : TurnB a w F G) (k : Keep w w') : TurnB a w' F G :=
  h.trans ⟨Below.os k, Below.tape k, Below.output k, k.size, fun g hg _ => Below.block k g hg, fun _ h => .inl h⟩
theorem TurnB.grown {a w w' : World} {F G : Nat → Prop} {row : Option Nat} (h : TurnB a w F G) (hg : w.grownBy w' row) (hr : ∀ k, row = some k → G k) : TurnB a w' F G :=
  h.trans ⟨hg.os, hg.tape, hg.output, hg.size, fun g h1 h2 => hg.block g h1 (fun e => h2 (hr g e.symm)), fun _ h => .inl h⟩
theorem TurnB.cell {a w : World} {F G : Nat → Prop} (h : TurnB a w F G) {g j : Nat} (hg : g < a.heap.size) (hF : ¬ F g) : w.cell? ⟨g, j, none⟩ = a.cell? ⟨g, j, none⟩ := World.cell?_of_block (w := a) (h.block g hg hF)
theorem TurnB.more {a w : World} {F G G' : Nat → Prop} (h : TurnB a w F G) (hn : ∀ g, G' g → F g ∨ a.heap.size ≤ g) : TurnB a w F G' := ⟨h.os, h.tape, h.output, h.size, h.block, hn⟩
section
variable {w w' : World} {m D : Nat} {v : BV} {nv rv : List Value} {bs N : Nat} {dss : List (List Dd)} {b : Bd}
theorem OwnBd.keep (h : OwnBd w m D v nv rv bs N dss b) (k : Keep w w') : OwnBd w' m D v nv rv bs N dss b :=
  ⟨h.fam.keep k, h.ln, h.lr, h.work.kept k.grownBy (by simp), Nat.le_trans h.top k.size, h.out⟩
theorem OwnBd.far (h : OwnBd w m D v nv rv bs N dss b) {row : Option Nat} (hg : w.grownBy w' row) (hr : ∀ k, row = some k → k < m ∧ (k < bs ∨ N ≤ k)) : OwnBd w' m D v nv rv bs N dss b :=
  ⟨h.fam.far hg (fun i hi => by
    cases e : (famR D v nv rv b i).v.ownBlock with
    | none => exact .inl rfl
    | some k => exact .inr (fun e' => by have := (h.fam.lt hi k e).1; have := hr k e'.symm; omega)), h.ln, h.lr, h.work.kept hg (fun g hg' => (hr g hg').2), Nat.le_trans h.top hg.size, h.out⟩
theorem OwnBd.drewN (h : OwnBd w m D v nv rv bs N dss b) (n : Nat) : OwnBd (w.drewN n) m D v nv rv bs N dss b := h.keep ((Keep.refl w).drewN n)
theorem OwnBd.drew (h : OwnBd w m D v nv rv bs N dss b) : OwnBd w.drew m D v nv rv bs N dss b := h.keep (Keep.refl w).drew
theorem OwnBd.set (h : OwnBd w m D v nv rv bs N dss b) (i : BI) (hi : liveB nv rv i) {r : Rw} (hg : w.grownBy w' (famR D v nv rv b i).v.ownBlock)
    (hb : r.v.ownBlock = (famR D v nv rv b i).v.ownBlock ∨ r.v.ownBlock = some w.heap.size ∨ r.v.ownBlock = none) (ho : r.own w' m)
    {v' : BV} {nv' rv' : List Value} {b' : Bd} (hl : nv'.length = nv.length) (hl2 : rv'.length = rv.length) (hn : b'.nts.length = b.nts.length) (hr : b'.rws.length = b.rws.length) (hW : v'.W = v.W)
    (hf : ∀ j, famR D v' nv' rv' b' j = upd (famR D v nv rv b) i r j) : OwnBd w' m D v' nv' rv' bs N dss b' := by
  have hlive : ∀ j, liveB nv' rv' j → liveB nv rv j := fun j => by cases j <;> simp [liveB, hl, hl2]
  refine ⟨(h.fam.set hi hg hb ho).congr hlive (fun j _ => hf j), by rw [hl, hn]; exact h.ln, by rw [hl2, hr]; exact h.lr, ?_, Nat.le_trans h.top hg.size, fun j hj k hk => ?_⟩
  · rw [hW]
    exact h.work.kept hg (fun g hg' => h.out i hi g hg')
  · rw [hf j] at hk
    by_cases e : j = i
    · subst e
      rw [upd_same] at hk
      rcases hb with hb | hb | hb
      · rw [hb] at hk; exact h.out j hi k hk
      · rw [hb] at hk
        have := Option.some.inj hk
        have := h.top
        right; omega
      · rw [hb] at hk; cases hk
    · rw [upd_other _ _ e] at hk
      exact h.out j (hlive j hj) k hk
theorem OwnBd.base (h : OwnBd w m D v nv rv bs N dss b) : m ≤ D ∧ D < w.heap.size := h.fam.lt (i := .bd) trivial D rfl
theorem OwnBd.ge (h : OwnBd w m D v nv rv bs N dss b) (i : BI) (hi : liveB nv rv i) : ∀ k, (famR D v nv rv b i).v.ownBlock = some k → m ≤ k := fun k hk => (h.fam.lt hi k hk).1
theorem OwnBd.cells (h : OwnBd w m D v nv rv bs N dss b) : w.cell? ⟨D, 0, none⟩ = some v.W ∧ w.cell? ⟨D, 1, none⟩ = some v.P ∧ w.cell? ⟨D, 2, none⟩ = some v.L ∧ w.cell? ⟨D, 3, none⟩ = some v.N ∧
    w.cell? ⟨D, 4, none⟩ = some v.X ∧ w.cell? ⟨D, 5, none⟩ = some v.S ∧ w.cell? ⟨D, 6, none⟩ = some v.F ∧ w.cell? ⟨D, 7, none⟩ = some v.R := by
  have o := h.fam.own .bd trivial
  have c := fun j hj => World.ownsRow.cellAt (show w.ownsRow m 29 8 (.slice (some ⟨D, 0, none⟩) 1 1) 1 [v.W, v.P, v.L, v.N, v.X, v.S, v.F, v.R] from o) j hj
  exact ⟨c 0 (by decide), c 1 (by decide), c 2 (by decide), c 3 (by decide), c 4 (by decide), c 5 (by decide), c 6 (by decide), c 7 (by decide)⟩
theorem OwnBd.free (h : OwnBd w m D v nv rv bs N dss b) (j : Nat) : w.frozen? ⟨D, j, none⟩ = false :=
  World.ownsRow.frozenAt (show w.ownsRow m 29 8 (.slice (some ⟨D, 0, none⟩) 1 1) 1 [v.W, v.P, v.L, v.N, v.X, v.S, v.F, v.R] from h.fam.own .bd trivial) j
theorem OwnBd.oP (h : OwnBd w m D v nv rv bs N dss b) : Own w m v.P b.plc := h.fam.own .plc trivial
theorem OwnBd.oL (h : OwnBd w m D v nv rv bs N dss b) : Own w m v.L b.lst := h.fam.own .lst trivial
theorem OwnBd.oX (h : OwnBd w m D v nv rv bs N dss b) : Own w m v.X b.nxt := h.fam.own .nxt trivial
theorem OwnBd.oS (h : OwnBd w m D v nv rv bs N dss b) : Own w m v.S b.sn := h.fam.own .sn trivial
theorem OwnBd.oF (h : OwnBd w m D v nv rv bs N dss b) : Own w m v.F b.fr := h.fam.own .fr trivial
theorem OwnBd.oN (h : OwnBd w m D v nv rv bs N dss b) {c : Nat} (hc : c < b.nts.length) : AppT cN 66 3 w m (nv.getD c nilS) (b.nts.getD c []) := h.fam.own (.nt c) (by show c < nv.length; rw [h.ln]; exact hc)
theorem OwnBd.oR (h : OwnBd w m D v nv rv bs N dss b) {p : Nat} (hp : p < b.rws.length) : Own w m (rv.getD p nilS) (b.rws.getD p []) := h.fam.own (.rw p) (by show p < rv.length; rw [h.lr]; exact hp)
theorem own_head {t : TypeId} {u : Value} {vs : List Value} (o : (hdR t vs u).own w m) : ∃ a cap, u = .slice a vs.length cap ∧ (vs = [] ∨ ∃ g, a = some ⟨g, 0, none⟩ ∧ g < w.heap.size ∧ ∀ i, i < vs.length → w.cell? ⟨g, i, none⟩ = some (vs.getD i nilS)) := by
  have hlt := World.ownsRow.lt o
  have o' := o
  rcases o.2 with ⟨h1, h2⟩ | ⟨g, cap, cur, h1, _⟩
  · have : vs = [] := List.eq_nil_of_length_eq_zero h2
    subst this
    exact ⟨none, 0, h1, .inl rfl⟩
  · refine ⟨some ⟨g, 0, none⟩, cap, h1, .inr ⟨g, rfl, (hlt g (by show u.ownBlock = _; rw [show u = _ from h1]; rfl)).2, fun i hi => ?_⟩⟩
    have o2 : w.ownsRow m t 1 (.slice (some ⟨g, 0, none⟩) vs.length cap) vs.length vs := by rw [← show u = _ from h1]; exact o'
    rw [World.ownsRow.cellAt o2 i (by omega), List.getD_eq_getElem?_getD, List.getElem?_eq_getElem hi]
    rfl
theorem OwnBd.hN (h : OwnBd w m D v nv rv bs N dss b) : ∃ a cap, v.N = .slice a b.nts.length cap ∧ (b.nts = [] ∨ ∃ g, a = some ⟨g, 0, none⟩ ∧ g < w.heap.size ∧ ∀ i, i < b.nts.length → w.cell? ⟨g, i, none⟩ = some (nv.getD i nilS)) := by
  obtain ⟨a, cap, e, h1⟩ := own_head (h.fam.own .nts trivial)
  rw [h.ln] at e
  refine ⟨a, cap, e, ?_⟩
  rcases h1 with h1 | ⟨g, e1, e2, e3⟩
  · left
    have := h.ln
    rw [h1] at this
    exact List.eq_nil_of_length_eq_zero this.symm
  · exact .inr ⟨g, e1, e2, fun i hi => e3 i (by rw [h.ln]; exact hi)⟩
theorem OwnBd.hR (h : OwnBd w m D v nv rv bs N dss b) : ∃ a cap, v.R = .slice a b.rws.length cap ∧ (b.rws = [] ∨ ∃ g, a = some ⟨g, 0, none⟩ ∧ g < w.heap.size ∧ ∀ i, i < b.rws.length → w.cell? ⟨g, i, none⟩ = some (rv.getD i nilS)) := by
  obtain ⟨a, cap, e, h1⟩ := own_head (h.fam.own .rws trivial)
  rw [h.lr] at e
  refine ⟨a, cap, e, ?_⟩
  rcases h1 with h1 | ⟨g, e1, e2, e3⟩
  · left
    have := h.lr
    rw [h1] at this
    exact List.eq_nil_of_length_eq_zero this.symm
  · exact .inr ⟨g, e1, e2, fun i hi => e3 i (by rw [h.lr]; exact hi)⟩
theorem OwnBd.rd (h : OwnBd w m D v nv rv bs N dss b) : RdBd w v dss b := by
  refine ⟨h.work.rd, h.oP.rd, h.oL.rd, ?_, h.oX.rd, h.oS.rd, h.oF.rd, ?_⟩
  · obtain ⟨a, cap, e, h1⟩ := h.hN
    refine ⟨a, cap, e, ?_⟩
    rcases h1 with h1 | ⟨g, e1, e2, e3⟩
    · exact .inl h1
    · exact .inr ⟨g, 0, e1, e2, fun i hi => ⟨_, by rw [Nat.zero_add]; exact e3 i hi, AppT.rd cN_len (h.oN hi)⟩⟩
  · obtain ⟨a, cap, e, h1⟩ := h.hR
    refine ⟨a, cap, e, ?_⟩
    rcases h1 with h1 | ⟨g, e1, e2, e3⟩
    · exact .inl h1
    · exact .inr ⟨g, 0, e1, e2, fun i hi => ⟨_, by rw [Nat.zero_add]; exact e3 i hi, (h.oR hi).rd⟩⟩
theorem getD_setV {α : Type} (l : List α) (k : Nat) (x z : α) (hk : k < l.length) (j : Nat) : (l.set k x).getD j z = if j = k then x else l.getD j z := by
  rw [List.getD_eq_getElem?_getD, List.getD_eq_getElem?_getD, List.getElem?_set]
  by_cases e : k = j
  · subst e; simp [hk]
  · rw [if_neg e, if_neg (fun h => e h.symm)]
theorem OwnBd.stay (h : OwnBd w m D v nv rv bs N dss b) (i : BI) (hi : liveB nv rv i) (hb : i ≠ .bd) (hg : w.grownBy w' (famR D v nv rv b i).v.ownBlock) (j : Nat) : w'.cell? ⟨D, j, none⟩ = w.cell? ⟨D, j, none⟩ := by
  have hne : some D ≠ (famR D v nv rv b i).v.ownBlock := by
    rcases h.fam.apart .bd i trivial hi (fun e => hb e.symm) with e | e
    · cases e
    · exact e
  exact World.cell?_of_block (w := w) (hg.block D h.base.2 hne)
end
end
theorem board_info : (Try.prog.info? 29).map (·.size) = some 8 := by kernel_rfl
theorem grown_row3 (w : World) (g : Nat) (cs : Array Value) : w.grownBy (w.setRow g cs) (some g) :=
  ⟨rfl, rfl, rfl, by simp, fun k _ hk => by
    unfold World.setRow
    have hk' : k ≠ g := fun e => hk (by rw [e])
    rw [Array.getElem?_modify]
    simp [hk'.symm]⟩
theorem setRow_at (w : World) (g : Nat) (t : TypeId) (old cs : Array Value) (fr : Nat × Nat) (h : w.heap[g]? = some (.cells old t fr)) : (w.setRow g cs).heap[g]? = some (.cells cs t fr) := setRow_heap w g old cs t fr h
theorem box_own (w : World) {m : Nat} (hm : m ≤ w.heap.size) : Rw.own (w.alloc (.cells #[nilS, nilS, nilS, nilS, nilS, nilS, nilS, nilS] 29)) m ⟨29, 8, .slice (some ⟨w.heap.size, 0, none⟩) 1 1, 1, [nilS, nilS, nilS, nilS, nilS, nilS, nilS, nilS]⟩ :=
  ⟨rfl, .inr ⟨w.heap.size, 1, _, rfl, hm, heap_alloc_new w _, Nat.le_refl _, by unfold maxLen; decide, rfl, rfl⟩⟩
theorem box_put {w : World} {m D : Nat} {cs : List Value} {v : BV} (h : Rw.own w m ⟨29, 8, .slice (some ⟨D, 0, none⟩) 1 1, 1, cs⟩) : (∃ old : Array Value, w.heap[D]? = some (.cells old 29 (0, 0)) ∧ old.size = 8) ∧ (bdR D v).own (w.setRow D v.arr) m := by
  rcases h.2 with ⟨e, _⟩ | ⟨g, cap, cur, e, hb, hg, hn, hm, hs, ht⟩
  · cases e
  · simp only [Value.slice.injEq, Option.some.injEq, Addr.mk.injEq, and_true, true_and] at e
    obtain ⟨rfl, rfl⟩ := e
    exact ⟨⟨cur, hg, hs⟩, rfl, .inr ⟨D, 1, v.arr, rfl, hb, setRow_at w D _ _ _ _ hg, Nat.le_refl _, hm, rfl, rfl⟩⟩
theorem Try.infoNl : (Try.prog.info? 36).map (fun i => (i.zero, i.size, i.bytes)) = some (some (.slice none 0 0), 1, 24) := by kernel_rfl
theorem Try.infoIl : (Try.prog.info? 25).map (fun i => (i.zero, i.size, i.bytes)) = some (some (.slice none 0 0), 1, 24) := by kernel_rfl
theorem own_base {w : World} {m m' : Nat} {e : TypeId} {n : Nat} {v : Value} {k : Nat} {xs : List Value} (o : w.ownsRow m e n v k xs) (hm : m' ≤ m) : w.ownsRow m' e n v k xs := by
  refine ⟨o.1, ?_⟩
  rcases o.2 with q | ⟨g, cap, cur, e, hg, r⟩
  · exact .inl q
  · exact .inr ⟨g, cap, cur, e, Nat.le_trans hm hg, r⟩
theorem eventsB_len9 (dss : List (List Dd)) : (eventsB dss).length ≤ 9 := by
  unfold eventsB
  split
  · rename_i h
    simp only [workB, Bool.and_eq_true, decide_eq_true_eq] at h
    obtain ⟨⟨⟨⟨_, h2⟩, _⟩, h4⟩, _⟩ := h
    have := evsW_len (fun i hi => all_get [] h2 i hi) dss.length (Nat.le_refl _)
    omega
  · simp
theorem okD_kind {d : Dd} (h : okD d = true) : d.1 = 1 ∨ d.1 = 2 ∨ d.1 = 3 ∨ d.1 = 4 := by
  simp [okD, deedB] at h
  omega
theorem okD_group {d : Dd} (h : okD d = true) : 0 ≤ d.2.2.2 ∧ d.2.2.2 ≤ 9 := by
  simp [okD, deedB] at h
  omega
theorem l5Events_any (w : World) (v : Value) (dss : List (List Dd)) (h : RdW w v dss) (hx : dss.length ≤ 3) (hok : ∀ i, i < dss.length → okL (dss.getD i []) = true) :
    Calls Try.prog 79 #[v] w fun e w' => e = .returned (.int .i64 (evW dss dss.length)) ∧ Keep w w' := by
  obtain ⟨a, c, rfl, h⟩ := h
  go_enter Try.func79, Try.ntmps79
  go_wp2
  go_loopw [3, 4] (fun n i wr => ∃ k : Nat, ∃ m : Int, k ≤ dss.length ∧ n = .int .i64 m ∧ i = .int .i64 k ∧ Hid (m = evW dss k) ∧ 0 ≤ m ∧ m ≤ 10 * k ∧ Keep w wr) (fun _ i _ => dss.length - (intOf i).toNat)
  case atStart => exact ⟨0, 0, Nat.zero_le _, rfl, rfl, Lib.hid rfl, by omega, by omega, Keep.refl _⟩
  case round =>
    obtain ⟨k, m, hk, rfl, rfl, hm, m0, m1, hK⟩ := hrel
    by_cases hlt : k < dss.length
    · rcases h with h | ⟨b, o, rfl, hb, hc⟩
      · exfalso; rw [h] at hlt; simp at hlt
      obtain ⟨u, e1, r1⟩ := hc k hlt
      have d1 := (hK.cell hb).trans e1
      have r1 := r1.keep hK
      have okk := hok k hlt
      clear hc e1 hok
      obtain ⟨ds, hds⟩ : ∃ ds, ds = dss.getD k [] := ⟨_, rfl⟩
      have HDS := Lib.hid hds
      rw [← hds] at r1 okk
      clear hds
      obtain ⟨ai, ci, rfl, r1⟩ := r1
      have i1 : (0 : Int) ≤ (k : Int) := Int.natCast_nonneg _
      have i2 : (k : Int) < (dss.length : Int) := by omega
      have hl5 : ds.length ≤ 5 := by simp [okL] at okk; omega
      have hbw : b < wr.heap.size := Nat.lt_of_lt_of_le hb hK.size
      go_wp2
      obtain ⟨wo, hwo⟩ : ∃ wo : World, wo = wr := ⟨_, rfl⟩
      subst hwo
      go_loopw [3, 5] (fun n i wq => ∃ q : Nat, ∃ t : Int, q ≤ ds.length ∧ n = .int .i64 t ∧ i = .int .i64 q ∧ Hid (t = m + evK ds q) ∧ 0 ≤ t ∧ t ≤ 10 * k + 2 * q ∧ Keep wo wq) (fun _ i _ => ds.length - (intOf i).toNat)
      case atStart => exact ⟨0, m, Nat.zero_le _, rfl, rfl, Lib.hid (by simp [evK]), by omega, by omega, Keep.refl _⟩
      case round =>
        obtain ⟨q, t, hq, rfl, rfl, ht, t0, t1, hQ⟩ := hrel
        have d1 := (hQ.cell hbw).trans d1
        have hbq : b < wr.heap.size := Nat.lt_of_lt_of_le hbw hQ.size
        by_cases hlq : q < ds.length
        · rcases r1 with h | ⟨b2, o2, rfl, hb2, hc2⟩
          · exfalso; rw [h] at hlq; simp at hlq
          have AT := (hc2 q hlq).keep hb2 hQ
          have okq : okD (ds.getD q zD) = true := by
            simp only [okL, Bool.and_eq_true] at okk
            exact all_get zD okk.1 q hlq
          clear hc2 okk
          have hb3 : b2 < wr.heap.size := Nat.lt_of_lt_of_le hb2 hQ.size
          have HEV : Hid (t + evD (ds.getD q zD) = m + evK ds (q + 1)) := Lib.hid (by rw [evK, ht.out]; omega)
          clear ht
          obtain ⟨d, hd⟩ : ∃ d, d = ds.getD q zD := ⟨_, rfl⟩
          rw [← hd] at AT okq HEV
          clear hd
          have KD := okD_kind okq
          obtain ⟨x0, x1, x2, x3⟩ := d
          obtain ⟨A0, -, -, -⟩ := AT
          simp only at A0 KD
          have j1 : (0 : Int) ≤ (q : Int) := Int.natCast_nonneg _
          have j2 : (q : Int) < (ds.length : Int) := by omega
          rcases KD with rfl | rfl | rfl | rfl
          all_goals
            go_wp2
            go_roundw
            case rel => exact ⟨q + 1, _, by omega, rfl, by go_num, Lib.hid (by have := HEV.out; simp [evD] at this; omega), by omega, by omega, hQ.alloc _⟩
            case measure => simp [intOf]; omega
        · obtain rfl : q = ds.length := by omega
          go_wp2
          go_roundw
          case rel => exact ⟨k + 1, t, by omega, rfl, by go_num, Lib.hid (by rw [evW, ← HDS.out, ht.out, hm.out]), t0, by omega, hK.trans hQ⟩
          case measure => simp [intOf]; omega
    · obtain rfl : k = dss.length := by omega
      go_wp2
      go_ret
      exact ⟨by rw [hm.out]; rfl, hK⟩
theorem made_ten : (madeCells (Value.int .i64 0).cells (10 * 1)).toList = ((List.replicate 10 (0 : Int)).map (Value.int .i64)) := by
  rw [Nat.mul_one, List.map_replicate]
  exact toList_madeCells_one _ _
theorem grp_skip {i : Nat} {own o : List Int} {ds : List Dd} {k : Nat} (h : grpK i own ds k = some o) (hg : (ds.getD k zD).2.2.2 = 0) : grpK i own ds (k + 1) = some o := by
  rw [grpK, h]
  simp only [hg, if_true]
theorem grp_bad {i : Nat} {own o : List Int} {ds : List Dd} {k : Nat} (h : grpK i own ds k = some o) (hg : (ds.getD k zD).2.2.2 ≠ 0)
    (hb : o.getD (ds.getD k zD).2.2.2.toNat 0 ≠ 0 ∧ (o.getD (ds.getD k zD).2.2.2.toNat 0 ≠ (i : Int) + 1 ∨ k = 0 ∨ (ds.getD (k - 1) zD).2.2.2 ≠ (ds.getD k zD).2.2.2)) : grpK i own ds (k + 1) = none := by
  rw [grpK, h]
  simp only
  rw [if_neg hg, if_pos hb]
theorem grp_own {i : Nat} {own o : List Int} {ds : List Dd} {k : Nat} (h : grpK i own ds k = some o) (hg : (ds.getD k zD).2.2.2 ≠ 0)
    (hb : ¬ (o.getD (ds.getD k zD).2.2.2.toNat 0 ≠ 0 ∧ (o.getD (ds.getD k zD).2.2.2.toNat 0 ≠ (i : Int) + 1 ∨ k = 0 ∨ (ds.getD (k - 1) zD).2.2.2 ≠ (ds.getD k zD).2.2.2))) :
    grpK i own ds (k + 1) = some (o.set (ds.getD k zD).2.2.2.toNat ((i : Int) + 1)) := by
  rw [grpK, h]
  simp only
  rw [if_neg hg, if_neg hb]
theorem grp_out {dss : List (List Dd)} {k : Nat} {own : List Int} (hk : k < dss.length) (h : grpW dss k = some own) {q : Nat} (hq : q ≤ (dss.getD k []).length) (hn : grpK k own (dss.getD k []) q = none) : grpB dss = false := by
  have h1 : grpW dss (k + 1) = none := by
    rw [grpW, h]
    exact grpK_none hn _ hq
  rw [grpB, grpW_none h1 _ hk]
  rfl
theorem l5Groups_any (w : World) (v : Value) (dss : List (List Dd)) (h : RdW w v dss) (hx : dss.length ≤ 3) (hok : ∀ i, i < dss.length → okL (dss.getD i []) = true) :
    Calls Try.prog 80 #[v] w fun e w' => e = .returned (.bool (grpB dss)) ∧ Keep w w' := by
  obtain ⟨a, c, rfl, h⟩ := h
  obtain ⟨i0, hi, hz0, hz1, hz2⟩ := info_parts Try.infoI
  go_enter Try.func80, Try.ntmps80
  go_wp2_with (at_make; refine wpList_make_full _ rfl _ _ 25 rfl w.heap.size 2 i0 (.int .i64 0) 1 Try.underlying25 hi hz0 hz1 .i64 .i64 _ _ 10 rfl rfl rfl rfl (by rw [hz2]; omega) (by unfold maxLen; omega) (Nat.le_refl _) ?_; intro w1 hown hgrow)
  have k1 : Keep w w1 := (Keep.refl w).grown hgrow (by simp)
  have rb : RowAt w1 w.heap.size (List.replicate 10 0) := by
    have o : Own w1 w.heap.size (.slice (some ⟨w.heap.size, 0, none⟩) 10 10) (List.replicate 10 0) := by
      rw [made_ten] at hown; unfold Own; simpa using hown
    rcases o.row with ⟨e, _⟩ | ⟨g, cap, e, _, hr⟩
    · cases e
    · have e1 := congrArg Value.ownBlock e
      simp [Value.ownBlock] at e1
      rw [e1]; exact hr
  clear hgrow hown hi hz0 hz1 hz2
  go_loopw [4] (fun i wr => ∃ k : Nat, ∃ own : List Int, k ≤ dss.length ∧ i = .int .i64 k ∧ Hid (grpW dss k = some own) ∧ RowAt wr w.heap.size own ∧ Keep w wr) (fun i _ => dss.length - (intOf i).toNat)
  case atStart => exact ⟨0, List.replicate 10 0, Nat.zero_le _, rfl, Lib.hid rfl, rb, k1⟩
  case round =>
    obtain ⟨k, own, hk, rfl, hG, hR, hK⟩ := hrel
    clear rb k1
    by_cases hlt : k < dss.length
    · rcases h with h | ⟨b, o, rfl, hb, hc⟩
      · exfalso; rw [h] at hlt; simp at hlt
      obtain ⟨u, e1, r1⟩ := hc k hlt
      have okk := hok k hlt
      clear hc hok
      obtain ⟨ds, hds⟩ : ∃ ds, ds = dss.getD k [] := ⟨_, rfl⟩
      have HDS := Lib.hid hds
      rw [← hds] at r1 okk
      clear hds
      obtain ⟨ai, ci, rfl, r1⟩ := r1
      have d1 := (hK.cell hb).trans e1
      have i1 : (0 : Int) ≤ (k : Int) := Int.natCast_nonneg _
      have i2 : (k : Int) < (dss.length : Int) := by omega
      have hl5 : ds.length ≤ 5 := by simp [okL] at okk; omega
      go_wp2
      go_loopw [5] (fun i wq => ∃ q : Nat, ∃ ow : List Int, q ≤ ds.length ∧ i = .int .i64 q ∧ Hid (grpK k own ds q = some ow) ∧ RowAt wq w.heap.size ow ∧ Keep w wq) (fun i _ => ds.length - (intOf i).toNat)
      case atStart => exact ⟨0, own, Nat.zero_le _, rfl, Lib.hid rfl, hR, hK⟩
      case round =>
        obtain ⟨q, ow, hq, rfl, hQ, hS, hL⟩ := hrel
        have d1 := (hL.cell hb).trans e1
        by_cases hlq : q < ds.length
        · rcases r1 with h | ⟨b2, o2, rfl, hb2, hc2⟩
          · exfalso; rw [h] at hlq; simp at hlq
          have A3 := ((hc2 q hlq).keep hb2 hL).2.2.2
          have okq : okD (ds.getD q zD) = true := by
            simp only [okL, Bool.and_eq_true] at okk
            exact all_get zD okk.1 q hlq
          have g09 : 0 ≤ (ds.getD q zD).2.2.2 ∧ (ds.getD q zD).2.2.2 ≤ 9 := okD_group okq
          clear okk okq
          have AP : 0 < q → wr.cell? ⟨b2, o2 + (q - 1) * 4 + 3, none⟩ = some (.int .i64 (ds.getD (q - 1) zD).2.2.2) := fun _ => ((hc2 (q - 1) (by omega)).keep hb2 hL).2.2.2
          clear hc2
          have S1 := @grp_skip k own ow ds q hQ.out
          have S2 := @grp_bad k own ow ds q hQ.out
          have S3 := @grp_own k own ow ds q hQ.out
          have hlen : ow.length = 10 := (grpK_len hQ.out).trans (grpW_len hG.out)
          clear hQ
          obtain ⟨g, hg⟩ : ∃ g : Nat, (ds.getD q zD).2.2.2 = (g : Int) := ⟨_, (Int.toNat_of_nonneg g09.1).symm⟩
          rw [hg] at A3 g09 S1 S2 S3
          rw [Int.toNat_natCast] at S2 S3
          clear hg
          have hg9 : g < 10 := by omega
          obtain ⟨p, hp⟩ : ∃ p : Int, p = (ds.getD (q - 1) zD).2.2.2 := ⟨_, rfl⟩
          rw [← hp] at AP S2 S3
          clear hp
          have hRC := hS.cell (j := g) (by omega)
          obtain ⟨y, hy⟩ : ∃ y : Int, y = ow.getD g 0 := ⟨_, rfl⟩
          rw [← hy] at hRC S2 S3
          clear hy g09
          have j1 : (0 : Int) ≤ (q : Int) := Int.natCast_nonneg _
          have j2 : (q : Int) < (ds.length : Int) := by omega
          have j3 : (0 : Int) ≤ (g : Int) := Int.natCast_nonneg _
          have j4 : (g : Int) < 10 := by omega
          have hbq : b < wr.heap.size := Nat.lt_of_lt_of_le hb hL.size
          have hb3 : b2 < wr.heap.size := Nat.lt_of_lt_of_le hb2 hL.size
          by_cases g0 : g = 0
          · have eg : ((g : Int) == 0) = true := by simp [g0]
            have HE := Lib.hid (S1 (by omega))
            clear S1 S2 S3 AP
            go_wp2
            go_roundw
            case rel => exact ⟨q + 1, ow, by omega, by go_num, HE, hS, hL⟩
            case measure => simp [intOf]; omega
          · have HN : Hid ((g : Int) ≠ 0) := Lib.hid (by omega)
            have eg : ((g : Int) == 0) = false := by simp; omega
            have hF := hS.free g
            clear S1
            by_cases y0 : y = 0
            · subst y0
              have HE := Lib.hid (S3 HN.out (by simp))
              clear S2 S3 AP
              go_wp2
              go_roundw
              case rel => exact ⟨q + 1, _, by omega, by go_num, HE, hS.set g _, hL.set (Nat.le_refl _) g _⟩
              case measure => simp [intOf]; omega
            · have ey : (y != 0) = true := by simp [y0]
              by_cases yk : y = (k : Int) + 1
              · subst yk
                have ek : ((k : Int) + 1 != (k : Int) + 1) = false := by simp
                by_cases q0 : q = 0
                · have eq : ((q : Int) == 0) = true := by simp [q0]
                  have HE : Hid (grpB dss = false) := Lib.hid (grp_out hlt hG.out (q := q + 1) (by rw [← HDS.out]; omega) (by rw [← HDS.out]; exact S2 HN.out ⟨y0, .inr (.inl q0)⟩))
                  clear S2 S3 AP y0 q0
                  go_wp2
                  go_ret
                  exact ⟨by rw [HE.out]; rfl, hL⟩
                · have eq : ((q : Int) == 0) = false := by simp; omega
                  have AP := AP (by omega)
                  obtain ⟨r, rfl⟩ : ∃ r : Nat, q = r + 1 := ⟨q - 1, by omega⟩
                  rw [Nat.add_sub_cancel] at AP
                  have j5 : (0 : Int) ≤ (r : Int) := Int.natCast_nonneg _
                  have j6 : (r : Int) < (ds.length : Int) := by omega
                  by_cases pg : p = (g : Int)
                  · subst pg
                    have ep : ((g : Int) != (g : Int)) = false := by simp
                    have HE := Lib.hid (S3 HN.out (by simp))
                    clear S2 S3 y0
                    go_wp2
                    go_roundw
                    case rel => exact ⟨r + 1 + 1, _, by omega, by go_num, HE, hS.set g _, hL.set (Nat.le_refl _) g _⟩
                    case measure => simp [intOf]; omega
                  · have ep : (p != (g : Int)) = true := by simp [pg]
                    have HE : Hid (grpB dss = false) := Lib.hid (grp_out hlt hG.out (q := r + 1 + 1) (by rw [← HDS.out]; omega) (by rw [← HDS.out]; exact S2 HN.out ⟨y0, .inr (.inr pg)⟩))
                    clear S2 S3 y0 pg
                    go_wp2
                    go_ret
                    exact ⟨by rw [HE.out]; rfl, hL⟩
              · have ek : (y != (k : Int) + 1) = true := by simp [yk]
                have HE : Hid (grpB dss = false) := Lib.hid (grp_out hlt hG.out (q := q + 1) (by rw [← HDS.out]; omega) (by rw [← HDS.out]; exact S2 HN.out ⟨y0, .inl yk⟩))
                clear S2 S3 AP yk y0
                go_wp2
                go_ret
                exact ⟨by rw [HE.out]; rfl, hL⟩
        · obtain rfl : q = ds.length := by omega
          go_wp2
          go_roundw
          case rel => exact ⟨k + 1, ow, by omega, by go_num, Lib.hid (by rw [grpW, hG.out, ← HDS.out]; exact hQ.out), hS, hL⟩
          case measure => simp [intOf]; omega
    · obtain rfl : k = dss.length := by omega
      go_wp2
      go_ret
      exact ⟨by rw [grpB, hG.out]; rfl, hK⟩
theorem take_more {α : Type} (l : List α) (k : Nat) (z : α) (h : k < l.length) : l.take (k + 1) = l.take k ++ [l.getD k z] := by
  rw [List.take_add_one, List.getElem?_eq_getElem h, List.getD_eq_getElem?_getD, List.getElem?_eq_getElem h]
  rfl
theorem all_more {α : Type} {f : α → Bool} {l : List α} {k : Nat} (z : α) (h : k < l.length) (h1 : (l.take k).all f = true) (h2 : f (l.getD k z) = true) : (l.take (k + 1)).all f = true := by
  rw [take_more l k z h, List.all_append, h1]
  rw [List.all_cons, h2]; rfl
theorem lenW_more (d : List Dd) : ∀ l : List (List Dd), lenW (l ++ [d]) = lenW l + d.length
  | [] => by simp [lenW]
  | x :: r => by rw [List.cons_append, lenW, lenW, lenW_more d r]; omega
theorem workB_off {dss : List (List Dd)} {k : Nat} (hk : k < dss.length) (h : okL (dss.getD k []) = false) : workB dss = false := by
  rw [workB, all_not [] k hk h]; simp
theorem specWorkOk_any (w : World) (v : Value) (dss : List (List Dd)) (h : RdW w v dss) (hx : dss.length ≤ 1048576) (hm : ∀ i, i < dss.length → (dss.getD i []).length ≤ 1048576) :
    Calls Try.prog 41 #[v] w fun e w' => e = .returned (.bool (workB dss)) ∧ Keep w w' := by
  have RW := h
  obtain ⟨a, c, rfl, h⟩ := h
  cases hb : inB (dss.length : Int) 1 3
  · have HE : Hid (workB dss = false) := by
      refine Lib.hid ?_
      simp [inB] at hb
      rw [workB, decide_eq_false (by omega)]
      rfl
    go_enter Try.func41, Try.ntmps41
    go_wp2_with (go_at_call 45; refine (l1In_any _ _ _ _).mono ?_; rintro e w' ⟨rfl, rfl⟩)
    go_ret
    exact ⟨by rw [HE.out]; rfl, Keep.refl _⟩
  · have h13 : 1 ≤ dss.length ∧ dss.length ≤ 3 := by simp [inB] at hb; omega
    have HIN := Lib.hid h13
    have h3 := h13.2
    clear h13
    go_enter Try.func41, Try.ntmps41
    go_wp2_with (go_at_call 45; refine (l1In_any _ _ _ _).mono ?_; rintro e w' ⟨rfl, rfl⟩)
    clear hb
    go_loopw [3, 4] (fun n i wr => ∃ k m : Nat, k ≤ dss.length ∧ n = .int .i64 m ∧ i = .int .i64 k ∧ Hid (m = lenW (dss.take k) ∧ (dss.take k).all okL = true) ∧ m ≤ 5 * k ∧ Keep w' wr) (fun _ i _ => dss.length - (intOf i).toNat)
    case atStart => exact ⟨0, 0, Nat.zero_le _, rfl, rfl, Lib.hid (by simp [lenW]), by omega, Keep.refl _⟩
    case round =>
      obtain ⟨k, m, hk, rfl, rfl, hM, m5, hK⟩ := hrel
      by_cases hlt : k < dss.length
      · rcases h with h | ⟨b, o, rfl, hb, hc⟩
        · exfalso; rw [h] at hlt; simp at hlt
        obtain ⟨u, e1, r1⟩ := hc k hlt
        have hmk := hm k hlt
        clear hc hm RW
        obtain ⟨ds, hds⟩ : ∃ ds, ds = dss.getD k [] := ⟨_, rfl⟩
        have HDS := Lib.hid hds
        rw [← hds] at r1 hmk
        clear hds
        obtain ⟨ai, ci, rfl, r1⟩ := r1
        have d1 := (hK.cell hb).trans e1
        have i1 : (0 : Int) ≤ (k : Int) := Int.natCast_nonneg _
        have i2 : (k : Int) < (dss.length : Int) := by omega
        go_wp2
        go_loopw [5] (fun i wq => ∃ q : Nat, q ≤ ds.length ∧ i = .int .i64 q ∧ Hid ((ds.take q).all okD = true) ∧ Keep w' wq) (fun i _ => ds.length - (intOf i).toNat)
        case atStart => exact ⟨0, Nat.zero_le _, rfl, Lib.hid (by simp), hK⟩
        case round =>
          obtain ⟨q, hq, rfl, hQ, hL⟩ := hrel
          have d1 := (hL.cell hb).trans e1
          by_cases hlq : q < ds.length
          · rcases r1 with h | ⟨b2, o2, rfl, hb2, hc2⟩
            · exfalso; rw [h] at hlq; simp at hlq
            have AT := (hc2 q hlq).keep hb2 hL
            clear hc2
            have hbq : b < wr.heap.size := Nat.lt_of_lt_of_le hb hL.size
            have hb3 : b2 < wr.heap.size := Nat.lt_of_lt_of_le hb2 hL.size
            have j1 : (0 : Int) ≤ (q : Int) := Int.natCast_nonneg _
            have j2 : (q : Int) < (ds.length : Int) := by omega
            have HT : okD (ds.getD q zD) = true → Hid ((ds.take (q + 1)).all okD = true) := fun e => Lib.hid (all_more zD hlq hQ.out e)
            have HF : okD (ds.getD q zD) = false → Hid (workB dss = false) := fun e => Lib.hid (workB_off hlt (by rw [← HDS.out, okL, all_not zD q hlq e]; rfl))
            clear hQ
            obtain ⟨d, hd⟩ : ∃ d, d = ds.getD q zD := ⟨_, rfl⟩
            rw [← hd] at AT HT HF
            clear hd
            obtain ⟨x0, x1, x2, x3⟩ := d
            obtain ⟨A0, A1, A2, A3⟩ := AT
            simp only at A0 A1 A2 A3
            unfold okD at HT HF
            simp only at HT HF
            cases hd : deedB x0 x1 x2 x3
            · have HE := HF hd
              clear HT HF
              go_wp2_with fail
              refine (specDeedOk_any _ _ _ _ _).mono ?_
              rintro e wz ⟨rfl, kk⟩
              go_wp2
              go_ret
              exact ⟨by rw [HE.out]; rfl, hL.trans kk⟩
            · have HE := HT hd
              clear HT HF
              go_wp2_with fail
              refine (specDeedOk_any _ _ _ _ _).mono ?_
              rintro e wz ⟨rfl, kk⟩
              go_wp2
              go_roundw
              case rel => exact ⟨q + 1, by omega, by go_num, HE, hL.trans kk⟩
              case measure => simp [intOf]; omega
          · obtain rfl : q = ds.length := by omega
            rw [List.take_length] at hQ
            by_cases h5 : ds.length ≤ 5
            · have HE : Hid (m + ds.length = lenW (dss.take (k + 1)) ∧ (dss.take (k + 1)).all okL = true) := by
                refine Lib.hid ⟨?_, all_more [] hlt hM.out.2 (by rw [← HDS.out, okL, hQ.out]; simp [h5])⟩
                rw [take_more dss k [] hlt, lenW_more, ← HDS.out, hM.out.1]
              go_wp2
              go_roundw
              case rel => exact ⟨k + 1, m + ds.length, by omega, by go_num, by go_num, HE, by omega, hL⟩
              case measure => simp [intOf]; omega
            · have HE : Hid (workB dss = false) := Lib.hid (workB_off hlt (by rw [← HDS.out, okL]; simp; omega))
              go_wp2
              go_ret
              exact ⟨by rw [HE.out]; rfl, hL⟩
      · obtain rfl : k = dss.length := by omega
        rw [List.take_length] at hM
        have OKS : ∀ i, i < dss.length → okL (dss.getD i []) = true := fun i hi => all_get [] hM.out.2 i hi
        have HW : Hid (workB dss = (decide (m ≤ 12) && decide (evW dss dss.length ≤ 6) && grpB dss)) := by
          refine Lib.hid ?_
          rw [workB, decide_eq_true HIN.out, hM.out.2, hM.out.1]
          rfl
        have rw1 := RW.keep hK
        clear hM RW h hm
        by_cases h12 : m ≤ 12
        · have e12 : decide ((m : Int) ≤ 12) = true := by simp; omega
          by_cases h6 : evW dss dss.length ≤ 6
          · have HE : Hid (workB dss = grpB dss) := Lib.hid (by rw [HW.out]; simp [h12, h6])
            go_wp2_with fail
            refine (l5Events_any _ _ _ rw1 h3 OKS).mono ?_
            rintro e wz ⟨rfl, kk⟩
            have rw2 := rw1.keep kk
            go_wp2_with fail
            refine (l5Groups_any _ _ _ rw2 h3 OKS).mono ?_
            rintro e wy ⟨rfl, k2⟩
            go_wp2
            go_ret
            exact ⟨by rw [HE.out]; rfl, (hK.trans kk).trans k2⟩
          · have HE : Hid (workB dss = false) := Lib.hid (by rw [HW.out]; simp [h6])
            go_wp2_with fail
            refine (l5Events_any _ _ _ rw1 h3 OKS).mono ?_
            rintro e wz ⟨rfl, kk⟩
            go_wp2
            go_ret
            exact ⟨by rw [HE.out]; rfl, hK.trans kk⟩
        · have HE : Hid (workB dss = false) := Lib.hid (by rw [HW.out]; simp [h12])
          go_wp2
          go_ret
          exact ⟨by rw [HE.out]; rfl, hK⟩
end Go.Proofs.Ytgakfkjjkobpiaa
