/- Gathered texts. -/
import Derived.WalkKit
import Derived.ProofKit
import Derived.Laws.BitsAllLaws
import Derived.Laws.BitsLemmas
import Derived.Test.YtnmelakgmgenjaaRows
import Derived.OpenShut
import Derived.Below
import Derived.WalkSmall
import Derived.Lib.SmallJoins
import Derived.Laws.Rows
import Derived.Laws.ResultCell
import Derived.Maps.AppendAt
import Derived.Laws.OwnMore
import Derived.OwnWalk
import Derived.Laws.Tables
import Derived.Lib.IndexMore
import Derived.Lib.ParseIntB
import Derived.Lib.ItoaNum
set_option maxRecDepth 100000
set_option maxHeartbeats 8000000
namespace Go.Proofs.Ytnmelakgmgenjaa
open Go.ChangeShapes Go.WideShapes Go.ChangeAt Go.RowKit
open Go.RowKit
theorem ret_bool {a b : Bool} (h : a = b) : Ending.returned (.bool a) = .returned (.bool b) := by rw [h]
theorem ofInt_i64 (a : Nat) (ha : a < 9223372036854775808) : (BitVec.ofInt 64 (a : Int)).toNat = a := ofInt_u64 a (by omega)
theorem i64_and_nat (a b : Nat) (ha : a < 9223372036854775808) (hb : b < 9223372036854775808) : bits .and .i64 (a : Int) (b : Int) = ((a &&& b : Nat) : Int) := by
  have hx : a &&& b < 2 ^ 63 := Nat.and_lt_two_pow _ (by omega)
  show IntKind.i64.wrap ((BitVec.ofInt 64 (a : Int) &&& BitVec.ofInt 64 (b : Int)).toNat : Int) = _
  rw [BitVec.toNat_and, ofInt_i64 a ha, ofInt_i64 b hb, IntKind.wrap_i64]
  omega
theorem pow_le12 (n : Nat) (h : n ≤ 12) : (2 : Int) ^ n ≤ 4096 ∧ (1 : Int) ≤ 2 ^ n := by
  have : n = 0 ∨ n = 1 ∨ n = 2 ∨ n = 3 ∨ n = 4 ∨ n = 5 ∨ n = 6 ∨ n = 7 ∨ n = 8 ∨ n = 9 ∨ n = 10 ∨ n = 11 ∨ n = 12 := by omega
  rcases this with rfl | rfl | rfl | rfl | rfl | rfl | rfl | rfl | rfl | rfl | rfl | rfl | rfl <;> decide
def inB (x lo hi : Int) : Bool := decide (lo ≤ x ∧ x ≤ hi)
def okB (n s : Int) : Bool := decide ((0 ≤ n ∧ n ≤ 12) ∧ 0 ≤ s ∧ s < 2 ^ n.toNat)
def bitB (s i : Int) : Bool := bits .and .i64 (s / 2 ^ i.toNat) 1 == 1
def inSetB (s i : Int) : Bool := inB i 0 11 && inB s 0 4095 && bitB s i
theorem take_snoc (l : List Int) (k : Nat) (h : k < l.length) : l.take (k + 1) = l.take k ++ [l.getD k 0] := by
  rw [List.take_succ_eq_append_getElem h, List.getD_eq_getElem?_getD, List.getElem?_eq_getElem h]; rfl
def Keep (w w' : World) : Prop := Below w.heap.size w w'
theorem Keep.refl (w : World) : Keep w w := Below.refl _ _
theorem Keep.size {w w' : World} (h : Keep w w') : w.heap.size ≤ w'.heap.size := Below.size h
theorem Keep.trans {a b c : World} (h : Keep a b) (k : Keep b c) : Keep a c := Below.trans h (Below.mono k h.size)
theorem Keep.drew {a w : World} (h : Keep a w) : Keep a w.drew := Below.drew h
theorem Keep.drewN {a w : World} (h : Keep a w) (n : Nat) : Keep a (w.drewN n) := below_drewN h n
theorem Keep.alloc {a w : World} (h : Keep a w) (o : Obj) : Keep a (w.alloc o) := Below.alloc h h.size o
theorem Keep.grown {a w w' : World} {row : Option Nat} (h : Keep a w) (hg : w.grownBy w' row) (hr : ∀ k, row = some k → a.heap.size ≤ k) : Keep a w' := Below.grown h hg h.size hr
theorem Keep.grownBy {w w' : World} (h : Keep w w') : w.grownBy w' none := ⟨Below.os h, Below.tape h, Below.output h, Below.size h, fun k hk _ => Below.block h k hk⟩
theorem Keep.cell {w w' : World} (h : Keep w w') {b o : Nat} (hb : b < w.heap.size) : w'.cell? ⟨b, o, none⟩ = w.cell? ⟨b, o, none⟩ := Below.cell h hb
def Rd (w : World) (v : Value) (zs : List Int) : Prop :=
  ∃ (a : Option Addr) (cap : Nat), v = .slice a zs.length cap ∧
    (zs = [] ∨ ∃ b off, a = some ⟨b, off, none⟩ ∧ b < w.heap.size ∧ ∀ i, i < zs.length → w.cell? ⟨b, off + i, none⟩ = some (.int .i64 (zs.getD i 0)))
theorem Rd.keep {w w' : World} {v : Value} {zs : List Int} (h : Rd w v zs) (k : Keep w w') : Rd w' v zs := by
  obtain ⟨a, cap, hv, h⟩ := h
  refine ⟨a, cap, hv, ?_⟩
  rcases h with h | ⟨b, off, ha, hb, hc⟩
  · exact .inl h
  · exact .inr ⟨b, off, ha, Nat.lt_of_lt_of_le hb k.size, fun i hi => (k.cell hb).trans (hc i hi)⟩
def Own (w : World) (base : Nat) (v : Value) (zs : List Int) : Prop := w.ownsRow base 2 1 v zs.length (zs.map (Value.int .i64))
theorem Own.kept {w w' : World} {base : Nat} {v : Value} {zs : List Int} {row : Option Nat} (h : Own w base v zs) (hg : w.grownBy w' row) (hne : v.ownBlock = none ∨ v.ownBlock ≠ row) : Own w' base v zs :=
  World.ownsRow.kept h hg hne
theorem Own.keep {w w' : World} {base : Nat} {v : Value} {zs : List Int} (h : Own w base v zs) (k : Keep w w') : Own w' base v zs :=
  Own.kept h k.grownBy (by cases v.ownBlock <;> simp)
theorem Own.rd {w : World} {base : Nat} {v : Value} {zs : List Int} (h : Own w base v zs) : Rd w v zs := by
  have hlt := World.ownsRow.lt h
  rcases h.2 with ⟨rfl, hn⟩ | ⟨g, cap, cur, rfl, hb, hg, rest⟩
  · have : zs = [] := List.eq_nil_of_length_eq_zero hn
    subst this
    exact ⟨none, 0, rfl, .inl rfl⟩
  · refine ⟨some ⟨g, 0, none⟩, cap, rfl, .inr ⟨g, 0, rfl, (hlt g rfl).2, fun i hi => ?_⟩⟩
    have hc := World.ownsRow.cellAt h i (by simpa using hi)
    rw [Nat.zero_add, hc, List.getElem?_map, List.getElem?_eq_getElem hi, List.getD_eq_getElem?_getD, List.getElem?_eq_getElem hi]
    rfl
theorem Own.ge {w : World} {base : Nat} {v : Value} {zs : List Int} (h : Own w base v zs) : ∀ k, v.ownBlock = some k → base ≤ k := fun k hk => (World.ownsRow.lt h k hk).1
theorem Own.apart {w w' : World} {base : Nat} {v v' : Value} {zs zs' : List Int} (h : Own w base v zs) (h' : Own w' w.heap.size v' zs') : v.ownBlock = none ∨ v.ownBlock ≠ v'.ownBlock := by
  cases hv : v.ownBlock with
  | none => exact .inl rfl
  | some k =>
    refine .inr fun e => ?_
    have h1 := (World.ownsRow.lt h k hv).2
    have h2 := h'.ge k e.symm
    omega
theorem rd_of_row {w : World} {a : Option Addr} {len cap : Nat} {ys : List Int}
    (h : (a = none ∧ len = 0 ∧ cap = 0 ∧ ys = []) ∨ ∃ x, a = some x ∧ len ≤ cap ∧ cap ≤ maxLen ∧ ys.length = cap ∧ (∀ i, i < ys.length → w.cell? (x.add i) = some (.int .i64 (ys.getD i 0))) ∧ ∀ n ∈ ys, (Lit.int .i64 n).wf = true) :
    ∃ zs : List Int, zs.length = len ∧ Rd w (.slice a len cap) zs := by
  rcases h with ⟨rfl, rfl, rfl, rfl⟩ | ⟨x, rfl, hl, hm, hy, hc, _⟩
  · exact ⟨[], rfl, none, 0, rfl, .inl rfl⟩
  · have hzl : (ys.take len).length = len := by rw [List.length_take]; omega
    refine ⟨ys.take len, hzl, some x, cap, by rw [hzl], ?_⟩
    by_cases h0 : len = 0
    · left; subst h0; simp
    · right
      obtain ⟨b, off, spot⟩ := x
      have hc0 := hc 0 (by omega)
      have hspot : spot = none := by simpa [Addr.add] using World.cell?_spot hc0
      subst hspot
      have hcc : ∀ i, i < (ys.take len).length → w.cell? ⟨b, off + i, none⟩ = some (.int .i64 ((ys.take len).getD i 0)) := by
        intro i hi
        have h1 := hc i (by omega)
        have e1 : (⟨b, off, none⟩ : Addr).add i = ⟨b, off + i, none⟩ := by unfold Addr.add; split <;> simp_all
        rw [e1] at h1
        rw [h1, List.getD_eq_getElem?_getD, List.getD_eq_getElem?_getD, List.getElem?_take, if_pos (by omega)]
      refine ⟨b, off, rfl, ?_, hcc⟩
      have h2 := hcc 0 (by omega)
      apply Classical.byContradiction
      intro hnb
      have h3 : w.heap[b]? = none := by simp; omega
      simp [World.cell?, h3] at h2
theorem Try.infoI : (Try.prog.info? 2).map (fun i => (i.zero, i.size, i.bytes)) = some (some (.int .i64 0), 1, 8) := by kernel_rfl
section
section
variable {H : Type} {enc : TypeId × Value → H} {w : World} {base : Nat} {held : Bool}
theorem open_num1 {n : Nat} {v : Value} {y : DataW H × List MemPlace} (h : DataW.trod enc Try.prog w base (fun _ => true) held n 23 [v] = some y) : ∃ f : List Int, Rd w v f ∧ f.length ≤ maxLen := by
  obtain ⟨d, p⟩ := y
  rcases open_ints Try.underlying23 Try.underlying2 (by kernel_rfl) h with ⟨hcs, _⟩ | ⟨x, l, c, zs, hcs, _, hl, hm, hz, _, hcell, hwz⟩
  · simp at hcs
    subst hcs
    exact ⟨[], ⟨none, 0, rfl, .inl rfl⟩, by simp⟩
  · simp at hcs
    subst hcs
    obtain ⟨f, hfl, hr⟩ := rd_of_row (w := w) (a := some x) (len := l) (cap := c) (ys := zs) (.inr ⟨x, rfl, hl, hm, by simpa using hz, hcell, hwz⟩)
    exact ⟨f, hr, by omega⟩
end
end
theorem range_getD {α : Type} (f : Nat → α) (n i : Nat) (z : α) (h : i < n) : ((List.range n).map f).getD i z = f i := by
  rw [List.getD_eq_getElem?_getD, List.getElem?_map, List.getElem?_range h]
  rfl
theorem plain_add {b o i : Nat} : (⟨b, o, none⟩ : Addr).add i = ⟨b, o + i, none⟩ := by unfold Addr.add; split <;> simp_all
theorem block_lt {w : World} {b o : Nat} {v : Value} (h : w.cell? ⟨b, o, none⟩ = some v) : b < w.heap.size := by
  apply Classical.byContradiction
  intro hn
  have h3 : w.heap[b]? = none := by simp; omega
  simp [World.cell?, h3] at h
theorem heap_size (w : World) (A : Obj) : (w.alloc A).heap.size = w.heap.size + 1 := Array.size_push _
def RdL (w : World) (v : Value) (zss : List (List Int)) : Prop :=
  ∃ (a : Option Addr) (cap : Nat), v = .slice a zss.length cap ∧
    (zss = [] ∨ ∃ b off, a = some ⟨b, off, none⟩ ∧ b < w.heap.size ∧ ∀ i, i < zss.length → ∃ vi, w.cell? ⟨b, off + i, none⟩ = some vi ∧ Rd w vi (zss.getD i []))
theorem RdL.keep {w w' : World} {v : Value} {zss : List (List Int)} (h : RdL w v zss) (k : Keep w w') : RdL w' v zss := by
  obtain ⟨a, cap, hv, h⟩ := h
  refine ⟨a, cap, hv, ?_⟩
  rcases h with h | ⟨b, off, ha, hb, hc⟩
  · exact .inl h
  · refine .inr ⟨b, off, ha, Nat.lt_of_lt_of_le hb k.size, fun i hi => ?_⟩
    obtain ⟨vi, h1, h2⟩ := hc i hi
    exact ⟨vi, (k.cell hb).trans h1, h2.keep k⟩
def capZ : Value → Nat
  | .slice _ _ c => c
  | _ => 0
structure Beside (w : World) (x u : Value) (zs : List Int) : Prop where
  rd : Rd w u zs
  ne : u.ownBlock = none ∨ u.ownBlock ≠ x.ownBlock
  lt : ∀ k, u.ownBlock = some k → k < w.heap.size
  cap : zs.length ≤ capZ u
theorem Beside.keep {w w' : World} {x u : Value} {zs : List Int} (h : Beside w x u zs) (k : Keep w w') : Beside w' x u zs :=
  ⟨h.rd.keep k, h.ne, fun j hj => Nat.lt_of_lt_of_le (h.lt j hj) k.size, h.cap⟩
structure AppL (w : World) (base : Nat) (x : Value) (vs : List Value) (zss : List (List Int)) : Prop where
  row : w.ownsRow base 23 1 x zss.length vs
  each : ∀ i u, vs[i]? = some u → Beside w x u (zss.getD i [])
theorem AppL.keep {w w' : World} {base : Nat} {x : Value} {vs : List Value} {zss : List (List Int)} (h : AppL w base x vs zss) (k : Keep w w') : AppL w' base x vs zss :=
  ⟨World.ownsRow.kept h.row k.grownBy (by cases x.ownBlock <;> simp), fun i u hu => (h.each i u hu).keep k⟩
theorem AppL.lt {w : World} {base : Nat} {x : Value} {vs : List Value} {zss : List (List Int)} (h : AppL w base x vs zss) : ∀ k, x.ownBlock = some k → base ≤ k ∧ k < w.heap.size := World.ownsRow.lt h.row
theorem AppL.rd {w : World} {base : Nat} {x : Value} {vs : List Value} {zss : List (List Int)} (h : AppL w base x vs zss) : RdL w x zss := by
  have hl := h.row.1
  have hlt := h.lt
  have h2 := h.row
  rcases h.row.2 with ⟨rfl, hz⟩ | ⟨g, cap, cur, rfl, hb, hg, _⟩
  · exact ⟨none, 0, by rw [hz], .inl (List.eq_nil_of_length_eq_zero hz)⟩
  · refine ⟨_, _, rfl, .inr ⟨g, 0, rfl, (hlt g rfl).2, fun i hi => ?_⟩⟩
    have hi' : i < vs.length := by omega
    refine ⟨vs[i], ?_, (h.each i _ (List.getElem?_eq_getElem hi')).rd⟩
    rw [Nat.zero_add, World.ownsRow.cellAt h2 i (by omega), List.getElem?_eq_getElem hi']
def RdLC (w : World) (v : Value) (zss : List (List Int)) : Prop :=
  ∃ (a : Option Addr) (cap : Nat), v = .slice a zss.length cap ∧
    (zss = [] ∨ ∃ b off, a = some ⟨b, off, none⟩ ∧ b < w.heap.size ∧ ∀ i, i < zss.length → ∃ vi, w.cell? ⟨b, off + i, none⟩ = some vi ∧ Rd w vi (zss.getD i []) ∧ (zss.getD i []).length ≤ capZ vi)
theorem RdLC.rd {w : World} {v : Value} {zss : List (List Int)} (h : RdLC w v zss) : RdL w v zss := by
  obtain ⟨a, cap, hv, h⟩ := h
  refine ⟨a, cap, hv, ?_⟩
  rcases h with h | ⟨b, off, ha, hb, hc⟩
  · exact .inl h
  · refine .inr ⟨b, off, ha, hb, fun i hi => ?_⟩
    obtain ⟨vi, h1, h2, _⟩ := hc i hi
    exact ⟨vi, h1, h2⟩
section
section
variable {H : Type} {enc : TypeId × Value → H} {w : World} {base : Nat} {held : Bool}
theorem open_numss {fuel : Nat} {v : Value} {x : DataW H × List MemPlace} (h : DataW.trod enc Try.prog w base (fun _ => true) held fuel 22 [v] = some x) : ∃ zss, RdL w v zss ∧ zss.length ≤ maxLen ∧ ∀ i, i < zss.length → (zss.getD i []).length ≤ maxLen := by
  rcases Deep.open_slice1 Try.underlying22 (by kernel_rfl) h with ⟨hcs, _⟩ | ⟨a, len, cap, m, n, V, D, Pl, hcs, hb, hl, hm, hmm, _, hx⟩
  · simp at hcs
    subst hcs
    exact ⟨[], ⟨none, 0, rfl, .inl rfl⟩, by simp, by simp⟩
  · simp at hcs
    subst hcs
    have hlm : len ≤ m := by rw [hmm]; split <;> omega
    have each : ∀ i, i < len → ∃ ds : List Int, w.cell? (a.add i) = some (V i) ∧ Rd w (V i) ds ∧ ds.length ≤ maxLen := by
      intro i hi
      obtain ⟨h1, h2⟩ := hx i (by omega)
      obtain ⟨ds, h3, h4⟩ := open_num1 h2
      exact ⟨ds, h1, h3, h4⟩
    obtain ⟨f, hf⟩ := Deep.choose_lt each
    refine ⟨(List.range len).map f, ⟨some a, cap, by simp, ?_⟩, by simp; omega, fun i hi => by rw [range_getD f len i [] (by simpa using hi)]; exact (hf i (by simpa using hi)).2.2⟩
    by_cases h0 : len = 0
    · left; subst h0; rfl
    · right
      obtain ⟨b, off, spot⟩ := a
      have hc0 := (hf 0 (by omega)).1
      have hspot : spot = none := by simpa [Addr.add] using World.cell?_spot hc0
      subst hspot
      have hbl : b < w.heap.size := by
        rw [plain_add] at hc0
        exact block_lt hc0
      refine ⟨b, off, rfl, hbl, fun i hi => ?_⟩
      have hi' : i < len := by simpa using hi
      rw [range_getD f len i [] hi']
      obtain ⟨q0, q1, _⟩ := hf i hi'
      rw [plain_add] at q0
      exact ⟨V i, q0, q1⟩
theorem open_lists {r : Reach} {b0 : Nat} {v : Value} {d : DataW H} {p : List MemPlace} (hv : Value.okWide Try.prog w r b0 22 v) (h : DataW.Trod enc Try.prog w base (fun _ => true) held 22 v d p) : ∃ zss, RdL w v zss ∧ zss.length ≤ maxLen ∧ ∀ i, i < zss.length → (zss.getD i []).length ≤ maxLen := by
  obtain ⟨a0, len0, cap0, rfl⟩ := okWide_slice Try.underlying22 hv
  obtain ⟨fuel, hf⟩ := h
  exact open_numss hf
end
end
section
section
variable {H : Type} {enc : TypeId × Value → H} {w : World} {base : Nat} {held : Bool}
theorem open_nums {r : Reach} {b0 : Nat} {v : Value} {d : DataW H} {p : List MemPlace} (hv : Value.okWide Try.prog w r b0 23 v) (h : DataW.Trod enc Try.prog w base (fun _ => true) held 23 v d p) : ∃ f : List Int, Rd w v f ∧ f.length ≤ maxLen := by
  obtain ⟨a0, len0, cap0, rfl⟩ := okWide_slice Try.underlying23 hv
  obtain ⟨fuel, hf⟩ := h
  rcases open_ints Try.underlying23 Try.underlying2 (by kernel_rfl) hf with ⟨hcs, _⟩ | ⟨x, l, c, zs, hcs, _, hl, hm, hz, _, hcell, hwz⟩
  · simp [Value.cells] at hcs
    obtain ⟨rfl, rfl, rfl⟩ := hcs
    exact ⟨[], ⟨none, 0, rfl, .inl rfl⟩, by simp⟩
  · simp [Value.cells] at hcs
    obtain ⟨rfl, rfl, rfl⟩ := hcs
    obtain ⟨f, hfl, hr⟩ := rd_of_row (w := w) (a := some x) (len := len0) (cap := cap0) (ys := zs) (.inr ⟨x, rfl, hl, hm, by simpa using hz, hcell, hwz⟩)
    exact ⟨f, hr, by omega⟩
end
end
def inLL (zss : List (List Int)) (x : List Int) : Bool := decide (x ∈ zss)
theorem inLL_hit {zss : List (List Int)} {x : List Int} {k : Nat} (hk : k < zss.length) (e : zss.getD k [] = x) : inLL zss x = true := by
  unfold inLL
  rw [decide_eq_true_eq, ← e, List.getD_eq_getElem?_getD, List.getElem?_eq_getElem hk]
  exact List.getElem_mem hk
theorem inLL_none {zss : List (List Int)} {x : List Int} (h : ∀ q, q < zss.length → zss.getD q [] ≠ x) : inLL zss x = false := by
  unfold inLL
  rw [decide_eq_false_iff_not]
  intro hm
  obtain ⟨i, hi, e⟩ := List.getElem_of_mem hm
  refine h i hi ?_
  rw [List.getD_eq_getElem?_getD, List.getElem?_eq_getElem hi]
  exact e
def RowAt (w : World) (g : Nat) (zs : List Int) : Prop :=
  ∃ (cur : Array Value) (e : TypeId), w.heap[g]? = some (.cells cur e (0, 0)) ∧ cur.toList.take zs.length = zs.map (Value.int .i64)
theorem RowAt.lt {w : World} {g : Nat} {zs : List Int} (h : RowAt w g zs) : g < w.heap.size := by
  obtain ⟨cur, e, hh, _⟩ := h
  exact (Array.getElem?_eq_some_iff.1 hh).1
theorem RowAt.cell {w : World} {g : Nat} {zs : List Int} (h : RowAt w g zs) {j : Nat} (hj : j < zs.length) : w.cell? ⟨g, j, none⟩ = some (.int .i64 (zs.getD j 0)) := by
  obtain ⟨cur, e, hh, ht⟩ := h
  rw [cell_of_row w g j cur e (0, 0) hh]
  have h1 : (cur.toList.take zs.length)[j]? = (zs.map (Value.int .i64))[j]? := by rw [ht]
  rw [List.getElem?_take, if_pos hj, List.getElem?_map, List.getElem?_eq_getElem hj] at h1
  rw [List.getD_eq_getElem?_getD, List.getElem?_eq_getElem hj]
  simpa using h1
theorem RowAt.kept {w w' : World} {g : Nat} {zs : List Int} {row : Option Nat} (h : RowAt w g zs) (hg : w.grownBy w' row) (hne : row ≠ some g) : RowAt w' g zs := by
  have hlt := h.lt
  obtain ⟨cur, e, hh, ht⟩ := h
  exact ⟨cur, e, by rw [hg.block g hlt (fun e => hne e.symm)]; exact hh, ht⟩
theorem RowAt.keep {w w' : World} {g : Nat} {zs : List Int} (h : RowAt w g zs) (k : Keep w w') : RowAt w' g zs := h.kept k.grownBy (by simp)
theorem grown_set (w : World) (g j : Nat) (v : Value) : w.grownBy (w.setCell ⟨g, j, none⟩ v) (some g) :=
  ⟨rfl, rfl, rfl, by simp, fun k _ hk => heap_setCell_other w ⟨g, j, none⟩ k v (fun e => hk (by simp [e]))⟩
theorem grown_draw (w : World) (n : Nat) (row : Option Nat) : w.grownBy (w.drewN n) row := ⟨rfl, rfl, rfl, Nat.le_refl _, fun _ _ _ => rfl⟩
theorem grown_drew (w : World) (row : Option Nat) : w.grownBy w.drew row := ⟨rfl, rfl, rfl, Nat.le_refl _, fun _ _ _ => rfl⟩
theorem RowAt.drewN {w : World} {g : Nat} {zs : List Int} (h : RowAt w g zs) (n : Nat) : RowAt (w.drewN n) g zs := h.kept (row := none) (grown_draw w n none) (by simp)
theorem RowAt.drew {w : World} {g : Nat} {zs : List Int} (h : RowAt w g zs) : RowAt w.drew g zs := h.kept (row := none) (grown_drew w none) (by simp)
theorem take_set_val (l : List Value) (zs : List Int) (j : Nat) (x : Int) (h : l.take zs.length = zs.map (Value.int .i64)) :
    (l.set j (.int .i64 x)).take (zs.set j x).length = (zs.set j x).map (Value.int .i64) := by
  rw [List.length_set, List.take_set, h, List.map_set]
theorem RowAt.set {w : World} {g : Nat} {zs : List Int} (h : RowAt w g zs) (j : Nat) (x : Int) : RowAt (w.setCell ⟨g, j, none⟩ (.int .i64 x)) g (zs.set j x) := by
  obtain ⟨cur, e, hh, ht⟩ := h
  refine ⟨cur.setIfInBounds j (.int .i64 x), e, ?_, ?_⟩
  · rw [heap_setCell_same w g j _ _ _ hh]
  · rw [Array.toList_setIfInBounds]
    exact take_set_val _ zs j x ht
def Row (w : World) (base : Nat) (v : Value) (zs : List Int) : Prop :=
  (v = .slice none 0 0 ∧ zs = []) ∨ ∃ g cap, v = .slice (some ⟨g, 0, none⟩) zs.length cap ∧ base ≤ g ∧ RowAt w g zs
theorem Own.row {w : World} {base : Nat} {v : Value} {zs : List Int} (h : Own w base v zs) : Row w base v zs := by
  rcases h.2 with ⟨rfl, hn⟩ | ⟨g, cap, cur, rfl, hb, hg, _, _, _, ht⟩
  · exact .inl ⟨rfl, List.eq_nil_of_length_eq_zero hn⟩
  · exact .inr ⟨g, cap, rfl, hb, cur, _, hg, by rw [Nat.mul_one] at ht; exact ht⟩
theorem Row.lt {w : World} {base : Nat} {v : Value} {zs : List Int} (h : Row w base v zs) : ∀ k, v.ownBlock = some k → base ≤ k ∧ k < w.heap.size := by
  intro k hk
  rcases h with ⟨rfl, _⟩ | ⟨g, cap, rfl, hb, hr⟩
  · simp [Value.ownBlock] at hk
  · simp [Value.ownBlock] at hk; subst hk; exact ⟨hb, hr.lt⟩
theorem Row.ge {w : World} {base : Nat} {v : Value} {zs : List Int} (h : Row w base v zs) : ∀ k, v.ownBlock = some k → base ≤ k := fun k hk => (h.lt k hk).1
theorem Row.kept {w w' : World} {base : Nat} {v : Value} {zs : List Int} {row : Option Nat} (h : Row w base v zs) (hg : w.grownBy w' row) (hne : v.ownBlock = none ∨ v.ownBlock ≠ row) : Row w' base v zs := by
  rcases h with h | ⟨g, cap, rfl, hb, hr⟩
  · exact .inl h
  · refine .inr ⟨g, cap, rfl, hb, hr.kept hg ?_⟩
    simp [Value.ownBlock] at hne
    exact fun e => hne e.symm
theorem Row.keep {w w' : World} {base : Nat} {v : Value} {zs : List Int} (h : Row w base v zs) (k : Keep w w') : Row w' base v zs :=
  h.kept k.grownBy (by cases v.ownBlock <;> simp)
theorem Row.rd {w : World} {base : Nat} {v : Value} {zs : List Int} (h : Row w base v zs) : Rd w v zs := by
  rcases h with ⟨rfl, rfl⟩ | ⟨g, cap, rfl, hb, hr⟩
  · exact ⟨none, 0, rfl, .inl rfl⟩
  · exact ⟨some ⟨g, 0, none⟩, cap, rfl, .inr ⟨g, 0, rfl, hr.lt, fun i hi => by rw [Nat.zero_add]; exact hr.cell hi⟩⟩
theorem Row.apart {w w' : World} {base : Nat} {v v' : Value} {zs zs' : List Int} (h : Row w base v zs) (h' : Row w' w.heap.size v' zs') : v.ownBlock = none ∨ v.ownBlock ≠ v'.ownBlock := by
  cases hv : v.ownBlock with
  | none => exact .inl rfl
  | some k =>
    refine .inr fun e => ?_
    have h1 := (h.lt k hv).2
    have h2 := h'.ge k e.symm
    omega
section
structure Rw where
  e : TypeId
  size : Nat
  v : Value
  n : Nat
  xs : List Value
def Rw.own (w : World) (m : Nat) (r : Rw) : Prop := w.ownsRow m r.e r.size r.v r.n r.xs
def upd {ι : Type} [DecidableEq ι] (R : ι → Rw) (i : ι) (r : Rw) : ι → Rw := fun j => if j = i then r else R j
theorem upd_same {ι : Type} [DecidableEq ι] (R : ι → Rw) (i : ι) (r : Rw) : upd R i r i = r := if_pos rfl
theorem upd_other {ι : Type} [DecidableEq ι] (R : ι → Rw) {i j : ι} (r : Rw) (h : j ≠ i) : upd R i r j = R j := if_neg h
structure Fam {ι : Type} (w : World) (m : Nat) (live : ι → Prop) (R : ι → Rw) : Prop where
  own : ∀ i, live i → (R i).own w m
  apart : ∀ i j, live i → live j → i ≠ j → (R i).v.ownBlock = none ∨ (R i).v.ownBlock ≠ (R j).v.ownBlock
section
variable {ι : Type} {w w' : World} {m : Nat} {live : ι → Prop} {R : ι → Rw}
theorem Fam.lt (h : Fam w m live R) {i : ι} (hi : live i) : ∀ k, (R i).v.ownBlock = some k → m ≤ k ∧ k < w.heap.size := World.ownsRow.lt (h.own i hi)
theorem Fam.keep (h : Fam w m live R) (k : Keep w w') : Fam w' m live R :=
  ⟨fun i hi => World.ownsRow.kept (h.own i hi) k.grownBy (by cases (R i).v.ownBlock <;> simp), h.apart⟩
theorem Fam.congr (h : Fam w m live R) {live' : ι → Prop} {R' : ι → Rw} (hl : ∀ i, live' i → live i) (hr : ∀ i, live' i → R' i = R i) : Fam w m live' R' :=
  ⟨fun i hi => by rw [hr i hi]; exact h.own i (hl i hi), fun i j hi hj hij => by rw [hr i hi, hr j hj]; exact h.apart i j (hl i hi) (hl j hj) hij⟩
variable [DecidableEq ι]
theorem Fam.set (h : Fam w m live R) {i : ι} (hi : live i) {r : Rw} (hg : w.grownBy w' (R i).v.ownBlock) (hb : r.v.ownBlock = (R i).v.ownBlock ∨ r.v.ownBlock = some w.heap.size ∨ r.v.ownBlock = none) (ho : r.own w' m) : Fam w' m live (upd R i r) := by
  refine ⟨fun j hj => ?_, fun j k hj hk hjk => ?_⟩
  · by_cases e : j = i
    · subst e; rw [upd_same]; exact ho
    · rw [upd_other R r e]
      exact World.ownsRow.kept (h.own j hj) hg (h.apart j i hj hi e)
  · have new : ∀ j, live j → j ≠ i → (R j).v.ownBlock = none ∨ (R j).v.ownBlock ≠ some w.heap.size := fun j hj _ => by
      cases e : (R j).v.ownBlock with
      | none => exact .inl rfl
      | some b => exact .inr (fun e' => by have := (h.lt hj b e).2; have := Option.some.inj e'; omega)
    by_cases ej : j = i
    · subst ej
      have ek : k ≠ j := fun e => hjk e.symm
      rw [upd_same, upd_other R r ek]
      rcases hb with hb | hb | hb
      · rw [hb]; exact h.apart j k hj hk hjk
      · rw [hb]
        right
        intro e
        rcases new k hk ek with h1 | h1
        · rw [h1] at e; cases e
        · exact h1 e.symm
      · exact .inl hb
    · rw [upd_other R r ej]
      by_cases ek : k = i
      · subst ek
        rw [upd_same]
        rcases hb with hb | hb | hb
        · rw [hb]; exact h.apart j k hj hk hjk
        · rw [hb]; exact new j hj ej
        · rw [hb]
          cases (R j).v.ownBlock with
          | none => exact .inl rfl
          | some b => exact .inr (by simp)
      · rw [upd_other R r ek]
        exact h.apart j k hj hk hjk
theorem Fam.add (h : Fam w m live R) {i : ι} (hi : ¬ live i) {r : Rw} {s : Nat} (hs : s = w.heap.size) (k : Keep w w') (ho : r.own w' m) (hn : ∀ b, r.v.ownBlock = some b → s ≤ b) : Fam w' m (fun j => live j ∨ j = i) (upd R i r) := by
  have hk := h.keep k
  have new : ∀ j, live j → (R j).v.ownBlock = none ∨ (R j).v.ownBlock ≠ r.v.ownBlock := fun j hj => by
    cases e : (R j).v.ownBlock with
    | none => exact .inl rfl
    | some b => exact .inr (fun e' => by have := (h.lt hj b e).2; have := hn b e'.symm; omega)
  have ne : ∀ j, live j → j ≠ i := fun j hj e => hi (e ▸ hj)
  refine ⟨fun j hj => ?_, fun j l hj hl hjl => ?_⟩
  · rcases hj with hj | rfl
    · rw [upd_other R r (ne j hj)]; exact hk.own j hj
    · rw [upd_same]; exact ho
  · rcases hj with hj | rfl
    · rw [upd_other R r (ne j hj)]
      rcases hl with hl | rfl
      · rw [upd_other R r (ne l hl)]; exact h.apart j l hj hl hjl
      · rw [upd_same]; exact new j hj
    · rw [upd_same]
      rcases hl with hl | rfl
      · rw [upd_other R r (ne l hl)]
        rcases new l hl with h1 | h1
        · rw [h1]
          cases r.v.ownBlock with
          | none => exact .inl rfl
          | some b => exact .inr (by simp)
        · exact .inr (fun e => h1 e.symm)
      · exact absurd rfl hjl
end
theorem Rw.cell {w : World} {m : Nat} {r : Rw} (h : r.own w m) {g cap k : Nat} (hv : r.v = .slice (some ⟨g, 0, none⟩) r.n cap) (hk : k < r.n * r.size) : w.cell? ⟨g, k, none⟩ = r.xs[k]? := by
  unfold Rw.own at h
  rw [hv] at h
  exact World.ownsRow.cellAt h k hk
theorem Rw.put {w : World} {m : Nat} {r : Rw} (h : r.own w m) {g cap k : Nat} (hv : r.v = .slice (some ⟨g, 0, none⟩) r.n cap) (x : Value) : Rw.own (w.setCell ⟨g, k, none⟩ x) m { r with xs := r.xs.set k x } ∧ w.grownBy (w.setCell ⟨g, k, none⟩ x) r.v.ownBlock ∧ w.frozen? ⟨g, k, none⟩ = false := by
  unfold Rw.own at h ⊢
  rcases h.2 with ⟨h1, _⟩ | ⟨g', cap', cur, h1, hb, hg, hn, hm, hs, ht⟩
  · rw [hv] at h1; simp at h1
  · rw [hv] at h1
    simp only [Value.slice.injEq, Option.some.injEq, Addr.mk.injEq, and_true, true_and] at h1
    obtain ⟨rfl, rfl⟩ := h1
    refine ⟨⟨by simpa using h.1, .inr ⟨g, cap, cur.setIfInBounds k x, hv, hb, heap_setCell_same w g k _ _ _ hg, hn, hm, by simpa using hs, ?_⟩⟩, ?_, frozen_of_row w g k _ _ hg⟩
    · rw [Array.toList_setIfInBounds, List.take_set, ht]
    · rw [hv]
      exact grown_set w g k x
end
section
abbrev nilS : Value := .slice none 0 0
abbrev ivR (zs : List Int) (v : Value) : Rw := ⟨2, 1, v, zs.length, zs.map (Value.int .i64)⟩
abbrev hdR (t : TypeId) (vs : List Value) (v : Value) : Rw := ⟨t, 1, v, vs.length, vs⟩
section
variable {w : World} {m : Nat}
theorem own_head {t : TypeId} {u : Value} {vs : List Value} (o : (hdR t vs u).own w m) : ∃ a cap, u = .slice a vs.length cap ∧ (vs = [] ∨ ∃ g, a = some ⟨g, 0, none⟩ ∧ g < w.heap.size ∧ ∀ i, i < vs.length → w.cell? ⟨g, i, none⟩ = some (vs.getD i nilS)) := by
  have hlt := World.ownsRow.lt o
  have o' := o
  rcases o.2 with ⟨h1, h2⟩ | ⟨g, cap, cur, h1, _⟩
  · have : vs = [] := List.eq_nil_of_length_eq_zero h2
    subst this
    exact ⟨none, 0, h1, .inl rfl⟩
  · refine ⟨some ⟨g, 0, none⟩, cap, h1, .inr ⟨g, rfl, (hlt g (by show u.ownBlock = _; rw [show u = _ from h1]; rfl)).2, fun i hi => ?_⟩⟩
    have o2 : w.ownsRow m t 1 (.slice (some ⟨g, 0, none⟩) vs.length cap) vs.length vs := by rw [← show u = _ from h1]; exact o'
    rw [World.ownsRow.cellAt o2 i (by omega), List.getD_eq_getElem?_getD, List.getElem?_eq_getElem hi]
    rfl
end
theorem getD_setV {α : Type} (l : List α) (k : Nat) (x z : α) (hk : k < l.length) (j : Nat) : (l.set k x).getD j z = if j = k then x else l.getD j z := by
  rw [List.getD_eq_getElem?_getD, List.getD_eq_getElem?_getD, List.getElem?_set]
  by_cases e : k = j
  · subst e; simp [hk]
  · rw [if_neg e, if_neg (fun h => e h.symm)]
end
section
section
variable {α : Type} (t : TypeId) (rowOf : List α → Value → Rw)
def llR (v : Value) (hs : List Value) (xss : List (List α)) : Option Nat → Rw
  | none => hdR t hs v
  | some i => rowOf (xss.getD i []) (hs.getD i nilS)
def llLive (j : Nat) : Option Nat → Prop
  | none => True
  | some i => i < j
structure LLP (w : World) (m : Nat) (v : Value) (hs : List Value) (xss : List (List α)) (j : Nat) : Prop where
  fam : Fam w m (llLive j) (llR t rowOf v hs xss)
  len : hs.length = xss.length
  hv : ∀ xs u, (rowOf xs u).v = u
variable {t rowOf} {w w2 : World} {m : Nat} {v u : Value} {hs : List Value} {xss : List (List α)} {j : Nat}
theorem LLP.keep (h : LLP t rowOf w m v hs xss j) (k : Keep w w2) : LLP t rowOf w2 m v hs xss j := ⟨h.fam.keep k, h.len, h.hv⟩
theorem LLP.step (h : LLP t rowOf w m v hs xss j) (hj : j < xss.length) (k : Keep w w2) (ho : (rowOf (xss.getD j []) u).own w2 m) (hn : ∀ b, u.ownBlock = some b → w.heap.size ≤ b) {g cap : Nat} (hv : v = .slice (some ⟨g, 0, none⟩) hs.length cap) :
    LLP t rowOf (w2.setCell ⟨g, j, none⟩ u) m v (hs.set j u) xss (j + 1) ∧ w2.cell? ⟨g, j, none⟩ = some (hs.getD j nilS) ∧ w2.frozen? ⟨g, j, none⟩ = false ∧ w2.grownBy (w2.setCell ⟨g, j, none⟩ u) (some g) ∧ m ≤ g := by
  have hjl : j < hs.length := by rw [h.len]; exact hj
  have F1 := h.fam.add (i := some j) (fun q => Nat.lt_irrefl _ (show j < j from q)) (r := rowOf (xss.getD j []) u) rfl k ho (fun b hb => hn b (by rw [h.hv] at hb; exact hb))
  have o1 : (hdR t hs v).own w2 m := by have := F1.own none (.inl trivial); rw [upd_other _ _ (by simp)] at this; exact this
  obtain ⟨q1, q2, q3⟩ := Rw.put o1 (g := g) (cap := cap) (k := j) hv u
  have F2 := F1.set (i := none) (.inl trivial) (r := { hdR t hs v with xs := hs.set j u }) (by rw [upd_other _ _ (by simp)]; exact q2) (.inl (by rw [upd_other _ _ (by simp)]; rfl)) q1
  have hb : v.ownBlock = some g := by rw [hv]; rfl
  refine ⟨⟨F2.congr (fun o ho' => ?_) (fun o ho' => ?_), by rw [List.length_set]; exact h.len, h.hv⟩, ?_, q3, by rw [← hb]; exact q2, (h.fam.lt (i := none) trivial g hb).1⟩
  · cases o with
    | none => exact .inl trivial
    | some i =>
      have hi : i < j + 1 := ho'
      by_cases e : i = j
      · exact .inr (by rw [e])
      · exact .inl (show i < j by omega)
  · cases o with
    | none =>
      rw [upd_same]
      show hdR t (hs.set j u) v = _
      simp [hdR]
    | some i =>
      rw [upd_other _ _ (by simp)]
      show rowOf (xss.getD i []) ((hs.set j u).getD i nilS) = _
      rw [getD_setV _ _ _ _ hjl]
      by_cases e : i = j
      · subst e; rw [if_pos rfl, upd_same]
      · rw [if_neg e, upd_other _ _ (by simpa using e)]; rfl
  · have := Rw.cell o1 (g := g) (cap := cap) (k := j) hv (by show j < hs.length * 1; omega)
    rw [this, List.getD_eq_getElem?_getD]
    show hs[j]? = _
    rw [List.getElem?_eq_getElem hjl]
    rfl
structure OwnLL (t : TypeId) (rowOf : List α → Value → Rw) (w : World) (m : Nat) (v : Value) (hs : List Value) (xss : List (List α)) : Prop where
  fam : Fam w m (llLive hs.length) (llR t rowOf v hs xss)
  len : hs.length = xss.length
theorem LLP.all (h : LLP t rowOf w m v hs xss xss.length) : OwnLL t rowOf w m v hs xss := ⟨by rw [h.len]; exact h.fam, h.len⟩
theorem LLP.new (ho : (hdR t (List.replicate xss.length nilS) v).own w m) (hv : ∀ xs u, (rowOf xs u).v = u) : LLP t rowOf w m v (List.replicate xss.length nilS) xss 0 := by
  refine ⟨⟨fun o h => ?_, fun o o' h h' hne => ?_⟩, by simp, hv⟩
  · cases o with
    | none => exact ho
    | some i => exact absurd (show i < 0 from h) (by omega)
  · cases o with
    | none =>
      cases o' with
      | none => exact absurd rfl hne
      | some i => exact absurd (show i < 0 from h') (by omega)
    | some i => exact absurd (show i < 0 from h) (by omega)
end
theorem OwnLL.rdL {w : World} {m : Nat} {v : Value} {hs : List Value} {xss : List (List Int)} (h : OwnLL 23 ivR w m v hs xss) : RdL w v xss := by
  have oi : ∀ i, i < xss.length → (ivR (xss.getD i []) (hs.getD i nilS)).own w m := fun i hi => h.fam.own (some i) (show i < hs.length by rw [h.len]; exact hi)
  obtain ⟨a, c, e, H⟩ := own_head (h.fam.own none trivial)
  refine ⟨a, c, by rw [← h.len]; exact e, ?_⟩
  rcases H with H | ⟨g, rfl, hg, hc⟩
  · exact .inl (List.eq_nil_of_length_eq_zero (by rw [← h.len, H]; rfl))
  · exact .inr ⟨g, 0, rfl, hg, fun i hi => ⟨_, by rw [Nat.zero_add]; exact hc i (by rw [h.len]; exact hi), Own.rd (oi i hi)⟩⟩
end
theorem Try.infoIl : (Try.prog.info? 23).map (fun i => (i.zero, i.size, i.bytes)) = some (some (.slice none 0 0), 1, 24) := by kernel_rfl
theorem own_base {w : World} {m m' : Nat} {e : TypeId} {n : Nat} {v : Value} {k : Nat} {xs : List Value} (o : w.ownsRow m e n v k xs) (hm : m' ≤ m) : w.ownsRow m' e n v k xs := by
  refine ⟨o.1, ?_⟩
  rcases o.2 with q | ⟨g, cap, cur, e, hg, r⟩
  · exact .inl q
  · exact .inr ⟨g, cap, cur, e, Nat.le_trans hm hg, r⟩
def deedB (k p v g : Int) : Bool :=
  decide ((1 ≤ k ∧ k ≤ 4) ∧ (0 ≤ p ∧ p ≤ 2) ∧ (0 ≤ g ∧ g ≤ 9) ∧ (k = 4 → p = 0) ∧ (2 < k → g = 0) ∧ ((k = 2 ∨ k = 3) → 1 ≤ v ∧ v ≤ 9) ∧ (¬ (k = 2 ∨ k = 3) → v = 0))
abbrev Dd := Int × Int × Int × Int
def zD : Dd := (0, 0, 0, 0)
def okD (d : Dd) : Bool := deedB d.1 d.2.1 d.2.2.1 d.2.2.2
def evD (d : Dd) : Int := if d.1 = 1 then 1 else if d.1 = 2 then 1 else if d.1 = 3 then 2 else 0
def evK (ds : List Dd) : Nat → Int
  | 0 => 0
  | k + 1 => evK ds k + evD (ds.getD k zD)
def evW (dss : List (List Dd)) : Nat → Int
  | 0 => 0
  | i + 1 => evW dss i + evK (dss.getD i []) (dss.getD i []).length
def grpK (i : Nat) (own : List Int) (ds : List Dd) : Nat → Option (List Int)
  | 0 => some own
  | k + 1 => match grpK i own ds k with
    | none => none
    | some o =>
      if (ds.getD k zD).2.2.2 = 0 then some o
      else if o.getD (ds.getD k zD).2.2.2.toNat 0 ≠ 0 ∧ (o.getD (ds.getD k zD).2.2.2.toNat 0 ≠ (i : Int) + 1 ∨ k = 0 ∨ (ds.getD (k - 1) zD).2.2.2 ≠ (ds.getD k zD).2.2.2) then none
      else some (o.set (ds.getD k zD).2.2.2.toNat ((i : Int) + 1))
def grpW (dss : List (List Dd)) : Nat → Option (List Int)
  | 0 => some (List.replicate 10 0)
  | i + 1 => match grpW dss i with
    | none => none
    | some o => grpK i o (dss.getD i []) (dss.getD i []).length
def grpB (dss : List (List Dd)) : Bool := (grpW dss dss.length).isSome
def lenW : List (List Dd) → Nat
  | [] => 0
  | d :: r => d.length + lenW r
def okL (ds : List Dd) : Bool := ds.all okD && decide (ds.length ≤ 5)
def workB (dss : List (List Dd)) : Bool :=
  decide (1 ≤ dss.length ∧ dss.length ≤ 3) && dss.all okL && decide (lenW dss ≤ 12) && decide (evW dss dss.length ≤ 6) && grpB dss
theorem all_get {α : Type} {f : α → Bool} {l : List α} (z : α) (h : l.all f = true) (i : Nat) (hi : i < l.length) : f (l.getD i z) = true := by
  rw [List.getD_eq_getElem?_getD, List.getElem?_eq_getElem hi]
  exact List.all_eq_true.1 h _ (List.getElem_mem hi)
abbrev Ev := Int × Int × Bool × Int × Int × Int
def zE : Ev := (0, 0, false, 0, 0, 0)
def evBeg : List Ev := [(-1, -1, false, 0, 0, 0), (-1, -1, false, 1, 0, 1), (-1, -1, false, 2, 0, 2)]
def oneE (i k : Nat) (d : Dd) (c : Int) : List Ev :=
  if d.1 = 4 then [] else if d.1 = 3 then [((i : Int), (k : Int), true, d.2.1, 0, c), ((i : Int), (k : Int), false, d.2.1, d.2.2.1, c)]
  else if d.1 = 2 then [((i : Int), (k : Int), false, d.2.1, d.2.2.1, c)] else [((i : Int), (k : Int), true, d.2.1, 0, c)]
def fstE (g : Int) (at0 : Nat) (f : List Int) : List Int := if 0 < g ∧ f.getD g.toNat 0 = 0 then f.set g.toNat (at0 : Int) else f
def clsE (g : Int) (at0 : Nat) (f : List Int) : Int := if 0 < g then (fstE g at0 f).getD g.toNat 0 else (at0 : Int)
def stepE (i k : Nat) (d : Dd) (s : List Ev × List Int) : List Ev × List Int :=
  if d.1 = 4 then s else (s.1 ++ oneE i k d (clsE d.2.2.2 s.1.length s.2), fstE d.2.2.2 s.1.length s.2)
def clkE (i : Nat) (ds : List Dd) (out : List Ev) : Nat → List Ev × List Int
  | 0 => (out, List.replicate 10 0)
  | k + 1 => stepE i k (ds.getD k zD) (clkE i ds out k)
def evsW (dss : List (List Dd)) : Nat → List Ev
  | 0 => evBeg
  | i + 1 => (clkE i (dss.getD i []) (evsW dss i) (dss.getD i []).length).1
def eventsB (dss : List (List Dd)) : List Ev := if workB dss = true then evsW dss dss.length else []
theorem okD_kindE {d : Dd} (h : okD d = true) : d.1 = 1 ∨ d.1 = 2 ∨ d.1 = 3 ∨ d.1 = 4 := by
  simp [okD, deedB] at h
  omega
theorem at_left {α : Type} {l : List α} {j : Nat} {x : α} (t : List α) (h : l[j]? = some x) : (l ++ t)[j]? = some x := by
  rw [List.getElem?_append_left (List.getElem?_eq_some_iff.1 h).1]; exact h
theorem bitB_nat (a i : Nat) (ha : a < 4096) : bitB (a : Int) (i : Int) = a.testBit i := by
  unfold bitB
  have hd : a / 2 ^ i ≤ a := Nat.div_le_self _ _
  have e : ((a : Int) / 2 ^ (i : Int).toNat) = ((a / 2 ^ i : Nat) : Int) := by simp
  rw [e, show (1 : Int) = ((1 : Nat) : Int) from rfl, i64_and_nat _ _ (by omega) (by omega), Nat.and_one_is_mod, Nat.testBit_eq_decide_div_mod_eq]
  generalize a / 2 ^ i % 2 = r
  rw [Bool.eq_iff_iff, beq_iff_eq, decide_eq_true_eq]
  omega
theorem inSetB_nat (a i : Nat) (ha : a < 4096) (hi : i < 12) : inSetB (a : Int) (i : Int) = a.testBit i := by
  have h1 : inB (i : Int) 0 11 = true := by unfold inB; simp; omega
  have h2 : inB (a : Int) 0 4095 = true := by unfold inB; simp; omega
  simp [inSetB, h1, h2, bitB_nat a i ha]
def webB (zs : List Int) : Bool := zs.all (okB zs.length)
theorem getD_mem {zs : List Int} {i : Nat} (h : i < zs.length) : zs.getD i 0 ∈ zs := by
  rw [List.getD_eq_getElem?_getD, List.getElem?_eq_getElem h]; exact List.getElem_mem h
theorem webB_all {zs : List Int} (h : ∀ i, i < zs.length → okB zs.length (zs.getD i 0) = true) : webB zs = true := by
  unfold webB
  rw [List.all_eq_true]
  intro x hx
  obtain ⟨i, hi, rfl⟩ := List.getElem_of_mem hx
  have := h i hi
  rwa [List.getD_eq_getElem?_getD, List.getElem?_eq_getElem hi] at this
theorem webB_get {zs : List Int} (h : webB zs = true) {i : Nat} (hi : i < zs.length) : okB zs.length (zs.getD i 0) = true := by
  unfold webB at h
  rw [List.all_eq_true] at h
  exact h _ (getD_mem hi)
theorem okB_iff {n s : Int} : okB n s = true ↔ (0 ≤ n ∧ n ≤ 12) ∧ 0 ≤ s ∧ s < 2 ^ n.toNat := by unfold okB; rw [decide_eq_true_eq]
theorem webB_len {zs : List Int} (h : webB zs = true) : zs.length ≤ 12 := by
  by_cases h0 : zs.length = 0
  · omega
  · have := okB_iff.1 (webB_get h (i := 0) (by omega)); omega
theorem okB_range {n s : Int} (h : okB n s = true) : 0 ≤ s ∧ s ≤ 4095 := by
  have h1 := okB_iff.1 h
  have := pow_le12 n.toNat (by omega)
  omega
theorem okB_nat {n : Nat} {s : Int} (h : okB n s = true) : n ≤ 12 ∧ ∃ a : Nat, s = a ∧ a < 2 ^ n ∧ a < 4096 := by
  have h1 := okB_iff.1 h
  have h2 := okB_range h
  obtain ⟨a, rfl⟩ := Int.eq_ofNat_of_zero_le h2.1
  refine ⟨by omega, a, rfl, ?_, by omega⟩
  have := h1.2.2
  simp at this
  exact_mod_cast this
theorem okB_of_nat {n a : Nat} (hn : n ≤ 12) (ha : a < 2 ^ n) : okB n a = true := by
  rw [okB_iff]
  refine ⟨by omega, by omega, ?_⟩
  simp
  exact_mod_cast ha
theorem inSetB_iff {n : Nat} {s : Int} (h : okB n s = true) {j : Nat} (hj : inSetB s j = true) : j < n := by
  obtain ⟨hn, a, rfl, ha, h12⟩ := okB_nat h
  have hj12 : j < 12 := by
    have : inB (j : Int) 0 11 = true := by unfold inSetB at hj; simp at hj; exact hj.1.1
    unfold inB at this; simp at this; omega
  rw [inSetB_nat a j h12 hj12] at hj
  apply Classical.byContradiction
  intro hnj
  have hp : (2 : Nat) ^ n ≤ 2 ^ j := Nat.pow_le_pow_right (by omega) (by omega)
  rw [Nat.testBit_lt_two_pow (by omega)] at hj
  cases hj
theorem ok_zero {n : Nat} (hn : n ≤ 12) : okB n 0 = true := okB_of_nat (a := 0) hn (Nat.two_pow_pos n)
def Web (n : Nat) (zs : List Int) : Prop := n ≤ 12 ∧ zs.length = n ∧ ∀ i, i < n → okB n (zs.getD i 0) = true
theorem web_iff {zs : List Int} : webB zs = true ↔ Web zs.length zs := by
  constructor
  · intro h; exact ⟨webB_len h, rfl, fun i hi => webB_get h hi⟩
  · intro h; exact webB_all h.2.2
theorem Web.b {n : Nat} {zs : List Int} (h : Web n zs) : webB zs = true := by
  obtain ⟨h1, rfl, h2⟩ := h; exact web_iff.2 ⟨h1, rfl, h2⟩
def line (zs : List Int) (i j : Nat) : Bool := inSetB (zs.getD i 0) j
theorem Web.lt {n : Nat} {a : List Int} (ha : Web n a) {i j : Nat} (hi : i < n) (h : line a i j = true) : j < n := inSetB_iff (ha.2.2 i hi) h
theorem getD_set (zs : List Int) (i j : Nat) (x : Int) (hi : i < zs.length) : (zs.set i x).getD j 0 = if i = j then x else zs.getD j 0 := by
  rw [List.getD_eq_getElem?_getD, List.getD_eq_getElem?_getD, List.getElem?_set]
  by_cases h : i = j
  · subst h; simp [hi]
  · simp [h]
theorem Web.set {n : Nat} {a : List Int} (ha : Web n a) {i : Nat} {x : Int} (hx : okB n x = true) : Web n (a.set i x) := by
  obtain ⟨h1, h2, h3⟩ := ha
  refine ⟨h1, by simp [h2], fun j hj => ?_⟩
  by_cases hi : i < a.length
  · rw [getD_set a i j x hi]; split
    · exact hx
    · exact h3 j hj
  · rw [List.set_eq_of_length_le (by omega)]; exact h3 j hj
theorem Web.zero {n : Nat} (hn : n ≤ 12) : Web n (List.replicate n 0) := by
  refine ⟨hn, by simp, fun i hi => ?_⟩
  rw [List.getD_eq_getElem?_getD, List.getElem?_replicate, if_pos hi]
  exact ok_zero hn
abbrev dAt (dss : List (List Dd)) (c k : Nat) : Dd := (dss.getD c []).getD k zD
def offN (dss : List (List Dd)) (c k : Nat) : Nat := (clkE c (dss.getD c []) (evsW dss c) k).1.length
def numD (d : Dd) : Nat := if d.1 = 4 then 0 else if d.1 = 3 then 2 else 1
def clsD (dss : List (List Dd)) (c k : Nat) : Int := clsE (dAt dss c k).2.2.2 (offN dss c k) (clkE c (dss.getD c []) (evsW dss c) k).2
theorem clk_step (dss : List (List Dd)) (c k : Nat) : (clkE c (dss.getD c []) (evsW dss c) (k + 1)).1 = (clkE c (dss.getD c []) (evsW dss c) k).1 ++ oneE c k (dAt dss c k) (clsD dss c k) := by
  rw [clkE, stepE]
  split
  · rename_i h
    have e : oneE c k (dAt dss c k) (clsD dss c k) = [] := by unfold oneE; rw [if_pos h]
    rw [e, List.append_nil]
  · rfl
theorem off_zero (dss : List (List Dd)) (c : Nat) : offN dss c 0 = (evsW dss c).length := rfl
theorem clk_pre (dss : List (List Dd)) (c k : Nat) : ∀ n : Nat, k ≤ n → ∃ t, (clkE c (dss.getD c []) (evsW dss c) n).1 = (clkE c (dss.getD c []) (evsW dss c) k).1 ++ t
  | 0, h => by
    obtain rfl : k = 0 := by omega
    exact ⟨[], by simp⟩
  | n + 1, h => by
    by_cases e : k = n + 1
    · subst e; exact ⟨[], by simp⟩
    · obtain ⟨t, ht⟩ := clk_pre dss c k n (by omega)
      exact ⟨t ++ oneE c n (dAt dss c n) (clsD dss c n), by rw [clk_step, ht, List.append_assoc]⟩
theorem evs_pre (dss : List (List Dd)) (c : Nat) : ∀ n : Nat, c ≤ n → ∃ t, evsW dss n = evsW dss c ++ t
  | 0, h => by
    obtain rfl : c = 0 := by omega
    exact ⟨[], by simp⟩
  | n + 1, h => by
    by_cases e : c = n + 1
    · subst e; exact ⟨[], by simp⟩
    · obtain ⟨t, ht⟩ := evs_pre dss c n (by omega)
      obtain ⟨t2, h2⟩ := clk_pre dss n 0 (dss.getD n []).length (Nat.zero_le _)
      refine ⟨t ++ t2, ?_⟩
      show (clkE n (dss.getD n []) (evsW dss n) (dss.getD n []).length).1 = _
      rw [h2]
      show evsW dss n ++ t2 = _
      rw [ht, List.append_assoc]
theorem es_at {dss : List (List Dd)} {c k n : Nat} (hc : c < n) (hk : k < (dss.getD c []).length) {i : Nat} {e : Ev} (h : (oneE c k (dAt dss c k) (clsD dss c k))[i]? = some e) : (evsW dss n)[offN dss c k + i]? = some e := by
  obtain ⟨t1, h1⟩ := evs_pre dss (c + 1) n hc
  obtain ⟨t2, h2⟩ := clk_pre dss c (k + 1) (dss.getD c []).length hk
  rw [h1]
  refine at_left t1 ?_
  show (clkE c (dss.getD c []) (evsW dss c) (dss.getD c []).length).1[offN dss c k + i]? = some e
  rw [h2]
  refine at_left t2 ?_
  rw [clk_step, List.getElem?_append_right (by unfold offN; omega)]
  show (oneE c k (dAt dss c k) (clsD dss c k))[offN dss c k + i - offN dss c k]? = some e
  rw [show offN dss c k + i - offN dss c k = i by omega]
  exact h
theorem off_le (dss : List (List Dd)) (c : Nat) {k k' : Nat} (h : k ≤ k') : offN dss c k ≤ offN dss c k' := by
  obtain ⟨t, ht⟩ := clk_pre dss c k k' h
  unfold offN
  rw [ht, List.length_append]
  omega
theorem off_three (dss : List (List Dd)) (c k : Nat) : 3 ≤ offN dss c k := by
  obtain ⟨t, ht⟩ := evs_pre dss 0 c (Nat.zero_le _)
  have h := off_le dss c (Nat.zero_le k)
  rw [off_zero, ht, List.length_append] at h
  simp [evsW, evBeg] at h
  omega
def OkC (dss : List (List Dd)) (c : Nat) : Prop := ∀ k, k < (dss.getD c []).length → okD (dAt dss c k) = true
theorem okC_of {dss : List (List Dd)} (h : workB dss = true) {c : Nat} (hc : c < dss.length) : OkC dss c := by
  simp only [workB, Bool.and_eq_true, decide_eq_true_eq] at h
  obtain ⟨⟨⟨⟨_, h2⟩, _⟩, _⟩, _⟩ := h
  have h3 := all_get [] h2 c hc
  unfold okL at h3
  rw [Bool.and_eq_true] at h3
  exact fun k hk => all_get zD h3.1 k hk
def rdI (d : Dd) (i : Nat) : Bool := decide (d.1 ≠ 2) && decide (i = 0)
def vlI (d : Dd) (i : Nat) : Int := if rdI d i = true then 0 else d.2.2.1
theorem oneE_at {c k : Nat} {d : Dd} {z : Int} (hd : d.1 = 1 ∨ d.1 = 2 ∨ d.1 = 3 ∨ d.1 = 4) {i : Nat} (hi : i < numD d) : (oneE c k d z)[i]? = some ((c : Int), (k : Int), rdI d i, d.2.1, vlI d i, z) := by
  unfold numD at hi
  unfold oneE vlI rdI
  rcases hd with h | h | h | h
  · rw [if_neg (by omega), if_neg (by omega)] at hi
    rw [if_neg (by omega), if_neg (by omega), if_neg (by omega)]
    obtain rfl : i = 0 := by omega
    simp [h]
  · rw [if_neg (by omega), if_neg (by omega)] at hi
    rw [if_neg (by omega), if_neg (by omega), if_pos h]
    obtain rfl : i = 0 := by omega
    simp [h]
  · rw [if_neg (by omega), if_pos h] at hi
    rw [if_neg (by omega), if_pos h]
    rcases (by omega : i = 0 ∨ i = 1) with rfl | rfl
    · simp [h]
    · simp
  · rw [if_pos h] at hi
    omega
structure EvIs (dss : List (List Dd)) (j c k i : Nat) : Prop where
  hc : c < dss.length
  hk : k < (dss.getD c []).length
  hi : i < numD (dAt dss c k)
  hj : j = offN dss c k + i
theorem EvIs.at {dss : List (List Dd)} (hb : workB dss = true) {j c k i : Nat} (h : EvIs dss j c k i) : (eventsB dss).getD j zE = ((c : Int), (k : Int), rdI (dAt dss c k) i, (dAt dss c k).2.1, vlI (dAt dss c k) i, clsD dss c k) := by
  have hd := okD_kindE (okC_of hb h.hc k h.hk)
  rw [eventsB, if_pos hb, List.getD_eq_getElem?_getD, h.hj, es_at h.hc h.hk (oneE_at hd h.hi)]
  rfl
theorem EvIs.lt {dss : List (List Dd)} (hb : workB dss = true) {j c k i : Nat} (h : EvIs dss j c k i) : 3 ≤ j ∧ j < (eventsB dss).length := by
  have hd := okD_kindE (okC_of hb h.hc k h.hk)
  have h1 := es_at (n := dss.length) h.hc h.hk (oneE_at (z := clsD dss c k) (c := c) (k := k) hd h.hi)
  have h2 := off_three dss c k
  rw [eventsB, if_pos hb, h.hj]
  exact ⟨by omega, (List.getElem?_eq_some_iff.1 h1).1⟩
def lenG {α : Type} : List (List α) → Nat
  | [] => 0
  | d :: r => d.length + lenG r
theorem lenG_app {α : Type} : ∀ (l r : List (List α)), lenG (l ++ r) = lenG l + lenG r
  | [], r => by simp [lenG]
  | d :: l, r => by rw [List.cons_append, lenG, lenG, lenG_app l r]; omega
theorem lenG_take {α : Type} (dss : List (List α)) (k : Nat) (h : k < dss.length) : lenG (dss.take (k + 1)) = lenG (dss.take k) + (dss.getD k []).length := by
  rw [List.take_add_one, List.getElem?_eq_getElem h, lenG_app, List.getD_eq_getElem?_getD, List.getElem?_eq_getElem h]
  simp [lenG]
theorem lenG_get {α : Type} : ∀ (dss : List (List α)) (i : Nat), i < dss.length → (dss.getD i []).length ≤ lenG dss
  | [], i, h => by simp at h
  | d :: r, 0, _ => by simp [lenG]
  | d :: r, i + 1, h => by
    have := lenG_get r i (by simpa using h)
    rw [lenG]
    simp only [List.getD_cons_succ]
    omega
end Go.Proofs.Ytnmelakgmgenjaa
