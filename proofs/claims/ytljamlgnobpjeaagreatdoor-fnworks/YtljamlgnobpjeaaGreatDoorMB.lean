/- Several texts in one. -/
import Derived.Test.YtljamlgnobpjeaaGreatDoorRows
import Derived.Test.YtljamlgnobpjeaaGreatDoorMA
import Derived.OpenShut
import Derived.Below
import Derived.WalkSmall
import Derived.Laws.Rows
import Derived.Laws.ResultCell
/- What the contracts of this seat say of memory: 'Keep': all that was there is there as it was; 'Rd': a list of numbers that can be read; 'Own': one in memory that the call itself made. -/
namespace Go.Proofs.YtljamlgnobpjeaaGreatDoor
open Go.ChangeShapes Go.WideShapes Go.ChangeAt Go.RowKit

def Keep (w w' : World) : Prop := Below w.heap.size w w'
theorem Keep.refl (w : World) : Keep w w := Below.refl _ _
theorem Keep.size {w w' : World} (h : Keep w w') : w.heap.size ≤ w'.heap.size := Below.size h
theorem Keep.trans {a b c : World} (h : Keep a b) (k : Keep b c) : Keep a c := Below.trans h (Below.mono k h.size)
theorem Keep.drew {a w : World} (h : Keep a w) : Keep a w.drew := Below.drew h
theorem Keep.drewN {a w : World} (h : Keep a w) (n : Nat) : Keep a (w.drewN n) := below_drewN h n
theorem Keep.alloc {a w : World} (h : Keep a w) (o : Obj) : Keep a (w.alloc o) := Below.alloc h h.size o
theorem Keep.grown {a w w' : World} {row : Option Nat} (h : Keep a w) (hg : w.grownBy w' row) (hr : ∀ k, row = some k → a.heap.size ≤ k) : Keep a w' := Below.grown h hg h.size hr
theorem Keep.grownBy {w w' : World} (h : Keep w w') : w.grownBy w' none := ⟨Below.os h, Below.tape h, Below.output h, Below.size h, fun k hk _ => Below.block h k hk⟩
theorem Keep.cell {w w' : World} (h : Keep w w') {b o : Nat} (hb : b < w.heap.size) : w'.cell? ⟨b, o, none⟩ = w.cell? ⟨b, o, none⟩ := Below.cell h hb

theorem grown_trans {a b c : World} {row : Option Nat} (h : a.grownBy b row) (k : b.grownBy c row) : a.grownBy c row :=
  ⟨k.os.trans h.os, k.tape.trans h.tape, k.output.trans h.output, Nat.le_trans h.size k.size, fun i hi hne => (k.block i (Nat.lt_of_lt_of_le hi h.size) hne).trans (h.block i hi hne)⟩

def Rd (w : World) (v : Value) (zs : List Int) : Prop :=
  ∃ (a : Option Addr) (cap : Nat), v = .slice a zs.length cap ∧
    (zs = [] ∨ ∃ b off, a = some ⟨b, off, none⟩ ∧ b < w.heap.size ∧ ∀ i, i < zs.length → w.cell? ⟨b, off + i, none⟩ = some (.int .i64 (zs.getD i 0)))
theorem Rd.keep {w w' : World} {v : Value} {zs : List Int} (h : Rd w v zs) (k : Keep w w') : Rd w' v zs := by
  obtain ⟨a, cap, hv, h⟩ := h
  refine ⟨a, cap, hv, ?_⟩
  rcases h with h | ⟨b, off, ha, hb, hc⟩
  · exact .inl h
  · exact .inr ⟨b, off, ha, Nat.lt_of_lt_of_le hb k.size, fun i hi => (k.cell hb).trans (hc i hi)⟩

def Own (w : World) (base : Nat) (v : Value) (zs : List Int) : Prop := w.ownsRow base 2 1 v zs.length (zs.map (Value.int .i64))
theorem Own.kept {w w' : World} {base : Nat} {v : Value} {zs : List Int} {row : Option Nat} (h : Own w base v zs) (hg : w.grownBy w' row) (hne : v.ownBlock = none ∨ v.ownBlock ≠ row) : Own w' base v zs :=
  World.ownsRow.kept h hg hne
theorem Own.keep {w w' : World} {base : Nat} {v : Value} {zs : List Int} (h : Own w base v zs) (k : Keep w w') : Own w' base v zs :=
  Own.kept h k.grownBy (by cases v.ownBlock <;> simp)
theorem Own.rd {w : World} {base : Nat} {v : Value} {zs : List Int} (h : Own w base v zs) : Rd w v zs := by
  have hlt := World.ownsRow.lt h
  rcases h.2 with ⟨rfl, hn⟩ | ⟨g, cap, cur, rfl, hb, hg, rest⟩
  · have : zs = [] := List.eq_nil_of_length_eq_zero hn
    subst this
    exact ⟨none, 0, rfl, .inl rfl⟩
  · refine ⟨some ⟨g, 0, none⟩, cap, rfl, .inr ⟨g, 0, rfl, (hlt g rfl).2, fun i hi => ?_⟩⟩
    have hc := World.ownsRow.cellAt h i (by simpa using hi)
    rw [Nat.zero_add, hc, List.getElem?_map, List.getElem?_eq_getElem hi, List.getD_eq_getElem?_getD, List.getElem?_eq_getElem hi]
    rfl
theorem Own.base_le {w : World} {base base' : Nat} {v : Value} {zs : List Int} (h : Own w base v zs) (hb : base' ≤ base) : Own w base' v zs := by
  refine ⟨h.1, ?_⟩
  rcases h.2 with h | ⟨g, cap, cur, hv, hg, rest⟩
  · exact .inl h
  · exact .inr ⟨g, cap, cur, hv, Nat.le_trans hb hg, rest⟩
theorem Own.ge {w : World} {base : Nat} {v : Value} {zs : List Int} (h : Own w base v zs) : ∀ k, v.ownBlock = some k → base ≤ k := fun k hk => (World.ownsRow.lt h k hk).1
theorem Own.apart {w w' : World} {base : Nat} {v v' : Value} {zs zs' : List Int} (h : Own w base v zs) (h' : Own w' w.heap.size v' zs') : v.ownBlock = none ∨ v.ownBlock ≠ v'.ownBlock := by
  cases hv : v.ownBlock with
  | none => exact .inl rfl
  | some k =>
    refine .inr fun e => ?_
    have h1 := (World.ownsRow.lt h k hv).2
    have h2 := h'.ge k e.symm
    omega
/-- What the shell tells of a slice that came in, as a list that can be read. -/
theorem rd_of_row {w : World} {a : Option Addr} {len cap : Nat} {ys : List Int}
    (h : (a = none ∧ len = 0 ∧ cap = 0 ∧ ys = []) ∨ ∃ x, a = some x ∧ len ≤ cap ∧ cap ≤ maxLen ∧ ys.length = cap ∧ (∀ i, i < ys.length → w.cell? (x.add i) = some (.int .i64 (ys.getD i 0))) ∧ ∀ n ∈ ys, (Lit.int .i64 n).wf = true) :
    ∃ zs : List Int, zs.length = len ∧ Rd w (.slice a len cap) zs := by
  rcases h with ⟨rfl, rfl, rfl, rfl⟩ | ⟨x, rfl, hl, hm, hy, hc, _⟩
  · exact ⟨[], rfl, none, 0, rfl, .inl rfl⟩
  · have hzl : (ys.take len).length = len := by rw [List.length_take]; omega
    refine ⟨ys.take len, hzl, some x, cap, by rw [hzl], ?_⟩
    by_cases h0 : len = 0
    · left; subst h0; simp
    · right
      obtain ⟨b, off, spot⟩ := x
      have hc0 := hc 0 (by omega)
      have hspot : spot = none := by simpa [Addr.add] using World.cell?_spot hc0
      subst hspot
      have hcc : ∀ i, i < (ys.take len).length → w.cell? ⟨b, off + i, none⟩ = some (.int .i64 ((ys.take len).getD i 0)) := by
        intro i hi
        have h1 := hc i (by omega)
        have e1 : (⟨b, off, none⟩ : Addr).add i = ⟨b, off + i, none⟩ := by unfold Addr.add; split <;> simp_all
        rw [e1] at h1
        rw [h1, List.getD_eq_getElem?_getD, List.getD_eq_getElem?_getD, List.getElem?_take, if_pos (by omega)]
      refine ⟨b, off, rfl, ?_, hcc⟩
      have h2 := hcc 0 (by omega)
      apply Classical.byContradiction
      intro hnb
      have h3 : w.heap[b]? = none := by simp; omega
      simp [World.cell?, h3] at h2
theorem own_hit {w : World} {base : Nat} {v : Value} {zs : List Int} {x : Int} (h : w.ownsRow base 2 1 v (zs.length + 1) (zs.map (Value.int .i64) ++ [.int .i64 x])) : Own w base v (zs ++ [x]) := by
  unfold Own; simpa using h
theorem Tryz.infoI : (Tryz.prog.info? 2).map (fun i => (i.zero, i.size, i.bytes)) = some (some (.int .i64 0), 1, 8) := by kernel_rfl
end Go.Proofs.YtljamlgnobpjeaaGreatDoor

/- How a function hands back structs that lie in blocks of its own: one, two, or one beside a plain value. -/
namespace Go.Proofs.YtljamlgnobpjeaaGreatDoor
open Go.ChangeShapes Go.WideShapes Go.ChangeAt Go.RowKit

theorem heap_at (w : World) (A : Obj) (i : Nat) : (w.alloc A).heap[i]? = if i = w.heap.size then some A else w.heap[i]? := Array.getElem?_push
theorem heap_size (w : World) (A : Obj) : (w.alloc A).heap.size = w.heap.size + 1 := Array.size_push _
theorem heap_drew (w : World) : w.drew.heap = w.heap := rfl
theorem heap_drewN (w : World) (n : Nat) : (w.drewN n).heap = w.heap := rfl
theorem box_size {w w1 : World} {o : Obj} (k : Keep (w.alloc o) w1) : w.heap.size < w1.heap.size := by
  have := k.size
  rw [heap_size] at this
  omega
theorem box_cell {w w1 : World} {cs : Array Value} {t : TypeId} (k : Keep (w.alloc (.cells cs t)) w1) (i : Nat) : w1.cell? ⟨w.heap.size, i, none⟩ = cs[i]? := by
  rw [k.cell (by rw [heap_size]; omega), cell_of_row (w.alloc (.cells cs t)) w.heap.size i cs t (0, 0) (heap_alloc_new w _)]
theorem box_heap {w w1 : World} {o : Obj} (k : Keep (w.alloc o) w1) : w1.heap[w.heap.size]? = some o :=
  (Below.block k w.heap.size (by rw [heap_size]; omega)).trans (heap_alloc_new w o)
theorem box_deed {w w1 : World} {t : TypeId} {k p v g : Int} (h : Keep (w.alloc (.cells #[.int .i64 k, .int .i64 p, .int .i64 v, .int .i64 g] t)) w1) :
    w.heap.size < w1.heap.size ∧ w1.cell? ⟨w.heap.size, 0, none⟩ = some (.int .i64 k) ∧ w1.cell? ⟨w.heap.size, 1, none⟩ = some (.int .i64 p) ∧ w1.cell? ⟨w.heap.size, 2, none⟩ = some (.int .i64 v) ∧ w1.cell? ⟨w.heap.size, 3, none⟩ = some (.int .i64 g) :=
  ⟨box_size h, box_cell h 0, box_cell h 1, box_cell h 2, box_cell h 3⟩
abbrev strV (l : List UInt8) : Value := .string ⟨l.toArray⟩
theorem ret_bytes {a : ByteArray} {l : List UInt8} (h : a.data.toList = l) : Ending.returned (.string a) = .returned (strV l) := by
  subst h; rfl
theorem results_row {P : Program} {fn : Func} {p : Tmp} {ty : TypeId} (h : fn.results = #[.cell p ty]) (tmps : Array Value) (w : World) (g : Nat) (t : TypeId) (cs : Array Value) (fr : Nat × Nat) (d : TypeDesc)
    (hp : tmps.getD p undef = .pointer (some ⟨g, 0, none⟩)) (hg : w.heap[g]? = some (.cells cs t fr))
    (hu : P.underlying ty = some d) (hd : (match d with | .struct _ | .array _ _ => true | _ => false) = true) (hi : (P.info? ty).map (·.size) = some cs.size) :
    (results fn tmps).run P w = .ok (.agg cs) w := results_cell_row h tmps w g t cs fr d hp hg hu hd hi
theorem results_row_tmp {P : Program} {fn : Func} {p u : Tmp} {ty : TypeId} (h : fn.results = #[.cell p ty, .tmp u]) (tmps : Array Value) (w : World) (g : Nat) (t : TypeId) (cs : Array Value) (fr : Nat × Nat) (d : TypeDesc) (v : Value)
    (hp : tmps.getD p undef = .pointer (some ⟨g, 0, none⟩)) (hg : w.heap[g]? = some (.cells cs t fr)) (hv : tmps.getD u undef = v)
    (hu : P.underlying ty = some d) (hd : (match d with | .struct _ | .array _ _ => true | _ => false) = true) (hi : (P.info? ty).map (·.size) = some cs.size) :
    (results fn tmps).run P w = .ok (.tuple #[.agg cs, v]) w := by
  rw [results_cell_tmp h, hp, hv]
  simp [asAddr, run_loadVar_row w g t ty cs fr d hg hu hd hi, Result.andThen]
theorem results_row2 {P : Program} {fn : Func} {p q : Tmp} {ty : TypeId} (h : fn.results = #[.cell p ty, .cell q ty]) (tmps : Array Value) (w : World) (g g' : Nat) (t t' : TypeId) (cs cs' : Array Value) (fr fr' : Nat × Nat) (d : TypeDesc)
    (hp : tmps.getD p undef = .pointer (some ⟨g, 0, none⟩)) (hg : w.heap[g]? = some (.cells cs t fr))
    (hq : tmps.getD q undef = .pointer (some ⟨g', 0, none⟩)) (hg' : w.heap[g']? = some (.cells cs' t' fr'))
    (hu : P.underlying ty = some d) (hd : (match d with | .struct _ | .array _ _ => true | _ => false) = true) (hi : (P.info? ty).map (·.size) = some cs.size) (hi' : (P.info? ty).map (·.size) = some cs'.size) :
    (results fn tmps).run P w = .ok (.tuple #[.agg cs, .agg cs']) w := by
  have hp' : tmps[p]?.getD undef = .pointer (some ⟨g, 0, none⟩) := by simpa using hp
  have hq' : tmps[q]?.getD undef = .pointer (some ⟨g', 0, none⟩) := by simpa using hq
  simp [results, h, hp', hq', asAddr, run_loadVar_row w g t ty cs fr d hg hu hd hi, run_loadVar_row w g' t' ty cs' fr' d hg' hu hd hi']
end Go.Proofs.YtljamlgnobpjeaaGreatDoor

/- A list of numbers that lies at the beginning of a block, whatever room stands behind it there: 'RowAt', 'Row'; what a store turns in it, and that it stays where others write. -/
namespace Go.Proofs.YtljamlgnobpjeaaGreatDoor
open Go.ChangeShapes Go.WideShapes Go.ChangeAt Go.RowKit

/-- Block g begins with the numbers zs and may be written. -/
def RowAt (w : World) (g : Nat) (zs : List Int) : Prop :=
  ∃ (cur : Array Value) (e : TypeId), w.heap[g]? = some (.cells cur e (0, 0)) ∧ cur.toList.take zs.length = zs.map (Value.int .i64)
theorem RowAt.lt {w : World} {g : Nat} {zs : List Int} (h : RowAt w g zs) : g < w.heap.size := by
  obtain ⟨cur, e, hh, _⟩ := h
  exact (Array.getElem?_eq_some_iff.1 hh).1
theorem RowAt.cell {w : World} {g : Nat} {zs : List Int} (h : RowAt w g zs) {j : Nat} (hj : j < zs.length) : w.cell? ⟨g, j, none⟩ = some (.int .i64 (zs.getD j 0)) := by
  obtain ⟨cur, e, hh, ht⟩ := h
  rw [cell_of_row w g j cur e (0, 0) hh]
  have h1 : (cur.toList.take zs.length)[j]? = (zs.map (Value.int .i64))[j]? := by rw [ht]
  rw [List.getElem?_take, if_pos hj, List.getElem?_map, List.getElem?_eq_getElem hj] at h1
  rw [List.getD_eq_getElem?_getD, List.getElem?_eq_getElem hj]
  simpa using h1
theorem RowAt.free {w : World} {g : Nat} {zs : List Int} (h : RowAt w g zs) (j : Nat) : w.frozen? ⟨g, j, none⟩ = false := by
  obtain ⟨cur, e, hh, _⟩ := h
  exact frozen_of_row w g j _ _ hh
theorem RowAt.kept {w w' : World} {g : Nat} {zs : List Int} {row : Option Nat} (h : RowAt w g zs) (hg : w.grownBy w' row) (hne : row ≠ some g) : RowAt w' g zs := by
  have hlt := h.lt
  obtain ⟨cur, e, hh, ht⟩ := h
  exact ⟨cur, e, by rw [hg.block g hlt (fun e => hne e.symm)]; exact hh, ht⟩
theorem RowAt.keep {w w' : World} {g : Nat} {zs : List Int} (h : RowAt w g zs) (k : Keep w w') : RowAt w' g zs := h.kept k.grownBy (by simp)
theorem grown_set (w : World) (g j : Nat) (v : Value) : w.grownBy (w.setCell ⟨g, j, none⟩ v) (some g) :=
  ⟨rfl, rfl, rfl, by simp, fun k _ hk => heap_setCell_other w ⟨g, j, none⟩ k v (fun e => hk (by simp [e]))⟩
theorem grown_draw (w : World) (n : Nat) (row : Option Nat) : w.grownBy (w.drewN n) row := ⟨rfl, rfl, rfl, Nat.le_refl _, fun _ _ _ => rfl⟩
theorem grown_drew (w : World) (row : Option Nat) : w.grownBy w.drew row := ⟨rfl, rfl, rfl, Nat.le_refl _, fun _ _ _ => rfl⟩
theorem RowAt.drewN {w : World} {g : Nat} {zs : List Int} (h : RowAt w g zs) (n : Nat) : RowAt (w.drewN n) g zs := h.kept (row := none) (grown_draw w n none) (by simp)
theorem RowAt.drew {w : World} {g : Nat} {zs : List Int} (h : RowAt w g zs) : RowAt w.drew g zs := h.kept (row := none) (grown_drew w none) (by simp)
theorem take_set_val (l : List Value) (zs : List Int) (j : Nat) (x : Int) (h : l.take zs.length = zs.map (Value.int .i64)) :
    (l.set j (.int .i64 x)).take (zs.set j x).length = (zs.set j x).map (Value.int .i64) := by
  rw [List.length_set, List.take_set, h, List.map_set]
theorem RowAt.set {w : World} {g : Nat} {zs : List Int} (h : RowAt w g zs) (j : Nat) (x : Int) : RowAt (w.setCell ⟨g, j, none⟩ (.int .i64 x)) g (zs.set j x) := by
  obtain ⟨cur, e, hh, ht⟩ := h
  refine ⟨cur.setIfInBounds j (.int .i64 x), e, ?_, ?_⟩
  · rw [heap_setCell_same w g j _ _ _ hh]
  · rw [Array.toList_setIfInBounds]
    exact take_set_val _ zs j x ht

/-- A list in memory from block 'base' on. -/
def Row (w : World) (base : Nat) (v : Value) (zs : List Int) : Prop :=
  (v = .slice none 0 0 ∧ zs = []) ∨ ∃ g cap, v = .slice (some ⟨g, 0, none⟩) zs.length cap ∧ base ≤ g ∧ RowAt w g zs
theorem Own.row {w : World} {base : Nat} {v : Value} {zs : List Int} (h : Own w base v zs) : Row w base v zs := by
  rcases h.2 with ⟨rfl, hn⟩ | ⟨g, cap, cur, rfl, hb, hg, _, _, _, ht⟩
  · exact .inl ⟨rfl, List.eq_nil_of_length_eq_zero hn⟩
  · exact .inr ⟨g, cap, rfl, hb, cur, _, hg, by rw [Nat.mul_one] at ht; exact ht⟩
theorem Row.lt {w : World} {base : Nat} {v : Value} {zs : List Int} (h : Row w base v zs) : ∀ k, v.ownBlock = some k → base ≤ k ∧ k < w.heap.size := by
  intro k hk
  rcases h with ⟨rfl, _⟩ | ⟨g, cap, rfl, hb, hr⟩
  · simp [Value.ownBlock] at hk
  · simp [Value.ownBlock] at hk; subst hk; exact ⟨hb, hr.lt⟩
theorem Row.ge {w : World} {base : Nat} {v : Value} {zs : List Int} (h : Row w base v zs) : ∀ k, v.ownBlock = some k → base ≤ k := fun k hk => (h.lt k hk).1
theorem Row.kept {w w' : World} {base : Nat} {v : Value} {zs : List Int} {row : Option Nat} (h : Row w base v zs) (hg : w.grownBy w' row) (hne : v.ownBlock = none ∨ v.ownBlock ≠ row) : Row w' base v zs := by
  rcases h with h | ⟨g, cap, rfl, hb, hr⟩
  · exact .inl h
  · refine .inr ⟨g, cap, rfl, hb, hr.kept hg ?_⟩
    simp [Value.ownBlock] at hne
    exact fun e => hne e.symm
theorem Row.keep {w w' : World} {base : Nat} {v : Value} {zs : List Int} (h : Row w base v zs) (k : Keep w w') : Row w' base v zs :=
  h.kept k.grownBy (by cases v.ownBlock <;> simp)
theorem Row.rd {w : World} {base : Nat} {v : Value} {zs : List Int} (h : Row w base v zs) : Rd w v zs := by
  rcases h with ⟨rfl, rfl⟩ | ⟨g, cap, rfl, hb, hr⟩
  · exact ⟨none, 0, rfl, .inl rfl⟩
  · exact ⟨some ⟨g, 0, none⟩, cap, rfl, .inr ⟨g, 0, rfl, hr.lt, fun i hi => by rw [Nat.zero_add]; exact hr.cell hi⟩⟩
theorem Row.base_le {w : World} {base base' : Nat} {v : Value} {zs : List Int} (h : Row w base v zs) (hb : base' ≤ base) : Row w base' v zs := by
  rcases h with h | ⟨g, cap, hv, hg, hr⟩
  · exact .inl h
  · exact .inr ⟨g, cap, hv, Nat.le_trans hb hg, hr⟩
/-- Of two rows the later one was made behind the first. -/
theorem Row.apart {w w' : World} {base : Nat} {v v' : Value} {zs zs' : List Int} (h : Row w base v zs) (h' : Row w' w.heap.size v' zs') : v.ownBlock = none ∨ v.ownBlock ≠ v'.ownBlock := by
  cases hv : v.ownBlock with
  | none => exact .inl rfl
  | some k =>
    refine .inr fun e => ?_
    have h1 := (h.lt k hv).2
    have h2 := h'.ge k e.symm
    omega
/-- A row that lies above is another one. -/
theorem Row.apart' {w w' : World} {base : Nat} {v v' : Value} {zs zs' : List Int} (h : Row w base v zs) (h' : Row w' w.heap.size v' zs') : v'.ownBlock = none ∨ v'.ownBlock ≠ v.ownBlock := by
  cases hv : v'.ownBlock with
  | none => exact .inl rfl
  | some k =>
    refine .inr fun e => ?_
    have h1 := (h.lt k e.symm).2
    have h2 := h'.ge k hv
    omega
theorem row_new {w : World} {g n cap base : Nat} {zs : List Int} (h : RowAt w g zs) (hb : base ≤ g) (hn : zs.length = n) : Row w base (.slice (some ⟨g, 0, none⟩) n cap) zs := by
  subst hn; exact .inr ⟨g, cap, rfl, hb, h⟩
/-- A literal without an element. -/
theorem row_empty (w : World) (e : TypeId) : Row (w.alloc (.cells #[] e)) w.heap.size (.slice (some ⟨w.heap.size, 0, none⟩) 0 0) [] :=
  .inr ⟨w.heap.size, 0, rfl, Nat.le_refl _, #[], e, heap_alloc_new w _, rfl⟩
end Go.Proofs.YtljamlgnobpjeaaGreatDoor

/- Lists of texts in memory: 'RdS': one that can be read; 'OwnS': one in memory that the call itself made. -/
namespace Go.Proofs.YtljamlgnobpjeaaGreatDoor
open Go.ChangeShapes Go.WideShapes Go.ChangeAt Go.RowKit

def RdS (w : World) (v : Value) (ws : List (List UInt8)) : Prop :=
  ∃ (a : Option Addr) (cap : Nat), v = .slice a ws.length cap ∧
    (ws = [] ∨ ∃ b off, a = some ⟨b, off, none⟩ ∧ b < w.heap.size ∧ ∀ i, i < ws.length → w.cell? ⟨b, off + i, none⟩ = some (strV (ws.getD i [])))
theorem RdS.keep {w w' : World} {v : Value} {ws : List (List UInt8)} (h : RdS w v ws) (k : Keep w w') : RdS w' v ws := by
  obtain ⟨a, cap, hv, h⟩ := h
  refine ⟨a, cap, hv, ?_⟩
  rcases h with h | ⟨b, off, ha, hb, hc⟩
  · exact .inl h
  · exact .inr ⟨b, off, ha, Nat.lt_of_lt_of_le hb k.size, fun i hi => (k.cell hb).trans (hc i hi)⟩
def OwnS (w : World) (base : Nat) (v : Value) (ws : List (List UInt8)) : Prop := w.ownsRow base 9 1 v ws.length (ws.map strV)
theorem OwnS.keep {w w' : World} {base : Nat} {v : Value} {ws : List (List UInt8)} (h : OwnS w base v ws) (k : Keep w w') : OwnS w' base v ws :=
  World.ownsRow.kept h k.grownBy (by cases v.ownBlock <;> simp)
theorem OwnS.rd {w : World} {base : Nat} {v : Value} {ws : List (List UInt8)} (h : OwnS w base v ws) : RdS w v ws := by
  have hlt := World.ownsRow.lt h
  rcases h.2 with ⟨rfl, hn⟩ | ⟨g, cap, cur, rfl, hb, hg, rest⟩
  · have : ws = [] := List.eq_nil_of_length_eq_zero hn
    subst this
    exact ⟨none, 0, rfl, .inl rfl⟩
  · refine ⟨some ⟨g, 0, none⟩, cap, rfl, .inr ⟨g, 0, rfl, (hlt g rfl).2, fun i hi => ?_⟩⟩
    have hc := World.ownsRow.cellAt h i (by simpa using hi)
    rw [Nat.zero_add, hc, List.getElem?_map, List.getElem?_eq_getElem hi, List.getD_eq_getElem?_getD, List.getElem?_eq_getElem hi]
    rfl
theorem OwnS.ge {w : World} {base : Nat} {v : Value} {ws : List (List UInt8)} (h : OwnS w base v ws) : ∀ k, v.ownBlock = some k → base ≤ k := fun k hk => (World.ownsRow.lt h k hk).1
theorem ownS_hit {w : World} {base : Nat} {v : Value} {ws : List (List UInt8)} {x : List UInt8} (h : w.ownsRow base 9 1 v (ws.length + 1) (ws.map strV ++ [strV x])) : OwnS w base v (ws ++ [x]) := by
  unfold OwnS; simpa using h
theorem Tryz.infoS : (Tryz.prog.info? 9).map (fun i => (i.zero, i.size, i.bytes)) = some (some (.string ⟨#[]⟩), 1, 16) := by kernel_rfl
end Go.Proofs.YtljamlgnobpjeaaGreatDoor
