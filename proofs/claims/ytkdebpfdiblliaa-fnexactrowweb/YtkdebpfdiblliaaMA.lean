/- Several texts in one. -/
import Derived.WalkKit
import Derived.ProofKit
import Derived.Laws.BitsAllLaws
import Derived.Laws.BitsLemmas
import Derived.Test.YtkdebpfdiblliaaRows
import Derived.OpenShut
import Derived.Below
import Derived.WalkSmall
import Derived.Laws.Rows
import Derived.Laws.ResultCell
import Derived.Maps.AppendAt
import Derived.Laws.OwnMore
import Derived.OwnWalk
import Derived.Lib.IndexMore
import Derived.Lib.ParseIntB
import Derived.Lib.ItoaNum
import Derived.Outline
import Derived.BigRegion
import Derived.RegionTactic
import Derived.Deep.RegionHeld3
import Derived.Deep.QuietTactic
import Derived.BigQuiet
import Derived.Lib.Hide
import Derived.RangeFuncBox
/- Plain facts on numbers, bits and lists that the contracts of this seat speak of: nothing of the program. -/
namespace Go.Proofs.Ytkdebpfdiblliaa
open Go.RowKit

theorem ret_bool {a b : Bool} (h : a = b) : Ending.returned (.bool a) = .returned (.bool b) := by rw [h]
theorem ret_int {k : IntKind} {a b : Int} (h : a = b) : Ending.returned (.int k a) = .returned (.int k b) := by rw [h]

theorem ofInt_i64 (a : Nat) (ha : a < 9223372036854775808) : (BitVec.ofInt 64 (a : Int)).toNat = a := ofInt_u64 a (by omega)
theorem i64_or_nat (a b : Nat) (ha : a < 9223372036854775808) (hb : b < 9223372036854775808) : bits .or .i64 (a : Int) (b : Int) = ((a ||| b : Nat) : Int) := by
  have hx : a ||| b < 2 ^ 63 := Nat.or_lt_two_pow (by omega) (by omega)
  show IntKind.i64.wrap ((BitVec.ofInt 64 (a : Int) ||| BitVec.ofInt 64 (b : Int)).toNat : Int) = _
  rw [BitVec.toNat_or, ofInt_i64 a ha, ofInt_i64 b hb, IntKind.wrap_i64]
  omega
theorem i64_and_nat (a b : Nat) (ha : a < 9223372036854775808) (hb : b < 9223372036854775808) : bits .and .i64 (a : Int) (b : Int) = ((a &&& b : Nat) : Int) := by
  have hx : a &&& b < 2 ^ 63 := Nat.and_lt_two_pow _ (by omega)
  show IntKind.i64.wrap ((BitVec.ofInt 64 (a : Int) &&& BitVec.ofInt 64 (b : Int)).toNat : Int) = _
  rw [BitVec.toNat_and, ofInt_i64 a ha, ofInt_i64 b hb, IntKind.wrap_i64]
  omega
theorem pow_le12 (n : Nat) (h : n ≤ 12) : (2 : Int) ^ n ≤ 4096 ∧ (1 : Int) ≤ 2 ^ n := by
  have : n = 0 ∨ n = 1 ∨ n = 2 ∨ n = 3 ∨ n = 4 ∨ n = 5 ∨ n = 6 ∨ n = 7 ∨ n = 8 ∨ n = 9 ∨ n = 10 ∨ n = 11 ∨ n = 12 := by omega
  rcases this with rfl | rfl | rfl | rfl | rfl | rfl | rfl | rfl | rfl | rfl | rfl | rfl | rfl <;> decide
theorem wrap64_small (x : Int) (h1 : -9223372036854775808 ≤ x) (h2 : x ≤ 9223372036854775807) : wrap64 x = x := by
  simp only [wrap64]; omega
theorem wrap64_pow (n : Int) (h0 : 0 ≤ n) (h : n ≤ 12) : wrap64 (2 ^ n.toNat) = 2 ^ n.toNat := by
  have := pow_le12 n.toNat (by omega)
  exact wrap64_small _ (by omega) (by omega)

/-- Is x from lo to hi? -/
def inB (x lo hi : Int) : Bool := decide (lo ≤ x ∧ x ≤ hi)
/-- Is s a set of n? -/
def okB (n s : Int) : Bool := decide ((0 ≤ n ∧ n ≤ 12) ∧ 0 ≤ s ∧ s < 2 ^ n.toNat)
/-- Is the bit i in s? -/
def bitB (s i : Int) : Bool := bits .and .i64 (s / 2 ^ i.toNat) 1 == 1
/-- Is i in the set s? -/
def inSetB (s i : Int) : Bool := inB i 0 11 && inB s 0 4095 && bitB s i
/-- Those of the first k that are in s. -/
def mem (s : Int) : Nat → List Int
  | 0 => []
  | k + 1 => mem s k ++ (if inSetB s k = true then [(k : Int)] else [])
/-- One more is gathered. -/
def gAdd (s i : Int) : Int := if s = -1 ∨ inB i 0 11 = false then -1 else bits .or .i64 s (wrap64 (2 ^ i.toNat))
/-- The set of a list; -1 where there is none. -/
def gath (l : List Int) : Int := l.foldl gAdd 0

/-- Is n in the list? -/
def hasB (n : Int) (zs : List Int) : Bool := decide (n ∈ zs)

theorem mem_len (s : Int) (k : Nat) : (mem s k).length ≤ k := by
  induction k with
  | zero => simp [mem]
  | succ k ih => unfold mem; split <;> simp <;> omega
theorem mem_out (s : Int) (h : inB s 0 4095 = false) (k : Nat) : mem s k = [] := by
  induction k with
  | zero => rfl
  | succ k ih => unfold mem; rw [ih]; simp [inSetB, h]
theorem gath_snoc (l : List Int) (i : Int) : gath (l ++ [i]) = gAdd (gath l) i := by simp [gath]
theorem gAdd_bad (s i : Int) (h : inB i 0 11 = false) : gAdd s i = -1 := by simp [gAdd, h]
theorem gAdd_none (i : Int) : gAdd (-1) i = -1 := by simp [gAdd]
theorem gAdd_ok (s i : Int) (h0 : 0 ≤ s) (h : inB i 0 11 = true) : gAdd s i = bits .or .i64 s (wrap64 (2 ^ i.toNat)) := by
  have : ¬ s = -1 := by omega
  simp [gAdd, h, this]
theorem gAdd_range (s i : Int) (h0 : 0 ≤ s) (h1 : s ≤ 4095) (h : inB i 0 11 = true) : 0 ≤ gAdd s i ∧ gAdd s i ≤ 4095 := by
  rw [gAdd_ok s i h0 h]
  simp [inB] at h
  obtain ⟨a, rfl⟩ := Int.eq_ofNat_of_zero_le h0
  rw [wrap64_pow i (by omega) (by omega)]
  have hp := pow_le12 i.toNat (by omega)
  have hq : (2 : Nat) ^ i.toNat < 2 ^ 12 := Nat.pow_lt_pow_right (by omega) (by omega)
  have e : ((2 : Int) ^ i.toNat) = ((2 ^ i.toNat : Nat) : Int) := by simp
  rw [e, i64_or_nat a _ (by omega) (by omega)]
  have hx : a ||| 2 ^ i.toNat < 2 ^ 12 := Nat.or_lt_two_pow (by omega) hq
  omega
theorem foldl_none (l : List Int) : l.foldl gAdd (-1) = -1 := by
  induction l with
  | nil => rfl
  | cons a l ih => simp only [List.foldl_cons, gAdd_none]; exact ih
theorem gath_bad (l : List Int) (k : Nat) (hk : k < l.length) (h : inB (l.getD k 0) 0 11 = false) : gath l = -1 := by
  have e : l = l.take k ++ (l.getD k 0) :: l.drop (k + 1) := by
    rw [List.getD_eq_getElem?_getD, List.getElem?_eq_getElem hk]; simp
  unfold gath
  rw [e, List.foldl_append, List.foldl_cons]
  have hb : gAdd (List.foldl gAdd 0 (l.take k)) (l.getD k 0) = -1 := gAdd_bad _ _ h
  rw [hb]
  exact foldl_none _
theorem take_snoc (l : List Int) (k : Nat) (h : k < l.length) : l.take (k + 1) = l.take k ++ [l.getD k 0] := by
  rw [List.take_succ_eq_append_getElem h, List.getD_eq_getElem?_getD, List.getElem?_eq_getElem h]; rfl
end Go.Proofs.Ytkdebpfdiblliaa

/- What the contracts of this seat say of memory: 'Keep': all that was there is there as it was; 'Rd': a list of numbers that can be read; 'Own': one in memory that the call itself made. -/
namespace Go.Proofs.Ytkdebpfdiblliaa
open Go.ChangeShapes Go.WideShapes Go.ChangeAt Go.RowKit

def Keep (w w' : World) : Prop := Below w.heap.size w w'
theorem Keep.refl (w : World) : Keep w w := Below.refl _ _
theorem Keep.size {w w' : World} (h : Keep w w') : w.heap.size ≤ w'.heap.size := Below.size h
theorem Keep.trans {a b c : World} (h : Keep a b) (k : Keep b c) : Keep a c := Below.trans h (Below.mono k h.size)
theorem Keep.drew {a w : World} (h : Keep a w) : Keep a w.drew := Below.drew h
theorem Keep.drewN {a w : World} (h : Keep a w) (n : Nat) : Keep a (w.drewN n) := below_drewN h n
theorem Keep.alloc {a w : World} (h : Keep a w) (o : Obj) : Keep a (w.alloc o) := Below.alloc h h.size o
theorem Keep.grown {a w w' : World} {row : Option Nat} (h : Keep a w) (hg : w.grownBy w' row) (hr : ∀ k, row = some k → a.heap.size ≤ k) : Keep a w' := Below.grown h hg h.size hr
theorem Keep.grownBy {w w' : World} (h : Keep w w') : w.grownBy w' none := ⟨Below.os h, Below.tape h, Below.output h, Below.size h, fun k hk _ => Below.block h k hk⟩
theorem Keep.cell {w w' : World} (h : Keep w w') {b o : Nat} (hb : b < w.heap.size) : w'.cell? ⟨b, o, none⟩ = w.cell? ⟨b, o, none⟩ := Below.cell h hb

theorem grown_trans {a b c : World} {row : Option Nat} (h : a.grownBy b row) (k : b.grownBy c row) : a.grownBy c row :=
  ⟨k.os.trans h.os, k.tape.trans h.tape, k.output.trans h.output, Nat.le_trans h.size k.size, fun i hi hne => (k.block i (Nat.lt_of_lt_of_le hi h.size) hne).trans (h.block i hi hne)⟩

def Rd (w : World) (v : Value) (zs : List Int) : Prop :=
  ∃ (a : Option Addr) (cap : Nat), v = .slice a zs.length cap ∧
    (zs = [] ∨ ∃ b off, a = some ⟨b, off, none⟩ ∧ b < w.heap.size ∧ ∀ i, i < zs.length → w.cell? ⟨b, off + i, none⟩ = some (.int .i64 (zs.getD i 0)))
theorem Rd.keep {w w' : World} {v : Value} {zs : List Int} (h : Rd w v zs) (k : Keep w w') : Rd w' v zs := by
  obtain ⟨a, cap, hv, h⟩ := h
  refine ⟨a, cap, hv, ?_⟩
  rcases h with h | ⟨b, off, ha, hb, hc⟩
  · exact .inl h
  · exact .inr ⟨b, off, ha, Nat.lt_of_lt_of_le hb k.size, fun i hi => (k.cell hb).trans (hc i hi)⟩

def Own (w : World) (base : Nat) (v : Value) (zs : List Int) : Prop := w.ownsRow base 2 1 v zs.length (zs.map (Value.int .i64))
theorem Own.kept {w w' : World} {base : Nat} {v : Value} {zs : List Int} {row : Option Nat} (h : Own w base v zs) (hg : w.grownBy w' row) (hne : v.ownBlock = none ∨ v.ownBlock ≠ row) : Own w' base v zs :=
  World.ownsRow.kept h hg hne
theorem Own.keep {w w' : World} {base : Nat} {v : Value} {zs : List Int} (h : Own w base v zs) (k : Keep w w') : Own w' base v zs :=
  Own.kept h k.grownBy (by cases v.ownBlock <;> simp)
theorem Own.rd {w : World} {base : Nat} {v : Value} {zs : List Int} (h : Own w base v zs) : Rd w v zs := by
  have hlt := World.ownsRow.lt h
  rcases h.2 with ⟨rfl, hn⟩ | ⟨g, cap, cur, rfl, hb, hg, rest⟩
  · have : zs = [] := List.eq_nil_of_length_eq_zero hn
    subst this
    exact ⟨none, 0, rfl, .inl rfl⟩
  · refine ⟨some ⟨g, 0, none⟩, cap, rfl, .inr ⟨g, 0, rfl, (hlt g rfl).2, fun i hi => ?_⟩⟩
    have hc := World.ownsRow.cellAt h i (by simpa using hi)
    rw [Nat.zero_add, hc, List.getElem?_map, List.getElem?_eq_getElem hi, List.getD_eq_getElem?_getD, List.getElem?_eq_getElem hi]
    rfl
theorem Own.base_le {w : World} {base base' : Nat} {v : Value} {zs : List Int} (h : Own w base v zs) (hb : base' ≤ base) : Own w base' v zs := by
  refine ⟨h.1, ?_⟩
  rcases h.2 with h | ⟨g, cap, cur, hv, hg, rest⟩
  · exact .inl h
  · exact .inr ⟨g, cap, cur, hv, Nat.le_trans hb hg, rest⟩
theorem Own.ge {w : World} {base : Nat} {v : Value} {zs : List Int} (h : Own w base v zs) : ∀ k, v.ownBlock = some k → base ≤ k := fun k hk => (World.ownsRow.lt h k hk).1
theorem Own.apart {w w' : World} {base : Nat} {v v' : Value} {zs zs' : List Int} (h : Own w base v zs) (h' : Own w' w.heap.size v' zs') : v.ownBlock = none ∨ v.ownBlock ≠ v'.ownBlock := by
  cases hv : v.ownBlock with
  | none => exact .inl rfl
  | some k =>
    refine .inr fun e => ?_
    have h1 := (World.ownsRow.lt h k hv).2
    have h2 := h'.ge k e.symm
    omega
/-- What the shell tells of a slice that came in, as a list that can be read. -/
theorem rd_of_row {w : World} {a : Option Addr} {len cap : Nat} {ys : List Int}
    (h : (a = none ∧ len = 0 ∧ cap = 0 ∧ ys = []) ∨ ∃ x, a = some x ∧ len ≤ cap ∧ cap ≤ maxLen ∧ ys.length = cap ∧ (∀ i, i < ys.length → w.cell? (x.add i) = some (.int .i64 (ys.getD i 0))) ∧ ∀ n ∈ ys, (Lit.int .i64 n).wf = true) :
    ∃ zs : List Int, zs.length = len ∧ Rd w (.slice a len cap) zs := by
  rcases h with ⟨rfl, rfl, rfl, rfl⟩ | ⟨x, rfl, hl, hm, hy, hc, _⟩
  · exact ⟨[], rfl, none, 0, rfl, .inl rfl⟩
  · have hzl : (ys.take len).length = len := by rw [List.length_take]; omega
    refine ⟨ys.take len, hzl, some x, cap, by rw [hzl], ?_⟩
    by_cases h0 : len = 0
    · left; subst h0; simp
    · right
      obtain ⟨b, off, spot⟩ := x
      have hc0 := hc 0 (by omega)
      have hspot : spot = none := by simpa [Addr.add] using World.cell?_spot hc0
      subst hspot
      have hcc : ∀ i, i < (ys.take len).length → w.cell? ⟨b, off + i, none⟩ = some (.int .i64 ((ys.take len).getD i 0)) := by
        intro i hi
        have h1 := hc i (by omega)
        have e1 : (⟨b, off, none⟩ : Addr).add i = ⟨b, off + i, none⟩ := by unfold Addr.add; split <;> simp_all
        rw [e1] at h1
        rw [h1, List.getD_eq_getElem?_getD, List.getD_eq_getElem?_getD, List.getElem?_take, if_pos (by omega)]
      refine ⟨b, off, rfl, ?_, hcc⟩
      have h2 := hcc 0 (by omega)
      apply Classical.byContradiction
      intro hnb
      have h3 : w.heap[b]? = none := by simp; omega
      simp [World.cell?, h3] at h2
theorem own_hit {w : World} {base : Nat} {v : Value} {zs : List Int} {x : Int} (h : w.ownsRow base 2 1 v (zs.length + 1) (zs.map (Value.int .i64) ++ [.int .i64 x])) : Own w base v (zs ++ [x]) := by
  unfold Own; simpa using h
theorem Try.infoI : (Try.prog.info? 2).map (fun i => (i.zero, i.size, i.bytes)) = some (some (.int .i64 0), 1, 8) := by kernel_rfl
end Go.Proofs.Ytkdebpfdiblliaa

/- How a function hands back structs that lie in blocks of its own: one, two, or one beside a plain value. -/
namespace Go.Proofs.Ytkdebpfdiblliaa
open Go.ChangeShapes Go.WideShapes Go.ChangeAt Go.RowKit

theorem heap_at (w : World) (A : Obj) (i : Nat) : (w.alloc A).heap[i]? = if i = w.heap.size then some A else w.heap[i]? := Array.getElem?_push
theorem heap_size (w : World) (A : Obj) : (w.alloc A).heap.size = w.heap.size + 1 := Array.size_push _
theorem heap_drew (w : World) : w.drew.heap = w.heap := rfl
theorem heap_drewN (w : World) (n : Nat) : (w.drewN n).heap = w.heap := rfl
theorem box_size {w w1 : World} {o : Obj} (k : Keep (w.alloc o) w1) : w.heap.size < w1.heap.size := by
  have := k.size
  rw [heap_size] at this
  omega
theorem box_cell {w w1 : World} {cs : Array Value} {t : TypeId} (k : Keep (w.alloc (.cells cs t)) w1) (i : Nat) : w1.cell? ⟨w.heap.size, i, none⟩ = cs[i]? := by
  rw [k.cell (by rw [heap_size]; omega), cell_of_row (w.alloc (.cells cs t)) w.heap.size i cs t (0, 0) (heap_alloc_new w _)]
theorem box_heap {w w1 : World} {o : Obj} (k : Keep (w.alloc o) w1) : w1.heap[w.heap.size]? = some o :=
  (Below.block k w.heap.size (by rw [heap_size]; omega)).trans (heap_alloc_new w o)
theorem box_deed {w w1 : World} {t : TypeId} {k p v g : Int} (h : Keep (w.alloc (.cells #[.int .i64 k, .int .i64 p, .int .i64 v, .int .i64 g] t)) w1) :
    w.heap.size < w1.heap.size ∧ w1.cell? ⟨w.heap.size, 0, none⟩ = some (.int .i64 k) ∧ w1.cell? ⟨w.heap.size, 1, none⟩ = some (.int .i64 p) ∧ w1.cell? ⟨w.heap.size, 2, none⟩ = some (.int .i64 v) ∧ w1.cell? ⟨w.heap.size, 3, none⟩ = some (.int .i64 g) :=
  ⟨box_size h, box_cell h 0, box_cell h 1, box_cell h 2, box_cell h 3⟩
abbrev strV (l : List UInt8) : Value := .string ⟨l.toArray⟩
theorem ret_bytes {a : ByteArray} {l : List UInt8} (h : a.data.toList = l) : Ending.returned (.string a) = .returned (strV l) := by
  subst h; rfl
theorem results_row {P : Program} {fn : Func} {p : Tmp} {ty : TypeId} (h : fn.results = #[.cell p ty]) (tmps : Array Value) (w : World) (g : Nat) (t : TypeId) (cs : Array Value) (fr : Nat × Nat) (d : TypeDesc)
    (hp : tmps.getD p undef = .pointer (some ⟨g, 0, none⟩)) (hg : w.heap[g]? = some (.cells cs t fr))
    (hu : P.underlying ty = some d) (hd : (match d with | .struct _ | .array _ _ => true | _ => false) = true) (hi : (P.info? ty).map (·.size) = some cs.size) :
    (results fn tmps).run P w = .ok (.agg cs) w := results_cell_row h tmps w g t cs fr d hp hg hu hd hi
theorem results_row_tmp {P : Program} {fn : Func} {p u : Tmp} {ty : TypeId} (h : fn.results = #[.cell p ty, .tmp u]) (tmps : Array Value) (w : World) (g : Nat) (t : TypeId) (cs : Array Value) (fr : Nat × Nat) (d : TypeDesc) (v : Value)
    (hp : tmps.getD p undef = .pointer (some ⟨g, 0, none⟩)) (hg : w.heap[g]? = some (.cells cs t fr)) (hv : tmps.getD u undef = v)
    (hu : P.underlying ty = some d) (hd : (match d with | .struct _ | .array _ _ => true | _ => false) = true) (hi : (P.info? ty).map (·.size) = some cs.size) :
    (results fn tmps).run P w = .ok (.tuple #[.agg cs, v]) w := by
  rw [results_cell_tmp h, hp, hv]
  simp [asAddr, run_loadVar_row w g t ty cs fr d hg hu hd hi, Result.andThen]
theorem results_row2 {P : Program} {fn : Func} {p q : Tmp} {ty : TypeId} (h : fn.results = #[.cell p ty, .cell q ty]) (tmps : Array Value) (w : World) (g g' : Nat) (t t' : TypeId) (cs cs' : Array Value) (fr fr' : Nat × Nat) (d : TypeDesc)
    (hp : tmps.getD p undef = .pointer (some ⟨g, 0, none⟩)) (hg : w.heap[g]? = some (.cells cs t fr))
    (hq : tmps.getD q undef = .pointer (some ⟨g', 0, none⟩)) (hg' : w.heap[g']? = some (.cells cs' t' fr'))
    (hu : P.underlying ty = some d) (hd : (match d with | .struct _ | .array _ _ => true | _ => false) = true) (hi : (P.info? ty).map (·.size) = some cs.size) (hi' : (P.info? ty).map (·.size) = some cs'.size) :
    (results fn tmps).run P w = .ok (.tuple #[.agg cs, .agg cs']) w := by
  have hp' : tmps[p]?.getD undef = .pointer (some ⟨g, 0, none⟩) := by simpa using hp
  have hq' : tmps[q]?.getD undef = .pointer (some ⟨g', 0, none⟩) := by simpa using hq
  simp [results, h, hp', hq', asAddr, run_loadVar_row w g t ty cs fr d hg hu hd hi, run_loadVar_row w g' t' ty cs' fr' d hg' hu hd hi']
end Go.Proofs.Ytkdebpfdiblliaa

/- Lists of lists of numbers in memory: that can be read ('RdL'); that grow, each part in a block apart from the row's ('AppL'). -/
namespace Go.Proofs.Ytkdebpfdiblliaa
open Go.ChangeShapes Go.WideShapes Go.ChangeAt Go.RowKit

def RdL (w : World) (v : Value) (zss : List (List Int)) : Prop :=
  ∃ (a : Option Addr) (cap : Nat), v = .slice a zss.length cap ∧
    (zss = [] ∨ ∃ b off, a = some ⟨b, off, none⟩ ∧ b < w.heap.size ∧ ∀ i, i < zss.length → ∃ vi, w.cell? ⟨b, off + i, none⟩ = some vi ∧ Rd w vi (zss.getD i []))
theorem RdL.keep {w w' : World} {v : Value} {zss : List (List Int)} (h : RdL w v zss) (k : Keep w w') : RdL w' v zss := by
  obtain ⟨a, cap, hv, h⟩ := h
  refine ⟨a, cap, hv, ?_⟩
  rcases h with h | ⟨b, off, ha, hb, hc⟩
  · exact .inl h
  · refine .inr ⟨b, off, ha, Nat.lt_of_lt_of_le hb k.size, fun i hi => ?_⟩
    obtain ⟨vi, h1, h2⟩ := hc i hi
    exact ⟨vi, (k.cell hb).trans h1, h2.keep k⟩
theorem Rd.keptR {w w' : World} {v : Value} {zs : List Int} {row : Option Nat} (h : Rd w v zs) (hg : w.grownBy w' row) (hne : v.ownBlock = none ∨ v.ownBlock ≠ row) : Rd w' v zs := by
  obtain ⟨a, cap, rfl, h⟩ := h
  refine ⟨a, cap, rfl, ?_⟩
  rcases h with h | ⟨b, off, rfl, hb, hc⟩
  · exact .inl h
  · refine .inr ⟨b, off, rfl, Nat.lt_of_lt_of_le hb hg.size, fun i hi => ?_⟩
    rw [World.cell?_of_block (w := w) (hg.block b hb (fun e => by rcases hne with h | h <;> simp [Value.ownBlock] at h; exact h e))]
    exact hc i hi
/-- The room of a slice. -/
def capZ : Value → Nat
  | .slice _ _ c => c
  | _ => 0
theorem Own.capz {w : World} {base : Nat} {v : Value} {zs : List Int} (h : Own w base v zs) : zs.length ≤ capZ v := by
  rcases h.2 with ⟨rfl, hz⟩ | ⟨g, cap, cur, rfl, hb, hg, hc, _⟩
  · rw [hz]; exact Nat.zero_le _
  · exact hc
/-- A list of numbers that can be read, in a block apart from that of x. -/
structure Beside (w : World) (x u : Value) (zs : List Int) : Prop where
  rd : Rd w u zs
  ne : u.ownBlock = none ∨ u.ownBlock ≠ x.ownBlock
  lt : ∀ k, u.ownBlock = some k → k < w.heap.size
  cap : zs.length ≤ capZ u
theorem Beside.keep {w w' : World} {x u : Value} {zs : List Int} (h : Beside w x u zs) (k : Keep w w') : Beside w' x u zs :=
  ⟨h.rd.keep k, h.ne, fun j hj => Nat.lt_of_lt_of_le (h.lt j hj) k.size, h.cap⟩
theorem Beside.grow {w w' : World} {x x' u : Value} {zs : List Int} (h : Beside w x u zs) (hg : w.grownBy w' x.ownBlock) (hb : x'.ownBlock = x.ownBlock ∨ x'.ownBlock = some w.heap.size) : Beside w' x' u zs := by
  refine ⟨h.rd.keptR hg h.ne, ?_, fun j hj => Nat.lt_of_lt_of_le (h.lt j hj) hg.size, h.cap⟩
  rcases hb with hb | hb
  · rw [hb]; exact h.ne
  · cases hu : u.ownBlock with
    | none => exact .inl rfl
    | some k => exact .inr (fun e => by rw [hb] at e; have := h.lt k hu; have := Option.some.inj e; omega)
theorem Own.beside {w' : World} {x u : Value} {zs : List Int} {base : Nat} (h : Own w' base u zs) (hx : ∀ k, x.ownBlock = some k → k < base) : Beside w' x u zs :=
  ⟨h.rd, by
    cases hu : u.ownBlock with
    | none => exact .inl rfl
    | some k => exact .inr (fun e => by have := hx k e.symm; have := h.ge k hu; omega), fun k hk => (World.ownsRow.lt h k hk).2, h.capz⟩
structure AppL (w : World) (base : Nat) (x : Value) (vs : List Value) (zss : List (List Int)) : Prop where
  row : w.ownsRow base 27 1 x zss.length vs
  each : ∀ i u, vs[i]? = some u → Beside w x u (zss.getD i [])
theorem AppL.keep {w w' : World} {base : Nat} {x : Value} {vs : List Value} {zss : List (List Int)} (h : AppL w base x vs zss) (k : Keep w w') : AppL w' base x vs zss :=
  ⟨World.ownsRow.kept h.row k.grownBy (by cases x.ownBlock <;> simp), fun i u hu => (h.each i u hu).keep k⟩
theorem AppL.lt {w : World} {base : Nat} {x : Value} {vs : List Value} {zss : List (List Int)} (h : AppL w base x vs zss) : ∀ k, x.ownBlock = some k → base ≤ k ∧ k < w.heap.size := World.ownsRow.lt h.row
theorem AppL.rd {w : World} {base : Nat} {x : Value} {vs : List Value} {zss : List (List Int)} (h : AppL w base x vs zss) : RdL w x zss := by
  have hl := h.row.1
  have hlt := h.lt
  have h2 := h.row
  rcases h.row.2 with ⟨rfl, hz⟩ | ⟨g, cap, cur, rfl, hb, hg, _⟩
  · exact ⟨none, 0, by rw [hz], .inl (List.eq_nil_of_length_eq_zero hz)⟩
  · refine ⟨_, _, rfl, .inr ⟨g, 0, rfl, (hlt g rfl).2, fun i hi => ?_⟩⟩
    have hi' : i < vs.length := by omega
    refine ⟨vs[i], ?_, (h.each i _ (List.getElem?_eq_getElem hi')).rd⟩
    rw [Nat.zero_add, World.ownsRow.cellAt h2 i (by omega), List.getElem?_eq_getElem hi']
/-- .. with the room of each list. -/
def RdLC (w : World) (v : Value) (zss : List (List Int)) : Prop :=
  ∃ (a : Option Addr) (cap : Nat), v = .slice a zss.length cap ∧
    (zss = [] ∨ ∃ b off, a = some ⟨b, off, none⟩ ∧ b < w.heap.size ∧ ∀ i, i < zss.length → ∃ vi, w.cell? ⟨b, off + i, none⟩ = some vi ∧ Rd w vi (zss.getD i []) ∧ (zss.getD i []).length ≤ capZ vi)
theorem RdLC.rd {w : World} {v : Value} {zss : List (List Int)} (h : RdLC w v zss) : RdL w v zss := by
  obtain ⟨a, cap, hv, h⟩ := h
  refine ⟨a, cap, hv, ?_⟩
  rcases h with h | ⟨b, off, ha, hb, hc⟩
  · exact .inl h
  · refine .inr ⟨b, off, ha, hb, fun i hi => ?_⟩
    obtain ⟨vi, h1, h2, _⟩ := hc i hi
    exact ⟨vi, h1, h2⟩
theorem AppL.rdc {w : World} {base : Nat} {x : Value} {vs : List Value} {zss : List (List Int)} (h : AppL w base x vs zss) : RdLC w x zss := by
  have hl := h.row.1
  have hlt := h.lt
  have h2 := h.row
  rcases h.row.2 with ⟨rfl, hz⟩ | ⟨g, cap, cur, rfl, hb, hg, _⟩
  · exact ⟨none, 0, by rw [hz], .inl (List.eq_nil_of_length_eq_zero hz)⟩
  · refine ⟨_, _, rfl, .inr ⟨g, 0, rfl, (hlt g rfl).2, fun i hi => ?_⟩⟩
    have hi' : i < vs.length := by omega
    have hE := h.each i _ (List.getElem?_eq_getElem hi')
    refine ⟨vs[i], ?_, hE.rd, hE.cap⟩
    rw [Nat.zero_add, World.ownsRow.cellAt h2 i (by omega), List.getElem?_eq_getElem hi']
theorem appL_empty (w : World) : AppL (w.alloc (.cells #[] 27)) w.heap.size (.slice (some ⟨w.heap.size, 0, none⟩) 0 0) [] [] :=
  ⟨World.ownsRow_lit w #[] 0 (Nat.le_refl _) (by decide) (by simp), by simp⟩
theorem AppL.push {w w' : World} {base : Nat} {x x' u : Value} {vs : List Value} {zss : List (List Int)} {zs : List Int} (h : AppL w base x vs zss) (hu : Beside w x u zs)
    (ho : w'.ownsRow base 27 1 x' (zss.length + 1) (vs ++ [u])) (hg : w.grownBy w' x.ownBlock) (hb : x'.ownBlock = x.ownBlock ∨ x'.ownBlock = some w.heap.size) : AppL w' base x' (vs ++ [u]) (zss ++ [zs]) := by
  have hl := h.row.1
  refine ⟨by rw [List.length_append]; exact ho, fun i y hy => ?_⟩
  by_cases hi : i < vs.length
  · rw [List.getElem?_append_left hi] at hy
    have := (h.each i y hy).grow hg hb
    rw [List.getD_eq_getElem?_getD, List.getElem?_append_left (by omega), ← List.getD_eq_getElem?_getD]
    exact this
  · have hi2 : i = vs.length := by
      have := (List.getElem?_eq_some_iff.1 hy).1
      simp at this
      omega
    subst hi2
    rw [List.getElem?_append_right (Nat.le_refl _), Nat.sub_self] at hy
    simp only [List.getElem?_cons_zero, Option.some.injEq] at hy
    subst hy
    rw [List.getD_eq_getElem?_getD, List.getElem?_append_right (by omega), show vs.length - zss.length = 0 by omega]
    exact hu.grow hg hb
theorem Try.infoL : (Try.prog.info? 27).map (fun i => (i.zero, i.size, i.bytes)) = some (some (.slice none 0 0), 1, 24) := by kernel_rfl
end Go.Proofs.Ytkdebpfdiblliaa

/- Plain mathematics of deeds: which four numbers are a deed, its text, the two guesses that are made of a text (the specification's by words, the program's by cuts), and that each guess of a right deed's text is that deed. -/
namespace Go.Proofs.Ytkdebpfdiblliaa

def deedB (k p v g : Int) : Bool :=
  decide ((1 ≤ k ∧ k ≤ 4) ∧ (0 ≤ p ∧ p ≤ 2) ∧ (0 ≤ g ∧ g ≤ 9) ∧ (k = 4 → p = 0) ∧ (2 < k → g = 0) ∧ ((k = 2 ∨ k = 3) → 1 ≤ v ∧ v ≤ 9) ∧ (¬ (k = 2 ∨ k = 3) → v = 0))

def kindL (k : Int) : List UInt8 :=
  if k = 1 then [114, 101, 97, 100] else if k = 2 then [119, 114, 105, 116, 101] else if k = 3 then [115, 119, 97, 112] else if k = 4 then [119, 97, 105, 116] else []
def digL (n : Int) : List UInt8 := [UInt8.ofNat (48 + n.toNat)]
def placeL (p : Int) : List UInt8 := [UInt8.ofNat (120 + p.toNat)]
def partP (k p : Int) : List UInt8 := if k = 4 then [] else 32 :: placeL p
def partV (v : Int) : List UInt8 := if v = 0 then [] else 32 :: digL v
def partG (g : Int) : List UInt8 := if g = 0 then [] else [32, 105, 110, 32] ++ digL g
def showL (k p v g : Int) : List UInt8 := kindL k ++ partP k p ++ partV v ++ partG g
def showD (k p v g : Int) : List UInt8 := if deedB k p v g = true then showL k p v g else []

def kindNo (w : List UInt8) : Int :=
  if kindL 1 = w then 1 else if kindL 2 = w then 2 else if kindL 3 = w then 3 else if kindL 4 = w then 4 else 0
def numI (w : List UInt8) : Int := match Lib.parseIntB 64 w with
  | .ok v => v
  | _ => 0
def cutIn (s : List UInt8) : List UInt8 × List UInt8 × Bool := Lib.cut s [32, 105, 110, 32]
def cutB (s : List UInt8) : List UInt8 × List UInt8 × Bool := Lib.cut s [32]
def gIk (s : List UInt8) : Int := kindNo (cutB (cutIn s).1).1
def gIp (s : List UInt8) : Int := Lib.index [120, 121, 122] (cutB (cutB (cutIn s).1).2.1).1
def gIv (s : List UInt8) : Int := numI (cutB (cutB (cutIn s).1).2.1).2.1
def gIg (s : List UInt8) : Int := numI (cutIn s).2.1

/-- The words of a text: as l1Split parts them. -/
def joinHead (x : List UInt8) : List (List UInt8) → List (List UInt8)
  | [] => [x]
  | y :: ys => (x ++ y) :: ys
def splitL (b : UInt8) : List UInt8 → List (List UInt8)
  | [] => [[]]
  | c :: r => if c = b then [] :: splitL b r else joinHead [c] (splitL b r)
theorem splitL_ne (b : UInt8) : ∀ s : List UInt8, splitL b s ≠ []
  | [] => by simp [splitL]
  | c :: r => by
    unfold splitL
    split
    · simp
    · cases h : splitL b r <;> simp [joinHead]
theorem joinHead_join (x y : List UInt8) : ∀ l : List (List UInt8), joinHead x (joinHead y l) = joinHead (x ++ y) l
  | [] => rfl
  | z :: zs => by simp [joinHead]
theorem joinHead_nil (l : List (List UInt8)) (h : l ≠ []) : joinHead [] l = l := by
  cases l with
  | nil => exact absurd rfl h
  | cons y ys => rfl

/-- The number that l1Read makes of digits, behind those read. -/
def digV (acc : Int) : List UInt8 → Option Int
  | [] => some acc
  | c :: r => if 48 ≤ c.toNat ∧ c.toNat ≤ 57 then digV (acc * 10 + ((c.toNat : Int) - 48)) r else none
def negR (s : List UInt8) : Bool := match s with
  | [] => false
  | c :: _ => decide (c = 45)
def bodyR (s : List UInt8) : List UInt8 := if negR s = true then s.drop 1 else s
def readO (s : List UInt8) : Option Int :=
  if (bodyR s).length < 1 ∨ 9 < (bodyR s).length then none else
  match digV 0 (bodyR s) with
  | none => none
  | some n => if (bodyR s).head? = some 48 ∧ (negR s = true ∨ 1 < s.length) then none else some (if negR s = true then -n else n)
def numS (s : List UInt8) : Int := (readO s).getD 0

def placeNo (w : List UInt8) : Int := if w = [120] then 0 else if w = [121] then 1 else if w = [122] then 2 else -1
def wordAt (ws : List (List UInt8)) (i : Nat) : List UInt8 := ws.getD i []
def gSk (ws : List (List UInt8)) : Int := kindNo (wordAt ws 0)
/-- Whether a place is read, whether a value is, and where the words behind stand. -/
def hasP (ws : List (List UInt8)) : Bool := decide (gSk ws ≠ 4 ∧ 1 < ws.length)
def atV (ws : List (List UInt8)) : Nat := if hasP ws = true then 2 else 1
def hasV (ws : List (List UInt8)) : Bool := decide ((gSk ws = 2 ∨ gSk ws = 3) ∧ atV ws < ws.length)
def atG (ws : List (List UInt8)) : Nat := if hasV ws = true then atV ws + 1 else atV ws
def hasG (ws : List (List UInt8)) : Bool := decide (ws.length = atG ws + 2 ∧ wordAt ws (atG ws) = [105, 110])
def gSp (ws : List (List UInt8)) : Int := if hasP ws = true then placeNo (wordAt ws 1) else 0
def gSv (ws : List (List UInt8)) : Int := if hasV ws = true then numS (wordAt ws (atV ws)) else 0
def gSg (ws : List (List UInt8)) : Int := if hasG ws = true then numS (wordAt ws (atG ws + 1)) else 0

/-- The kind that the specification has found behind k words held against the first. -/
def kindUp (x : List UInt8) : Nat → Int
  | 0 => 0
  | k + 1 => if kindL ((k : Int) + 1) = x then (k : Int) + 1 else kindUp x k
theorem kindUp_four (x : List UInt8) : kindUp x 4 = kindNo x := by
  unfold kindNo
  by_cases h1 : kindL 1 = x
  · subst h1; decide
  · by_cases h2 : kindL 2 = x
    · subst h2; decide
    · by_cases h3 : kindL 3 = x
      · subst h3; decide
      · by_cases h4 : kindL 4 = x
        · subst h4; decide
        · rw [if_neg h1, if_neg h2, if_neg h3, if_neg h4]
          simp [kindUp, h1, h2, h3, h4]
theorem kindNo_in (x : List UInt8) : 0 ≤ kindNo x ∧ kindNo x ≤ 4 := by
  unfold kindNo
  repeat' split
  all_goals omega
/-- All right deeds, by four numbers from a few. -/
def okList : List (Int × Int × Int × Int) :=
  [1, 2, 3, 4].flatMap fun k => [0, 1, 2].flatMap fun p => [0, 1, 2, 3, 4, 5, 6, 7, 8, 9].flatMap fun v => ([0, 1, 2, 3, 4, 5, 6, 7, 8, 9].map fun g => (k, p, v, g)).filter fun d => deedB d.1 d.2.1 d.2.2.1 d.2.2.2
theorem ok_mem (k p v g : Int) (h : deedB k p v g = true) : (k, p, v, g) ∈ okList := by
  have h' := h
  simp only [deedB, decide_eq_true_eq] at h'
  obtain ⟨⟨k1, k2⟩, ⟨p1, p2⟩, ⟨g1, g2⟩, h4, h5, h6, h7⟩ := h'
  have v1 : 0 ≤ v ∧ v ≤ 9 := by
    by_cases hk : k = 2 ∨ k = 3
    · have := h6 hk; omega
    · have := h7 hk; omega
  simp only [okList, List.mem_flatMap, List.mem_filter, List.mem_map]
  refine ⟨k, ?_, p, ?_, v, ?_, ⟨g, ?_, rfl⟩, h⟩
  · have : k = 1 ∨ k = 2 ∨ k = 3 ∨ k = 4 := by omega
    simpa using this
  · have : p = 0 ∨ p = 1 ∨ p = 2 := by omega
    simpa using this
  · have : v = 0 ∨ v = 1 ∨ v = 2 ∨ v = 3 ∨ v = 4 ∨ v = 5 ∨ v = 6 ∨ v = 7 ∨ v = 8 ∨ v = 9 := by omega
    simpa using this
  · have : g = 0 ∨ g = 1 ∨ g = 2 ∨ g = 3 ∨ g = 4 ∨ g = 5 ∨ g = 6 ∨ g = 7 ∨ g = 8 ∨ g = 9 := by omega
    simpa using this
def hitI (d : Int × Int × Int × Int) : Bool :=
  let s := showL d.1 d.2.1 d.2.2.1 d.2.2.2
  decide (gIk s = d.1) && decide (gIp s = d.2.1) && decide (gIv s = d.2.2.1) && decide (gIg s = d.2.2.2)
def hitS (d : Int × Int × Int × Int) : Bool :=
  let ws := splitL 32 (showL d.1 d.2.1 d.2.2.1 d.2.2.2)
  decide (gSk ws = d.1) && decide (gSp ws = d.2.1) && decide (gSv ws = d.2.2.1) && decide (gSg ws = d.2.2.2)
theorem all_hitI : okList.all hitI = true := by decide +kernel
theorem all_hitS : okList.all hitS = true := by decide +kernel
theorem okList_length : okList.length = 328 := by decide +kernel

/-- What ReadDeed answers of a guess: the guess where it is right and has just this text, else nothing. -/
def fits (s : List UInt8) (k p v g : Int) : Bool := deedB k p v g && decide (showL k p v g = s)
theorem guessI_show {k p v g : Int} {s : List UInt8} (h : fits s k p v g = true) : gIk s = k ∧ gIp s = p ∧ gIv s = v ∧ gIg s = g := by
  simp only [fits, Bool.and_eq_true, decide_eq_true_eq] at h
  obtain ⟨h, rfl⟩ := h
  have := List.all_eq_true.1 all_hitI _ (ok_mem k p v g h)
  simpa [hitI, and_assoc] using this
theorem guessS_show {k p v g : Int} {s : List UInt8} (h : fits s k p v g = true) : gSk (splitL 32 s) = k ∧ gSp (splitL 32 s) = p ∧ gSv (splitL 32 s) = v ∧ gSg (splitL 32 s) = g := by
  simp only [fits, Bool.and_eq_true, decide_eq_true_eq] at h
  obtain ⟨h, rfl⟩ := h
  have := List.all_eq_true.1 all_hitS _ (ok_mem k p v g h)
  simpa [hitS, and_assoc] using this
def fitI (s : List UInt8) : Bool := fits s (gIk s) (gIp s) (gIv s) (gIg s)
def fitS (s : List UInt8) : Bool := fits s (gSk (splitL 32 s)) (gSp (splitL 32 s)) (gSv (splitL 32 s)) (gSg (splitL 32 s))
theorem fit_same (s : List UInt8) : fitS s = fitI s := by
  rw [Bool.eq_iff_iff]
  constructor
  · intro h
    obtain ⟨a, b, c, d⟩ := guessI_show h
    unfold fitI
    rw [a, b, c, d]
    exact h
  · intro h
    obtain ⟨a, b, c, d⟩ := guessS_show h
    unfold fitS
    rw [a, b, c, d]
    exact h
theorem guess_same {s : List UInt8} (h : fitI s = true) : gSk (splitL 32 s) = gIk s ∧ gSp (splitL 32 s) = gIp s ∧ gSv (splitL 32 s) = gIv s ∧ gSg (splitL 32 s) = gIg s := guessS_show h
theorem fit_show {k p v g : Int} (h : deedB k p v g = true) : fitI (showL k p v g) = true ∧ gIk (showL k p v g) = k ∧ gIp (showL k p v g) = p ∧ gIv (showL k p v g) = v ∧ gIg (showL k p v g) = g := by
  have hf : fits (showL k p v g) k p v g = true := by simp [fits, h]
  obtain ⟨a, b, c, d⟩ := guessI_show hf
  refine ⟨?_, a, b, c, d⟩
  unfold fitI
  rw [a, b, c, d]
  exact hf
theorem kindL_ne {k : Int} (h1 : 1 ≤ k) (h2 : k ≤ 4) : kindL k ≠ [] := by
  have : k = 1 ∨ k = 2 ∨ k = 3 ∨ k = 4 := by omega
  rcases this with rfl | rfl | rfl | rfl <;> decide
theorem showL_ne {k p v g : Int} (h : deedB k p v g = true) : showL k p v g ≠ [] := by
  simp only [deedB, decide_eq_true_eq] at h
  have := kindL_ne h.1.1 h.1.2
  unfold showL
  simp [this]
theorem showL_length (k p v g : Int) : (showL k p v g).length ≤ 14 := by
  unfold showL partP partV partG kindL digL placeL
  repeat' split
  all_goals simp
end Go.Proofs.Ytkdebpfdiblliaa

/- Plain mathematics of works: which lists of deeds are one, how many events it has. -/
namespace Go.Proofs.Ytkdebpfdiblliaa

/-- A deed as four numbers: its kind, place, value and group. -/
abbrev Dd := Int × Int × Int × Int
def zD : Dd := (0, 0, 0, 0)
def okD (d : Dd) : Bool := deedB d.1 d.2.1 d.2.2.1 d.2.2.2
def evD (d : Dd) : Int := if d.1 = 1 then 1 else if d.1 = 2 then 1 else if d.1 = 3 then 2 else 0
def evK (ds : List Dd) : Nat → Int
  | 0 => 0
  | k + 1 => evK ds k + evD (ds.getD k zD)
def evW (dss : List (List Dd)) : Nat → Int
  | 0 => 0
  | i + 1 => evW dss i + evK (dss.getD i []) (dss.getD i []).length
theorem evD_in (d : Dd) : 0 ≤ evD d ∧ evD d ≤ 2 := by
  unfold evD
  repeat' split
  all_goals omega
theorem evK_in (ds : List Dd) : ∀ k : Nat, 0 ≤ evK ds k ∧ evK ds k ≤ 2 * k
  | 0 => by simp [evK]
  | k + 1 => by have := evK_in ds k; have := evD_in (ds.getD k zD); rw [evK]; omega
/-- Whose a group is (0: nobody's), as the specification keeps it, behind k deeds of clerk i. -/
def grpK (i : Nat) (own : List Int) (ds : List Dd) : Nat → Option (List Int)
  | 0 => some own
  | k + 1 => match grpK i own ds k with
    | none => none
    | some o =>
      if (ds.getD k zD).2.2.2 = 0 then some o
      else if o.getD (ds.getD k zD).2.2.2.toNat 0 ≠ 0 ∧ (o.getD (ds.getD k zD).2.2.2.toNat 0 ≠ (i : Int) + 1 ∨ k = 0 ∨ (ds.getD (k - 1) zD).2.2.2 ≠ (ds.getD k zD).2.2.2) then none
      else some (o.set (ds.getD k zD).2.2.2.toNat ((i : Int) + 1))
def grpW (dss : List (List Dd)) : Nat → Option (List Int)
  | 0 => some (List.replicate 10 0)
  | i + 1 => match grpW dss i with
    | none => none
    | some o => grpK i o (dss.getD i []) (dss.getD i []).length
def grpB (dss : List (List Dd)) : Bool := (grpW dss dss.length).isSome
def lenW : List (List Dd) → Nat
  | [] => 0
  | d :: r => d.length + lenW r
def okL (ds : List Dd) : Bool := ds.all okD && decide (ds.length ≤ 5)
def workB (dss : List (List Dd)) : Bool :=
  decide (1 ≤ dss.length ∧ dss.length ≤ 3) && dss.all okL && decide (lenW dss ≤ 12) && decide (evW dss dss.length ≤ 6) && grpB dss
theorem grpK_none {i : Nat} {own : List Int} {ds : List Dd} {k : Nat} (h : grpK i own ds k = none) : ∀ n : Nat, k ≤ n → grpK i own ds n = none
  | 0, hn => by
    obtain rfl : k = 0 := by omega
    exact h
  | n + 1, hn => by
    by_cases e : k = n + 1
    · rw [← e]; exact h
    · rw [grpK, grpK_none h n (by omega)]
theorem grpW_none {dss : List (List Dd)} {i : Nat} (h : grpW dss i = none) : ∀ n : Nat, i ≤ n → grpW dss n = none
  | 0, hn => by
    obtain rfl : i = 0 := by omega
    exact h
  | n + 1, hn => by
    by_cases e : i = n + 1
    · rw [← e]; exact h
    · rw [grpW, grpW_none h n (by omega)]
theorem grpK_len {i : Nat} {own : List Int} {ds : List Dd} : ∀ {k : Nat} {o : List Int}, grpK i own ds k = some o → o.length = own.length
  | 0, o, h => by simp only [grpK, Option.some.injEq] at h; rw [← h]
  | k + 1, o, h => by
    rw [grpK] at h
    split at h
    · cases h
    · rename_i o' ho'
      have ih := grpK_len ho'
      split at h
      · simp only [Option.some.injEq] at h; rw [← h]; exact ih
      · split at h
        · cases h
        · simp only [Option.some.injEq] at h; rw [← h, List.length_set]; exact ih
theorem grpW_len {dss : List (List Dd)} : ∀ {i : Nat} {o : List Int}, grpW dss i = some o → o.length = 10
  | 0, o, h => by simp only [grpW, Option.some.injEq] at h; rw [← h]; simp
  | i + 1, o, h => by
    rw [grpW] at h
    split at h
    · cases h
    · rename_i o' ho'
      rw [grpK_len h]
      exact grpW_len ho'
theorem all_get {α : Type} {f : α → Bool} {l : List α} (z : α) (h : l.all f = true) (i : Nat) (hi : i < l.length) : f (l.getD i z) = true := by
  rw [List.getD_eq_getElem?_getD, List.getElem?_eq_getElem hi]
  exact List.all_eq_true.1 h _ (List.getElem_mem hi)
theorem all_of {α : Type} {f : α → Bool} {l : List α} (z : α) (h : ∀ i, i < l.length → f (l.getD i z) = true) : l.all f = true := by
  rw [List.all_eq_true]
  intro x hx
  obtain ⟨i, hi, rfl⟩ := List.getElem_of_mem hx
  have := h i hi
  rwa [List.getD_eq_getElem?_getD, List.getElem?_eq_getElem hi] at this
theorem all_not {α : Type} {f : α → Bool} {l : List α} (z : α) (i : Nat) (hi : i < l.length) (h : f (l.getD i z) = false) : l.all f = false := by
  cases hb : l.all f
  · rfl
  · rw [all_get z hb i hi] at h; cases h
end Go.Proofs.Ytkdebpfdiblliaa

/- Plain mathematics of events: which ones a work has, and what the law on them asks. -/
namespace Go.Proofs.Ytkdebpfdiblliaa

/-- An event: clerk, deed, does it read, place, value, class. -/
abbrev Ev := Int × Int × Bool × Int × Int × Int
def zE : Ev := (0, 0, false, 0, 0, 0)
def csE (e : Ev) : Int := e.2.2.2.2.2
def evBeg : List Ev := [(-1, -1, false, 0, 0, 0), (-1, -1, false, 1, 0, 1), (-1, -1, false, 2, 0, 2)]
/-- The events of one deed (none of a wait). -/
def oneE (i k : Nat) (d : Dd) (c : Int) : List Ev :=
  if d.1 = 4 then [] else if d.1 = 3 then [((i : Int), (k : Int), true, d.2.1, 0, c), ((i : Int), (k : Int), false, d.2.1, d.2.2.1, c)]
  else if d.1 = 2 then [((i : Int), (k : Int), false, d.2.1, d.2.2.1, c)] else [((i : Int), (k : Int), true, d.2.1, 0, c)]
/-- Where a Group began (0: nowhere yet), once one more deed is met. -/
def fstE (g : Int) (at0 : Nat) (f : List Int) : List Int := if 0 < g ∧ f.getD g.toNat 0 = 0 then f.set g.toNat (at0 : Int) else f
def clsE (g : Int) (at0 : Nat) (f : List Int) : Int := if 0 < g then (fstE g at0 f).getD g.toNat 0 else (at0 : Int)
def stepE (i k : Nat) (d : Dd) (s : List Ev × List Int) : List Ev × List Int :=
  if d.1 = 4 then s else (s.1 ++ oneE i k d (clsE d.2.2.2 s.1.length s.2), fstE d.2.2.2 s.1.length s.2)
def clkE (i : Nat) (ds : List Dd) (out : List Ev) : Nat → List Ev × List Int
  | 0 => (out, List.replicate 10 0)
  | k + 1 => stepE i k (ds.getD k zD) (clkE i ds out k)
def evsW (dss : List (List Dd)) : Nat → List Ev
  | 0 => evBeg
  | i + 1 => (clkE i (dss.getD i []) (evsW dss i) (dss.getD i []).length).1
def eventsB (dss : List (List Dd)) : List Ev := if workB dss = true then evsW dss dss.length else []
theorem oneE_len (i k : Nat) (d : Dd) (c : Int) (h : d.1 = 1 ∨ d.1 = 2 ∨ d.1 = 3 ∨ d.1 = 4) : ((oneE i k d c).length : Int) = evD d := by
  unfold oneE evD
  rcases h with h | h | h | h <;> simp [h]
theorem okD_kindE {d : Dd} (h : okD d = true) : d.1 = 1 ∨ d.1 = 2 ∨ d.1 = 3 ∨ d.1 = 4 := by
  simp [okD, deedB] at h
  omega
theorem okD_restE {d : Dd} (h : okD d = true) : 0 ≤ d.2.1 ∧ d.2.1 ≤ 2 ∧ 0 ≤ d.2.2.2 ∧ d.2.2.2 ≤ 9 ∧ (2 < d.1 → d.2.2.2 = 0) := by
  simp [okD, deedB] at h
  omega
theorem clkE_len {i : Nat} {ds : List Dd} {out : List Ev} (hok : ∀ j, j < ds.length → okD (ds.getD j zD) = true) : ∀ k : Nat, k ≤ ds.length → ((clkE i ds out k).1.length : Int) = out.length + evK ds k
  | 0, _ => by simp [clkE, evK]
  | k + 1, h => by
    have ih := clkE_len (i := i) (out := out) hok k (by omega)
    have hk := okD_kindE (hok k (by omega))
    rw [clkE, stepE, evK]
    split
    · rename_i h4
      rw [ih]
      unfold evD
      rw [h4]
      simp
    · have := oneE_len i k (ds.getD k zD) (clsE (ds.getD k zD).2.2.2 (clkE i ds out k).1.length (clkE i ds out k).2) hk
      rw [List.length_append]
      omega
theorem evsW_len {dss : List (List Dd)} (hok : ∀ i, i < dss.length → okL (dss.getD i []) = true) : ∀ n : Nat, n ≤ dss.length → ((evsW dss n).length : Int) = 3 + evW dss n
  | 0, _ => by simp [evsW, evBeg, evW]
  | n + 1, h => by
    have ih := evsW_len hok n (by omega)
    have hn := hok n (by omega)
    simp only [okL, Bool.and_eq_true, decide_eq_true_eq] at hn
    rw [evsW, clkE_len (fun j hj => all_get zD hn.1 j hj) _ (Nat.le_refl _), ih, evW]
    omega
/-- What the law asks of the event number j. -/
def GoodE (dss : List (List Dd)) (out : List Ev) (j : Nat) : Prop :=
  ∃ (i k c : Nat) (rd : Bool) (vl : Int), out[j]? = some ((i : Int), (k : Int), rd, ((dss.getD i []).getD k zD).2.1, vl, (c : Int)) ∧ i < dss.length ∧ k < (dss.getD i []).length ∧
    (rd = true → vl = 0) ∧ (rd = false → vl = ((dss.getD i []).getD k zD).2.2.1) ∧ c ≤ j ∧
    ∃ (k' : Nat) (rd' : Bool) (pl' vl' : Int), out[c]? = some ((i : Int), (k' : Int), rd', pl', vl', (c : Int)) ∧ k' < (dss.getD i []).length ∧
      (c ≠ j → ((dss.getD i []).getD k zD).1 ≠ 3 → ((dss.getD i []).getD k zD).2.2.2 ≠ 0 ∧ ((dss.getD i []).getD k' zD).2.2.2 = ((dss.getD i []).getD k zD).2.2.2)
theorem at_left {α : Type} {l : List α} {j : Nat} {x : α} (t : List α) (h : l[j]? = some x) : (l ++ t)[j]? = some x := by
  rw [List.getElem?_append_left (List.getElem?_eq_some_iff.1 h).1]; exact h
theorem GoodE.more {dss : List (List Dd)} {out : List Ev} {j : Nat} (h : GoodE dss out j) (t : List Ev) : GoodE dss (out ++ t) j := by
  obtain ⟨i, k, c, rd, vl, h1, h2, h3, h4, h5, h6, k', rd', pl', vl', g1, g2, g3⟩ := h
  exact ⟨i, k, c, rd, vl, at_left t h1, h2, h3, h4, h5, h6, k', rd', pl', vl', at_left t g1, g2, g3⟩
/-- Where a Group began, an event of it stands. -/
def FstOk (dss : List (List Dd)) (i : Nat) (out : List Ev) (f : List Int) : Prop :=
  f.length = 10 ∧ ∀ g : Nat, 0 < g → g < 10 → f.getD g 0 = 0 ∨ ∃ (c k' : Nat) (rd' : Bool) (pl' vl' : Int), f.getD g 0 = (c : Int) ∧ out[c]? = some ((i : Int), (k' : Int), rd', pl', vl', (c : Int)) ∧ k' < (dss.getD i []).length ∧ ((dss.getD i []).getD k' zD).2.2.2 = (g : Int)
theorem getD_setE (o : List Int) (g : Nat) (x : Int) (j : Nat) (hg : g < o.length) : (o.set g x).getD j 0 = if g = j then x else o.getD j 0 := by
  rw [List.getD_eq_getElem?_getD, List.getElem?_set]
  by_cases e : g = j
  · subst e; rw [if_pos rfl, if_pos hg, if_pos rfl]; rfl
  · rw [if_neg e, if_neg e, List.getD_eq_getElem?_getD]
/-- The first event of a deed stands at the end of what was there, with its class. -/
theorem oneE_first (i k : Nat) (d : Dd) (c : Int) (h4 : d.1 ≠ 4) : ∃ rd vl, (oneE i k d c)[0]? = some ((i : Int), (k : Int), rd, d.2.1, vl, c) ∧ (rd = true → vl = 0) ∧ (rd = false → vl = d.2.2.1) := by
  unfold oneE
  rw [if_neg h4]
  split
  · exact ⟨true, 0, rfl, by simp, by simp⟩
  · split
    · exact ⟨false, d.2.2.1, rfl, by simp, by simp⟩
    · exact ⟨true, 0, rfl, by simp, by simp⟩
theorem step_good {dss : List (List Dd)} {i k : Nat} {out : List Ev} {f : List Int} (hi : i < dss.length) (hk : k < (dss.getD i []).length) (hok : okD ((dss.getD i []).getD k zD) = true)
    (hG : ∀ j, 3 ≤ j → j < out.length → GoodE dss out j) (hF : FstOk dss i out f) :
    (∀ j, 3 ≤ j → j < (stepE i k ((dss.getD i []).getD k zD) (out, f)).1.length → GoodE dss (stepE i k ((dss.getD i []).getD k zD) (out, f)).1 j) ∧ FstOk dss i (stepE i k ((dss.getD i []).getD k zD) (out, f)).1 (stepE i k ((dss.getD i []).getD k zD) (out, f)).2 := by
  obtain ⟨d, hd⟩ : ∃ d, d = (dss.getD i []).getD k zD := ⟨_, rfl⟩
  rw [← hd] at hok ⊢
  by_cases h4 : d.1 = 4
  · rw [stepE, if_pos h4]; exact ⟨hG, hF⟩
  rw [stepE, if_neg h4]
  dsimp only
  obtain ⟨r0, r1, r2, r3, r4⟩ := okD_restE hok
  obtain ⟨g, hg⟩ := Int.eq_ofNat_of_zero_le r2
  obtain ⟨hl, hf⟩ := hF
  -- the class: an event with it stands there
  have hcls : ∃ (c k' : Nat) (rd' : Bool) (pl' vl' : Int), clsE d.2.2.2 out.length f = (c : Int) ∧ c ≤ out.length ∧ (out ++ oneE i k d (clsE d.2.2.2 out.length f))[c]? = some ((i : Int), (k' : Int), rd', pl', vl', (c : Int)) ∧ k' < (dss.getD i []).length ∧
      (c ≠ out.length → d.2.2.2 ≠ 0 ∧ ((dss.getD i []).getD k' zD).2.2.2 = d.2.2.2) ∧ (c = out.length → k' = k) := by
    obtain ⟨rd, vl, ho, _, _⟩ := oneE_first i k d (clsE d.2.2.2 out.length f) h4
    have new : clsE d.2.2.2 out.length f = (out.length : Int) → (out ++ oneE i k d (clsE d.2.2.2 out.length f))[out.length]? = some ((i : Int), (k : Int), rd, d.2.1, vl, ((out.length : Nat) : Int)) := fun e => by
      rw [List.getElem?_append_right (Nat.le_refl _), Nat.sub_self, ho, e]
    by_cases hg0 : g = 0
    · have e : clsE d.2.2.2 out.length f = (out.length : Int) := by unfold clsE; rw [hg, if_neg (by omega)]
      exact ⟨out.length, k, rd, d.2.1, vl, e, Nat.le_refl _, new e, hk, fun h => absurd rfl h, fun _ => rfl⟩
    · have gp : (0 : Int) < d.2.2.2 := by rw [hg]; omega
      have g10 : g < 10 := by rw [hg] at r3; omega
      rcases hf g (by omega) g10 with h0 | ⟨c, k', rd', pl', vl', e1, e2, e3, e4⟩
      · have e : clsE d.2.2.2 out.length f = (out.length : Int) := by
          unfold clsE fstE
          rw [if_pos gp, hg, Int.toNat_natCast, if_pos ⟨by omega, h0⟩, getD_setE f g _ g (by omega), if_pos rfl]
        exact ⟨out.length, k, rd, d.2.1, vl, e, Nat.le_refl _, new e, hk, fun h => absurd rfl h, fun _ => rfl⟩
      · have cl : c < out.length := (List.getElem?_eq_some_iff.1 e2).1
        by_cases hc0 : (c : Int) = 0
        · have e : clsE d.2.2.2 out.length f = (out.length : Int) := by
            unfold clsE fstE
            rw [if_pos gp, hg, Int.toNat_natCast, if_pos ⟨by omega, by rw [e1]; exact hc0⟩, getD_setE f g _ g (by omega), if_pos rfl]
          exact ⟨out.length, k, rd, d.2.1, vl, e, Nat.le_refl _, new e, hk, fun h => absurd rfl h, fun _ => rfl⟩
        · have e : clsE d.2.2.2 out.length f = (c : Int) := by
            unfold clsE fstE
            rw [if_pos gp, hg, Int.toNat_natCast, if_neg (by rw [e1]; omega), e1]
          exact ⟨c, k', rd', pl', vl', e, by omega, at_left _ e2, e3, fun _ => ⟨by omega, by rw [e4, hg]⟩, fun h => by omega⟩
  obtain ⟨c, k', rd', pl', vl', hc, hcl, hce, hk', hcg, hcn⟩ := hcls
  rw [hc] at hce ⊢
  refine ⟨fun j hj3 hj => ?_, ?_⟩
  · by_cases hold : j < out.length
    · exact (hG j hj3 hold).more _
    · have e1 : (out ++ oneE i k d (c : Int))[j]? = (oneE i k d (c : Int))[j - out.length]? := List.getElem?_append_right (by omega)
      have hjl : j - out.length < (oneE i k d (c : Int)).length := by rw [List.length_append] at hj; omega
      have form : ∃ rd vl, (oneE i k d (c : Int))[j - out.length]? = some ((i : Int), (k : Int), rd, d.2.1, vl, (c : Int)) ∧ (rd = true → vl = 0) ∧ (rd = false → vl = d.2.2.1) ∧ (j ≠ out.length → d.1 = 3) := by
        by_cases hz : j - out.length = 0
        · obtain ⟨rd, vl, ho, h5, h6⟩ := oneE_first i k d (c : Int) h4
          exact ⟨rd, vl, by rw [hz]; exact ho, h5, h6, fun h => by omega⟩
        · unfold oneE at hjl ⊢
          rw [if_neg h4] at hjl ⊢
          split at hjl
          · rename_i h3
            rw [if_pos h3]
            have : j - out.length = 1 := by simp at hjl; omega
            rw [this]
            exact ⟨false, d.2.2.1, rfl, by simp, by simp, fun _ => h3⟩
          · split at hjl
            · simp at hjl; omega
            · simp at hjl; omega
      obtain ⟨rd, vl, h1, h5, h6, h7⟩ := form
      refine ⟨i, k, c, rd, vl, by rw [e1, ← hd]; exact h1, hi, hk, h5, by rw [← hd]; exact h6, by omega, k', rd', pl', vl', hce, hk', fun hcj h3 => ?_⟩
      rw [← hd] at h3 ⊢
      have : j = out.length := by
        apply Classical.byContradiction
        intro hne
        exact h3 (h7 hne)
      exact hcg (by omega)
  · refine ⟨by unfold fstE; split <;> simp [hl], fun q hq0 hq => ?_⟩
    have keepOld : f.getD q 0 = 0 ∨ ∃ (c' k'' : Nat) (rd'' : Bool) (pl'' vl'' : Int), f.getD q 0 = (c' : Int) ∧ (out ++ oneE i k d (c : Int))[c']? = some ((i : Int), (k'' : Int), rd'', pl'', vl'', (c' : Int)) ∧ k'' < (dss.getD i []).length ∧ ((dss.getD i []).getD k'' zD).2.2.2 = (q : Int) := by
      rcases hf q hq0 hq with h0 | ⟨c', k'', rd'', pl'', vl'', e1, e2, e3, e4⟩
      · exact .inl h0
      · exact .inr ⟨c', k'', rd'', pl'', vl'', e1, at_left _ e2, e3, e4⟩
    unfold fstE
    split
    · rename_i hcond
      rw [hg, Int.toNat_natCast] at hcond ⊢
      rw [getD_setE f g _ q (by rw [hg] at r3; omega)]
      by_cases e : g = q
      · subst e
        rw [if_pos rfl]
        right
        have ec : c = out.length := by
          have : clsE d.2.2.2 out.length f = (out.length : Int) := by
            unfold clsE fstE
            rw [if_pos (by rw [hg]; exact hcond.1), hg, Int.toNat_natCast, if_pos hcond, getD_setE f g _ g (by rw [hg] at r3; omega), if_pos rfl]
          omega
        have ek := hcn ec
        subst ek
        refine ⟨out.length, k', rd', pl', vl', rfl, ?_, hk', by rw [← hd, hg]⟩
        rw [ec] at hce
        rw [ec]
        exact hce
      · rw [if_neg e]; exact keepOld
    · exact keepOld
theorem clk_good {dss : List (List Dd)} {i : Nat} {out : List Ev} (hi : i < dss.length) (hok : ∀ j, j < (dss.getD i []).length → okD ((dss.getD i []).getD j zD) = true) (hG : ∀ j, 3 ≤ j → j < out.length → GoodE dss out j) :
    ∀ k : Nat, k ≤ (dss.getD i []).length → (∃ t, (clkE i (dss.getD i []) out k).1 = out ++ t) ∧ (∀ j, 3 ≤ j → j < (clkE i (dss.getD i []) out k).1.length → GoodE dss (clkE i (dss.getD i []) out k).1 j) ∧ FstOk dss i (clkE i (dss.getD i []) out k).1 (clkE i (dss.getD i []) out k).2
  | 0, _ => ⟨⟨[], by simp [clkE]⟩, hG, by simp [clkE], fun g _ hg => .inl (by simp only [clkE]; rw [List.getD_eq_getElem?_getD, List.getElem?_replicate, if_pos hg]; rfl)⟩
  | k + 1, h => by
    obtain ⟨⟨t, ht⟩, h2, h3⟩ := clk_good hi hok hG k (by omega)
    have := step_good (k := k) hi (by omega) (hok k (by omega)) h2 h3
    refine ⟨?_, this⟩
    rw [clkE, stepE]
    split
    · exact ⟨t, ht⟩
    · exact ⟨t ++ oneE i k ((dss.getD i []).getD k zD) (clsE ((dss.getD i []).getD k zD).2.2.2 (clkE i (dss.getD i []) out k).1.length (clkE i (dss.getD i []) out k).2), by simp only; rw [ht, List.append_assoc]⟩
/-- All events are as the law asks. -/
theorem evs_good {dss : List (List Dd)} (hok : ∀ i, i < dss.length → okL (dss.getD i []) = true) : ∀ n : Nat, n ≤ dss.length → (∃ t, evsW dss n = evBeg ++ t) ∧ ∀ j, 3 ≤ j → j < (evsW dss n).length → GoodE dss (evsW dss n) j
  | 0, _ => ⟨⟨[], by simp [evsW]⟩, fun j h1 h2 => by simp [evsW, evBeg] at h2; omega⟩
  | n + 1, h => by
    obtain ⟨⟨t, ht⟩, h2⟩ := evs_good hok n (by omega)
    have hn := hok n (by omega)
    simp only [okL, Bool.and_eq_true, decide_eq_true_eq] at hn
    obtain ⟨⟨t2, ht2⟩, h3, _⟩ := clk_good (i := n) (out := evsW dss n) (by omega) (fun j hj => all_get zD hn.1 j hj) h2 (dss.getD n []).length (Nat.le_refl _)
    rw [evsW]
    exact ⟨⟨t ++ t2, by rw [ht2, ht, List.append_assoc]⟩, h3⟩
end Go.Proofs.Ytkdebpfdiblliaa

/- Plain mathematics of events: their numbers by a test, rising; each one is a read or a write to one of three places. -/
namespace Go.Proofs.Ytkdebpfdiblliaa

def rdE (e : Ev) : Bool := e.2.2.1
def toE (p : Int) (e : Ev) : Bool := !e.2.2.1 && (e.2.2.2.1 == p)
/-- The numbers of those of the first k that pass the test. -/
def idxK (f : Ev → Bool) (l : List Ev) : Nat → List Int
  | 0 => []
  | k + 1 => if f (l.getD k zE) = true then idxK f l k ++ [(k : Int)] else idxK f l k
def idxB (f : Ev → Bool) (l : List Ev) : List Int := if l.length ≤ 12 then idxK f l l.length else []
def clsB (l : List Ev) : List Int := if l.length ≤ 12 then l.map csE else []
theorem idxK_len (f : Ev → Bool) (l : List Ev) : ∀ k : Nat, (idxK f l k).length ≤ k
  | 0 => by simp [idxK]
  | k + 1 => by
    have ih := idxK_len f l k
    rw [idxK]
    split
    · simp; omega
    · omega
theorem idxK_lt (f : Ev → Bool) (l : List Ev) : ∀ (k : Nat) (x : Int), x ∈ idxK f l k → 0 ≤ x ∧ x < (k : Int)
  | 0, x, h => by simp [idxK] at h
  | k + 1, x, h => by
    rw [idxK] at h
    split at h
    · rcases List.mem_append.1 h with h | h
      · have := idxK_lt f l k x h; omega
      · simp at h; omega
    · have := idxK_lt f l k x h; omega
theorem idxK_rises (f : Ev → Bool) (l : List Ev) : ∀ k : Nat, (idxK f l k).Pairwise (· < ·)
  | 0 => by simp [idxK]
  | k + 1 => by
    have ih := idxK_rises f l k
    rw [idxK]
    split
    · rw [List.pairwise_append]
      refine ⟨ih, by simp, fun a ha b hb => ?_⟩
      simp at hb
      have := idxK_lt f l k a ha
      omega
    · exact ih
theorem idxK_pre (f : Ev → Bool) (l : List Ev) (k : Nat) : ∀ n : Nat, k ≤ n → ∃ t, idxK f l n = idxK f l k ++ t
  | 0, h => by
    obtain rfl : k = 0 := by omega
    exact ⟨[], by simp⟩
  | n + 1, h => by
    by_cases e : k = n + 1
    · subst e; exact ⟨[], by simp⟩
    · obtain ⟨t, ht⟩ := idxK_pre f l k n (by omega)
      rw [idxK]
      split
      · exact ⟨t ++ [(n : Int)], by rw [ht, List.append_assoc]⟩
      · exact ⟨t, ht⟩
/-- Each is a read or a write to one of the three places. -/
theorem idx_sum {l : List Ev} : ∀ k : Nat, (∀ j, j < k → 0 ≤ (l.getD j zE).2.2.2.1 ∧ (l.getD j zE).2.2.2.1 ≤ 2) → (idxK rdE l k).length + (idxK (toE 0) l k).length + (idxK (toE 1) l k).length + (idxK (toE 2) l k).length = k
  | 0, _ => by simp [idxK]
  | k + 1, h => by
    have ih := idx_sum (l := l) k (fun j hj => h j (by omega))
    have hp := h k (by omega)
    obtain ⟨e, he⟩ : ∃ e, e = l.getD k zE := ⟨_, rfl⟩
    rw [← he] at hp
    simp only [idxK, ← he]
    clear he
    obtain ⟨a, b, r, p, v, c⟩ := e
    simp only at hp
    cases r
    · have hr : rdE (a, b, false, p, v, c) = false := rfl
      have : p = 0 ∨ p = 1 ∨ p = 2 := by omega
      rcases this with rfl | rfl | rfl
      · have t0 : toE 0 (a, b, false, 0, v, c) = true := rfl
        have t1 : toE 1 (a, b, false, 0, v, c) = false := rfl
        have t2 : toE 2 (a, b, false, 0, v, c) = false := rfl
        simp only [hr, t0, t1, t2, if_true, Bool.false_eq_true, if_false, List.length_append, List.length_cons, List.length_nil]
        omega
      · have t0 : toE 0 (a, b, false, 1, v, c) = false := rfl
        have t1 : toE 1 (a, b, false, 1, v, c) = true := rfl
        have t2 : toE 2 (a, b, false, 1, v, c) = false := rfl
        simp only [hr, t0, t1, t2, if_true, Bool.false_eq_true, if_false, List.length_append, List.length_cons, List.length_nil]
        omega
      · have t0 : toE 0 (a, b, false, 2, v, c) = false := rfl
        have t1 : toE 1 (a, b, false, 2, v, c) = false := rfl
        have t2 : toE 2 (a, b, false, 2, v, c) = true := rfl
        simp only [hr, t0, t1, t2, if_true, Bool.false_eq_true, if_false, List.length_append, List.length_cons, List.length_nil]
        omega
    · have hr : rdE (a, b, true, p, v, c) = true := rfl
      have t : ∀ q, toE q (a, b, true, p, v, c) = false := fun _ => rfl
      simp only [hr, t, if_true, Bool.false_eq_true, if_false, List.length_append, List.length_cons, List.length_nil]
      omega
theorem beg_get {l t : List Ev} (h : l = evBeg ++ t) : l.getD 0 zE = (-1, -1, false, 0, 0, 0) ∧ l.getD 1 zE = (-1, -1, false, 1, 0, 1) ∧ l.getD 2 zE = (-1, -1, false, 2, 0, 2) := by
  subst h
  exact ⟨rfl, rfl, rfl⟩
theorem idx_first {l t : List Ev} (h : l = evBeg ++ t) (p : Nat) (hp : p < 3) : ∃ r, idxK (toE (p : Int)) l l.length = (p : Int) :: r := by
  obtain ⟨h0, h1, h2⟩ := beg_get h
  have hl : 3 ≤ l.length := by rw [h]; simp [evBeg]
  obtain ⟨r, hr⟩ := idxK_pre (toE (p : Int)) l 3 l.length hl
  have e : ∃ q, idxK (toE (p : Int)) l 3 = (p : Int) :: q := by
    have : p = 0 ∨ p = 1 ∨ p = 2 := by omega
    simp only [idxK, h0, h1, h2, toE]
    rcases this with rfl | rfl | rfl
    · exact ⟨[], by simp⟩
    · exact ⟨[], by simp⟩
    · exact ⟨[], by simp⟩
  obtain ⟨q, hq⟩ := e
  exact ⟨q ++ r, by rw [hr, hq]; rfl⟩
theorem good_place {dss : List (List Dd)} {out : List Ev} {j : Nat} (hok : ∀ i, i < dss.length → okL (dss.getD i []) = true) (h : GoodE dss out j) : 0 ≤ (out.getD j zE).2.2.2.1 ∧ (out.getD j zE).2.2.2.1 ≤ 2 := by
  obtain ⟨i, k, c, rd, vl, h1, h2, h3, _⟩ := h
  have hi := hok i h2
  simp only [okL, Bool.and_eq_true, decide_eq_true_eq] at hi
  have := okD_restE (all_get zD hi.1 k h3)
  rw [List.getD_eq_getElem?_getD, h1]
  exact ⟨this.1, this.2.1⟩
/-- All that the law on events asks of a work, in numbers. -/
theorem events_law {dss : List (List Dd)} (h : workB dss = true) : (evsW dss dss.length).length ≤ 12 ∧ ((evsW dss dss.length).length : Int) = 3 + evW dss dss.length ∧
    (idxK rdE (evsW dss dss.length) (evsW dss dss.length).length).length + (idxK (toE 0) (evsW dss dss.length) (evsW dss dss.length).length).length + (idxK (toE 1) (evsW dss dss.length) (evsW dss dss.length).length).length + (idxK (toE 2) (evsW dss dss.length) (evsW dss dss.length).length).length = (evsW dss dss.length).length ∧
    (∀ p : Nat, p < 3 → ∃ r, idxK (toE (p : Int)) (evsW dss dss.length) (evsW dss dss.length).length = (p : Int) :: r) ∧ ∀ j, 3 ≤ j → j < (evsW dss dss.length).length → GoodE dss (evsW dss dss.length) j := by
  simp only [workB, Bool.and_eq_true, decide_eq_true_eq] at h
  obtain ⟨⟨⟨⟨h1, h2⟩, h3⟩, h4⟩, _⟩ := h
  have hok : ∀ i, i < dss.length → okL (dss.getD i []) = true := fun i hi => all_get [] h2 i hi
  have hl := evsW_len hok dss.length (Nat.le_refl _)
  obtain ⟨⟨t, ht⟩, hg⟩ := evs_good hok dss.length (Nat.le_refl _)
  refine ⟨by omega, hl, idx_sum _ (fun j hj => ?_), fun p hp => idx_first ht p hp, hg⟩
  by_cases hj3 : 3 ≤ j
  · exact good_place hok (hg j hj3 hj)
  · obtain ⟨b0, b1, b2⟩ := beg_get ht
    have : j = 0 ∨ j = 1 ∨ j = 2 := by omega
    rcases this with rfl | rfl | rfl
    · rw [b0]; decide
    · rw [b1]; decide
    · rw [b2]; decide
end Go.Proofs.Ytkdebpfdiblliaa

/- Plain mathematics of sources: for each read the writes that it may be from. -/
namespace Go.Proofs.Ytkdebpfdiblliaa

/-- The place of the event with that number. -/
def plE (es : List Ev) (r : Int) : Int := (es.getD r.toNat zE).2.2.2.1
def chcK (es : List Ev) (rs : List Int) : Nat → List (List Int)
  | 0 => []
  | k + 1 => chcK es rs k ++ [idxB (toE (plE es (rs.getD k 0))) es]
/-- For each read the writes that it may be from. -/
def chcL (es : List Ev) : List (List Int) := chcK es (idxB rdE es) (idxB rdE es).length
theorem chcK_len (es : List Ev) (rs : List Int) : ∀ k : Nat, (chcK es rs k).length = k
  | 0 => rfl
  | k + 1 => by rw [chcK, List.length_append, chcK_len es rs k]; rfl
theorem chcK_get (es : List Ev) (rs : List Int) : ∀ (k i : Nat), i < k → (chcK es rs k).getD i [] = idxB (toE (plE es (rs.getD i 0))) es
  | 0, i, h => by omega
  | k + 1, i, h => by
    rw [chcK]
    by_cases hi : i < k
    · rw [List.getD_eq_getElem?_getD, List.getElem?_append_left (by rw [chcK_len]; exact hi), ← List.getD_eq_getElem?_getD, chcK_get es rs k i hi]
    · obtain rfl : i = k := by omega
      rw [List.getD_eq_getElem?_getD, List.getElem?_append_right (by rw [chcK_len]; exact Nat.le_refl _), chcK_len]
      simp
/-- Is n in the list? -/
def isB (l : List Int) (n : Int) : Bool := l.any (· == n)
/-- Are the first k of the list from what they may be from? -/
def srcK (c : List (List Int)) (from' : List Int) : Nat → Bool
  | 0 => true
  | k + 1 => srcK c from' k && isB (c.getD k []) (from'.getD k 0)
def srcB (c : List (List Int)) (from' : List Int) : Bool := decide (c.length = from'.length) && srcK c from' c.length
def sourceB (dss : List (List Dd)) (from' : List Int) : Bool := workB dss && srcB (chcL (eventsB dss)) from'
theorem srcK_false {c : List (List Int)} {f : List Int} {k : Nat} (h : srcK c f k = false) : ∀ n : Nat, k ≤ n → srcK c f n = false
  | 0, hn => by
    obtain rfl : k = 0 := by omega
    exact h
  | n + 1, hn => by
    by_cases e : k = n + 1
    · rw [← e]; exact h
    · rw [srcK, srcK_false h n (by omega)]; rfl
theorem srcK_iff {c : List (List Int)} {f : List Int} : ∀ k : Nat, srcK c f k = true ↔ ∀ i, i < k → isB (c.getD i []) (f.getD i 0) = true
  | 0 => by simp [srcK]
  | k + 1 => by
    rw [srcK, Bool.and_eq_true, srcK_iff k]
    constructor
    · rintro ⟨h1, h2⟩ i hi
      by_cases e : i = k
      · subst e; exact h2
      · exact h1 i (by omega)
    · intro h
      exact ⟨fun i hi => h i (by omega), h k (by omega)⟩
/-- How many there are. -/
def cntK (c : List (List Int)) : Nat → Int
  | 0 => 1
  | k + 1 => cntK c k * (c.getD k []).length
/-- The n-th of all: the last one's write changes first. What is left to be told, and the list, once k of them (from the end) are told. -/
def atK (c : List (List Int)) (n : Int) : Nat → Int × List Int
  | 0 => (n, [])
  | k + 1 =>
    let s := atK c n k
    let l := c.getD (c.length - 1 - k) []
    (s.1 / l.length, (l.getD (s.1 % l.length).toNat 0) :: s.2)
def atL (c : List (List Int)) (n : Int) : List Int := (atK c n c.length).2
theorem atK_len (c : List (List Int)) (n : Int) : ∀ k : Nat, (atK c n k).2.length = k
  | 0 => rfl
  | k + 1 => by simp only [atK, List.length_cons, atK_len c n k]
end Go.Proofs.Ytkdebpfdiblliaa

/- Plain mathematics of rows: factorials; the n-th order of a list; the orders of the writes at each place. -/
namespace Go.Proofs.Ytkdebpfdiblliaa

def fac : Nat → Int
  | 0 => 1
  | n + 1 => fac n * ((n : Int) + 1)
theorem fac_pos : ∀ n : Nat, 0 < fac n
  | 0 => by decide
  | n + 1 => Int.mul_pos (fac_pos n) (by omega)
theorem fac_top {n : Nat} (h : n ≤ 12) : fac n ≤ 479001600 := by
  have : ∀ j : Nat, j ≤ 12 → fac j ≤ 479001600 := by decide +kernel
  exact this n h
/-- The n-th order of a list: its next one, then the n-th order of what is left. -/
def ordL : Nat → List Int → Int → List Int
  | 0, _, _ => []
  | m + 1, l, n => l.getD (n / fac m).toNat 0 :: ordL m (l.eraseIdx (n / fac m).toNat) (n % fac m)
theorem ordL_len : ∀ (m : Nat) (l : List Int) (n : Int), (ordL m l n).length = m
  | 0, _, _ => rfl
  | m + 1, l, n => by rw [ordL, List.length_cons, ordL_len m]
/-- Which one is next. -/
theorem ord_next {m : Nat} {n : Int} (h0 : 0 ≤ n) (h1 : n < fac (m + 1)) : 0 ≤ n / fac m ∧ n / fac m < (m : Int) + 1 ∧ 0 ≤ n % fac m ∧ n % fac m < fac m := by
  have hp := fac_pos m
  refine ⟨Int.ediv_nonneg h0 (by omega), ?_, Int.emod_nonneg _ (by omega), Int.emod_lt_of_pos _ hp⟩
  refine Int.ediv_lt_of_lt_mul hp ?_
  rw [fac, Int.mul_comm] at h1
  exact h1
theorem erase_len {l : List Int} {k m : Nat} (hl : l.length = m + 1) (hk : k < m + 1) : (l.eraseIdx k).length = m := by
  rw [List.length_eraseIdx, if_pos (by omega)]; omega
theorem erase_perm : ∀ {l : List Int} {k : Nat}, k < l.length → (l.getD k 0 :: l.eraseIdx k).Perm l
  | [], k, h => by simp at h
  | x :: r, 0, _ => by simp
  | x :: r, k + 1, h => by
    have ih := erase_perm (l := r) (k := k) (by simpa using h)
    rw [List.eraseIdx_cons_succ, List.getD_cons_succ]
    exact (List.Perm.swap x _ _).trans (List.Perm.cons x ih)
theorem ord_perm : ∀ {m : Nat} {l : List Int} {n : Int}, l.length = m → 0 ≤ n → n < fac m → (ordL m l n).Perm l
  | 0, l, n, hl, _, _ => by
    have : l = [] := List.eq_nil_of_length_eq_zero hl
    subst this
    exact List.Perm.refl _
  | m + 1, l, n, hl, h0, h1 => by
    obtain ⟨k0, k1, n0, n1⟩ := ord_next h0 h1
    have hk : (n / fac m).toNat < m + 1 := by omega
    rw [ordL]
    exact (List.Perm.cons _ (ord_perm (erase_len hl hk) n0 n1)).trans (erase_perm (by omega))
theorem nodup_get {l : List Int} (hn : l.Nodup) {p q : Nat} (hp : p < l.length) (hq : q < l.length) (e : l.getD p 0 = l.getD q 0) : p = q := by
  rw [List.getD_eq_getElem?_getD, List.getElem?_eq_getElem hp, List.getD_eq_getElem?_getD, List.getElem?_eq_getElem hq] at e
  exact (List.getElem_inj hn).1 e
theorem erase_nodup {l : List Int} (hn : l.Nodup) (k : Nat) : (l.eraseIdx k).Nodup := hn.sublist (List.eraseIdx_sublist l k)
theorem ord_inj : ∀ {m : Nat} {l : List Int} {n n' : Int}, l.length = m → l.Nodup → 0 ≤ n → n < fac m → 0 ≤ n' → n' < fac m → ordL m l n = ordL m l n' → n = n'
  | 0, l, n, n', _, _, h0, h1, g0, g1, _ => by simp only [fac] at h1 g1; omega
  | m + 1, l, n, n', hl, hn, h0, h1, g0, g1, e => by
    obtain ⟨k0, k1, n0, n1⟩ := ord_next h0 h1
    obtain ⟨j0, j1, m0, m1⟩ := ord_next g0 g1
    rw [ordL, ordL, List.cons.injEq] at e
    have ek := nodup_get hn (p := (n / fac m).toNat) (q := (n' / fac m).toNat) (by omega) (by omega) e.1
    have e2 := e.2
    rw [← ek] at e2
    have ih := ord_inj (erase_len hl (by omega)) (erase_nodup hn _) n0 n1 m0 m1 e2
    have q : n / fac m = n' / fac m := by omega
    have a := Int.mul_ediv_add_emod n (fac m)
    have b := Int.mul_ediv_add_emod n' (fac m)
    rw [q, ih] at a
    omega
/-- The writes at one place, the first one foremost, the others in the n-th order. -/
def partL (l : List Int) (n : Int) : List Int := l.getD 0 0 :: ordL (l.length - 1) (l.drop 1) n
theorem part_len {l : List Int} (h : 0 < l.length) (n : Int) : (partL l n).length = l.length := by rw [partL, List.length_cons, ordL_len]; omega
theorem part_perm {l : List Int} {n : Int} (h : 0 < l.length) (h0 : 0 ≤ n) (h1 : n < fac (l.length - 1)) : (partL l n).Perm l := by
  match l, h with
  | x :: r, _ =>
    rw [partL]
    simp only [List.length_cons, Nat.add_sub_cancel, List.drop_succ_cons, List.drop_zero, List.getD_cons_zero] at h1 ⊢
    exact List.Perm.cons x (ord_perm rfl h0 h1)
theorem part_inj {l : List Int} {n n' : Int} (hn : l.Nodup) (h0 : 0 ≤ n) (h1 : n < fac (l.length - 1)) (g0 : 0 ≤ n') (g1 : n' < fac (l.length - 1)) (e : partL l n = partL l n') : n = n' := by
  rw [partL, partL, List.cons.injEq] at e
  refine ord_inj ?_ (hn.sublist (List.drop_sublist 1 l)) h0 h1 g0 g1 e.2
  rw [List.length_drop]
/-- The writes at a place. -/
def plcW (es : List Ev) (p : Nat) : List Int := idxB (toE (p : Int)) es
def rcntL (es : List Ev) : Int := fac ((plcW es 0).length - 1) * fac ((plcW es 1).length - 1) * fac ((plcW es 2).length - 1)
/-- The n-th rows. -/
def ratL (es : List Ev) (n : Int) : List Int :=
  partL (plcW es 0) (n / fac ((plcW es 2).length - 1) / fac ((plcW es 1).length - 1) % fac ((plcW es 0).length - 1)) ++ partL (plcW es 1) (n / fac ((plcW es 2).length - 1) % fac ((plcW es 1).length - 1)) ++ partL (plcW es 2) (n % fac ((plcW es 2).length - 1))
/-- Is the part of the list from 'at0' on an order of p, with i foremost? -/
def okP (rows : List Int) (at0 : Nat) (p : List Int) (i : Nat) : Bool := decide (at0 + p.length ≤ rows.length) && (rows.getD at0 0 == (i : Int)) && p.all (fun x => isB ((rows.drop at0).take p.length) x)
def rowsL (es : List Ev) (rows : List Int) : Bool :=
  okP rows 0 (plcW es 0) 0 && okP rows (plcW es 0).length (plcW es 1) 1 && okP rows ((plcW es 0).length + (plcW es 1).length) (plcW es 2) 2 && decide ((plcW es 0).length + (plcW es 1).length + (plcW es 2).length = rows.length)
/-- What the specification answers at every argument. -/
def rowsB (dss : List (List Dd)) (rows : List Int) : Bool := workB dss && rowsL (eventsB dss) rows
def rcntB (dss : List (List Dd)) : Int := if workB dss = true then rcntL (eventsB dss) else -1
def ratB (dss : List (List Dd)) (n : Int) : List Int := if 0 ≤ n ∧ n < rcntB dss then ratL (eventsB dss) n else []
end Go.Proofs.Ytkdebpfdiblliaa

/- Plain mathematics: how great the number of sources is; the list that is filled from its end; what the specification answers at every argument. -/
namespace Go.Proofs.Ytkdebpfdiblliaa

theorem cnt_bound {c : List (List Int)} (hb : ∀ i, i < c.length → (c.getD i []).length ≤ 12) : ∀ k : Nat, k ≤ c.length → 0 ≤ cntK c k ∧ cntK c k ≤ 12 ^ k
  | 0, _ => by simp [cntK]
  | k + 1, h => by
    obtain ⟨h1, h2⟩ := cnt_bound hb k (by omega)
    have h3 := hb k (by omega)
    rw [cntK]
    refine ⟨Int.mul_nonneg h1 (Int.natCast_nonneg _), ?_⟩
    rw [Int.pow_succ]
    exact Int.mul_le_mul h2 (by omega) (Int.natCast_nonneg _) (Int.le_trans h1 h2)
theorem pow_top {k : Nat} (h : k ≤ 12) : (12 : Int) ^ k ≤ 8916100448256 := by
  have : ∀ j : Nat, j ≤ 12 → (12 : Int) ^ j ≤ 8916100448256 := by decide +kernel
  exact this k h
theorem cnt_top {c : List (List Int)} (hl : c.length ≤ 12) (hb : ∀ i, i < c.length → (c.getD i []).length ≤ 12) (k : Nat) (hk : k ≤ c.length) : 0 ≤ cntK c k ∧ cntK c k ≤ 8916100448256 := by
  have h1 := cnt_bound hb k hk
  exact ⟨h1.1, Int.le_trans h1.2 (pow_top (by omega))⟩
/-- The list that is filled from its end, once k are told. -/
def atF (c : List (List Int)) (n : Int) (k : Nat) : List Int := List.replicate (c.length - k) 0 ++ (atK c n k).2
theorem atF_len (c : List (List Int)) (n : Int) (k : Nat) (h : k ≤ c.length) : (atF c n k).length = c.length := by
  unfold atF
  rw [List.length_append, List.length_replicate, atK_len]
  omega
theorem set_rep (m : Nat) (x : Int) (s : List Int) : (List.replicate (m + 1) 0 ++ s).set m x = List.replicate m 0 ++ x :: s := by
  rw [List.replicate_succ', List.append_assoc, List.set_append_right _ _ (by simp)]
  simp
theorem atF_step (c : List (List Int)) (n : Int) (k : Nat) (h : k < c.length) :
    atF c n (k + 1) = (atF c n k).set (c.length - 1 - k) ((c.getD (c.length - 1 - k) []).getD (((atK c n k).1 % (c.getD (c.length - 1 - k) []).length).toNat) 0) := by
  unfold atF
  rw [show c.length - k = (c.length - 1 - k) + 1 by omega, set_rep, show c.length - (k + 1) = c.length - 1 - k by omega]
  rfl
theorem atF_all (c : List (List Int)) (n : Int) : atF c n c.length = atL c n := by
  unfold atF atL
  rw [Nat.sub_self]
  rfl
/-- What the specification answers at every argument. -/
def cntB (dss : List (List Dd)) : Int := if workB dss = true then cntK (chcL (eventsB dss)) (chcL (eventsB dss)).length else -1
def atB (dss : List (List Dd)) (n : Int) : List Int := if 0 ≤ n ∧ n < cntB dss then atL (chcL (eventsB dss)) n else []
theorem atL_len (c : List (List Int)) (n : Int) : (atL c n).length = c.length := atK_len c n c.length
end Go.Proofs.Ytkdebpfdiblliaa

/- Sources: each n below their number tells one, and no two the same. -/
namespace Go.Proofs.Ytkdebpfdiblliaa

def sufP (c : List (List Int)) : Nat → Int
  | 0 => 1
  | k + 1 => sufP c k * (c.getD (c.length - 1 - k) []).length
theorem suf_cnt (c : List (List Int)) : ∀ k : Nat, k ≤ c.length → cntK c (c.length - k) * sufP c k = cntK c c.length
  | 0, _ => by simp [sufP]
  | k + 1, h => by
    have ih := suf_cnt c k (by omega)
    have e : c.length - k = (c.length - (k + 1)) + 1 := by omega
    have e2 : c.length - 1 - k = c.length - (k + 1) := by omega
    rw [← ih, e, cntK, sufP, e2, Int.mul_comm (sufP c k), ← Int.mul_assoc]
theorem suf_all (c : List (List Int)) : sufP c c.length = cntK c c.length := by
  have := suf_cnt c c.length (Nat.le_refl _)
  rw [Nat.sub_self, cntK, Int.one_mul] at this
  exact this
def Full (c : List (List Int)) : Prop := ∀ i, i < c.length → 0 < (c.getD i []).length
theorem at_nonneg {c : List (List Int)} {n : Int} (h0 : 0 ≤ n) : ∀ k : Nat, 0 ≤ (atK c n k).1
  | 0 => h0
  | k + 1 => by
    have ih := at_nonneg (c := c) h0 k
    simp only [atK]
    exact Int.ediv_nonneg ih (Int.natCast_nonneg _)
theorem at_bound {c : List (List Int)} (hf : Full c) {n : Int} : ∀ (k : Nat) (M : Int), k ≤ c.length → n < sufP c k * M → (atK c n k).1 < M
  | 0, M, _, h => by simpa [sufP, atK] using h
  | k + 1, M, hk, h => by
    have hl : (0 : Int) < (c.getD (c.length - 1 - k) []).length := by have := hf (c.length - 1 - k) (by omega); omega
    rw [sufP, Int.mul_assoc] at h
    have ih := at_bound hf k _ (by omega) h
    simp only [atK]
    refine Int.ediv_lt_of_lt_mul hl ?_
    rw [Int.mul_comm]
    exact ih
theorem at_end {c : List (List Int)} (hf : Full c) {n : Int} (h0 : 0 ≤ n) (h1 : n < cntK c c.length) : (atK c n c.length).1 = 0 := by
  have a := at_nonneg (c := c) h0 c.length
  have b := at_bound hf (n := n) c.length 1 (Nat.le_refl _) (by rw [suf_all, Int.mul_one]; exact h1)
  omega
theorem nodup_at {l : List Int} (hn : l.Nodup) {p q : Nat} (hp : p < l.length) (hq : q < l.length) (e : l.getD p 0 = l.getD q 0) : p = q := by
  rw [List.getD_eq_getElem?_getD, List.getElem?_eq_getElem hp, List.getD_eq_getElem?_getD, List.getElem?_eq_getElem hq] at e
  exact (List.getElem_inj hn).1 e
theorem at_same {c : List (List Int)} (hf : Full c) (hn : ∀ i, i < c.length → (c.getD i []).Nodup) {n m : Int} : ∀ k : Nat, k ≤ c.length → (atK c n k).2 = (atK c m k).2 → (atK c n k).1 = (atK c m k).1 → n = m
  | 0, _, _, h => h
  | k + 1, hk, h2, h1 => by
    simp only [atK] at h1 h2
    have hi : c.length - 1 - k < c.length := by omega
    have hl := hf _ hi
    have hnn := hn _ hi
    generalize c.getD (c.length - 1 - k) [] = l at h1 h2 hl hnn
    have hL : (0 : Int) < (l.length : Int) := by omega
    rw [List.cons.injEq] at h2
    have a1 := Int.emod_nonneg (atK c n k).1 (show (l.length : Int) ≠ 0 by omega)
    have a2 := Int.emod_lt_of_pos (atK c n k).1 hL
    have b1 := Int.emod_nonneg (atK c m k).1 (show (l.length : Int) ≠ 0 by omega)
    have b2 := Int.emod_lt_of_pos (atK c m k).1 hL
    have e := nodup_at hnn (by omega) (by omega) h2.1
    have e' : (atK c n k).1 % (l.length : Int) = (atK c m k).1 % (l.length : Int) := by omega
    refine at_same hf hn k (by omega) h2.2 ?_
    have x := Int.emod_add_mul_ediv (atK c n k).1 (l.length : Int)
    have y := Int.emod_add_mul_ediv (atK c m k).1 (l.length : Int)
    rw [h1, e'] at x
    exact x.symm.trans y
theorem at_one' {c : List (List Int)} (hf : Full c) (hn : ∀ i, i < c.length → (c.getD i []).Nodup) {n m : Int} (h0 : 0 ≤ n) (h1 : n < cntK c c.length) (g0 : 0 ≤ m) (g1 : m < cntK c c.length) : atL c n = atL c m ↔ n = m :=
  ⟨fun h => at_same hf hn c.length (Nat.le_refl _) h (by rw [at_end hf h0 h1, at_end hf g0 g1]), fun h => by rw [h]⟩
theorem is_get {l : List Int} {p : Nat} (hp : p < l.length) : isB l (l.getD p 0) = true := by
  unfold isB
  rw [List.any_eq_true]
  refine ⟨l.getD p 0, ?_, by simp⟩
  rw [List.getD_eq_getElem?_getD, List.getElem?_eq_getElem hp]
  exact List.getElem_mem hp
/-- The j-th of those told last is one of its choices. -/
theorem at_each {c : List (List Int)} (hf : Full c) {n : Int} : ∀ (k : Nat), k ≤ c.length → ∀ j, j < k → isB (c.getD (c.length - k + j) []) ((atK c n k).2.getD j 0) = true
  | 0, _, j, hj => by omega
  | k + 1, hk, j, hj => by
    simp only [atK]
    cases j with
    | zero =>
      rw [List.getD_cons_zero, Nat.add_zero, show c.length - (k + 1) = c.length - 1 - k by omega]
      have hl := hf (c.length - 1 - k) (by omega)
      have a1 := Int.emod_nonneg (atK c n k).1 (show ((c.getD (c.length - 1 - k) []).length : Int) ≠ 0 by omega)
      have a2 := Int.emod_lt_of_pos (atK c n k).1 (show (0 : Int) < ((c.getD (c.length - 1 - k) []).length : Int) by omega)
      exact is_get (by omega)
    | succ j =>
      rw [List.getD_cons_succ, show c.length - (k + 1) + (j + 1) = c.length - k + j by omega]
      exact at_each hf k (by omega) j (by omega)
theorem at_src {c : List (List Int)} (hf : Full c) (n : Int) : srcB c (atL c n) = true := by
  unfold srcB
  rw [Bool.and_eq_true, decide_eq_true_eq]
  refine ⟨(atK_len c n c.length).symm, ?_⟩
  rw [srcK_iff]
  intro i hi
  have := at_each hf (n := n) c.length (Nat.le_refl _) i hi
  rw [Nat.sub_self, Nat.zero_add] at this
  exact this
theorem place_in {dss : List (List Dd)} (h : workB dss = true) (j : Nat) (hj : j < (evsW dss dss.length).length) : 0 ≤ ((evsW dss dss.length).getD j zE).2.2.2.1 ∧ ((evsW dss dss.length).getD j zE).2.2.2.1 ≤ 2 := by
  simp only [workB, Bool.and_eq_true, decide_eq_true_eq] at h
  obtain ⟨⟨⟨⟨_, h2⟩, _⟩, _⟩, _⟩ := h
  have hok : ∀ i, i < dss.length → okL (dss.getD i []) = true := fun i hi => all_get [] h2 i hi
  obtain ⟨⟨t, ht⟩, hg⟩ := evs_good hok dss.length (Nat.le_refl _)
  by_cases hj3 : 3 ≤ j
  · exact good_place hok (hg j hj3 hj)
  · obtain ⟨b0, b1, b2⟩ := beg_get ht
    have : j = 0 ∨ j = 1 ∨ j = 2 := by omega
    rcases this with rfl | rfl | rfl
    · rw [b0]; decide
    · rw [b1]; decide
    · rw [b2]; decide
/-- Of a right work each read has some write that it may be from, and none twice. -/
theorem chc_full {dss : List (List Dd)} (hw : workB dss = true) : Full (chcL (eventsB dss)) ∧ ∀ i, i < (chcL (eventsB dss)).length → ((chcL (eventsB dss)).getD i []).Nodup := by
  have e1 : eventsB dss = evsW dss dss.length := by rw [eventsB, if_pos hw]
  obtain ⟨h12, _, _, h4, hG⟩ := events_law hw
  rw [e1]
  have e3 : ∀ f, idxB f (evsW dss dss.length) = idxK f (evsW dss dss.length) (evsW dss dss.length).length := fun f => by unfold idxB; rw [if_pos h12]
  refine ⟨fun i hi => ?_, fun i hi => ?_⟩
  · unfold chcL at hi ⊢
    rw [chcK_len] at hi
    rw [chcK_get _ _ _ _ hi]
    -- the place of that read is one of three
    have hp : ∃ p : Nat, p < 3 ∧ plE (evsW dss dss.length) ((idxB rdE (evsW dss dss.length)).getD i 0) = (p : Int) := by
      have hm : (idxB rdE (evsW dss dss.length)).getD i 0 ∈ idxB rdE (evsW dss dss.length) := by
        rw [List.getD_eq_getElem?_getD, List.getElem?_eq_getElem hi]
        exact List.getElem_mem hi
      have hb : 0 ≤ (idxB rdE (evsW dss dss.length)).getD i 0 ∧ (idxB rdE (evsW dss dss.length)).getD i 0 < ((evsW dss dss.length).length : Int) := by
        refine idxK_lt rdE (evsW dss dss.length) _ _ ?_
        rw [e3] at hm ⊢
        exact hm
      generalize (idxB rdE (evsW dss dss.length)).getD i 0 = r at hb
      obtain ⟨j, rfl⟩ := Int.eq_ofNat_of_zero_le hb.1
      have hj : j < (evsW dss dss.length).length := by omega
      unfold plE
      rw [Int.toNat_natCast]
      have := place_in hw j hj
      obtain ⟨p, hp⟩ := Int.eq_ofNat_of_zero_le this.1
      exact ⟨p, by omega, hp⟩
    obtain ⟨p, hp3, hp⟩ := hp
    rw [hp]
    obtain ⟨r, hr⟩ := h4 p hp3
    rw [e3, hr]
    simp
  · unfold chcL at hi ⊢
    rw [chcK_len] at hi
    rw [chcK_get _ _ _ _ hi, e3]
    exact (idxK_rises _ _ _).imp (fun h => by omega)
end Go.Proofs.Ytkdebpfdiblliaa

/- Plain facts on sets as numbers: a set is gathered from its members, which rise; what is gathered from a list has just the list's numbers. -/
namespace Go.Proofs.Ytkdebpfdiblliaa
open Go.RowKit

theorem bitB_nat (a i : Nat) (ha : a < 4096) : bitB (a : Int) (i : Int) = a.testBit i := by
  unfold bitB
  have hd : a / 2 ^ i ≤ a := Nat.div_le_self _ _
  have e : ((a : Int) / 2 ^ (i : Int).toNat) = ((a / 2 ^ i : Nat) : Int) := by simp
  rw [e, show (1 : Int) = ((1 : Nat) : Int) from rfl, i64_and_nat _ _ (by omega) (by omega), Nat.and_one_is_mod, Nat.testBit_eq_decide_div_mod_eq]
  generalize a / 2 ^ i % 2 = r
  rw [Bool.eq_iff_iff, beq_iff_eq, decide_eq_true_eq]
  omega
theorem inSetB_nat (a i : Nat) (ha : a < 4096) (hi : i < 12) : inSetB (a : Int) (i : Int) = a.testBit i := by
  have h1 : inB (i : Int) 0 11 = true := by unfold inB; simp; omega
  have h2 : inB (a : Int) 0 4095 = true := by unfold inB; simp; omega
  simp [inSetB, h1, h2, bitB_nat a i ha]
theorem gAdd_nat (a i : Nat) (ha : a < 4096) (hi : i < 12) : gAdd (a : Int) (i : Int) = ((a ||| 2 ^ i : Nat) : Int) := by
  have h1 : inB (i : Int) 0 11 = true := by unfold inB; simp; omega
  rw [gAdd_ok _ _ (by omega) h1, wrap64_pow _ (by omega) (by omega)]
  have hq : (2 : Nat) ^ i < 2 ^ 12 := Nat.pow_lt_pow_right (by omega) hi
  have e : ((2 : Int) ^ (i : Int).toNat) = ((2 ^ i : Nat) : Int) := by simp
  rw [e, i64_or_nat a _ (by omega) (by omega)]
theorem or_lt (a i : Nat) (ha : a < 4096) (hi : i < 12) : a ||| 2 ^ i < 4096 := by
  have hq : (2 : Nat) ^ i < 2 ^ 12 := Nat.pow_lt_pow_right (by omega) hi
  exact Nat.or_lt_two_pow (n := 12) ha hq
theorem fold_all (l : List Int) (h : ∀ x ∈ l, inB x 0 11 = true) (a : Nat) (ha : a < 4096) :
    ∃ b : Nat, b < 4096 ∧ l.foldl gAdd (a : Int) = b ∧ ∀ k : Nat, k < 12 → b.testBit k = (a.testBit k || decide ((k : Int) ∈ l)) := by
  induction l generalizing a with
  | nil => exact ⟨a, ha, rfl, by simp⟩
  | cons x l ih =>
    have hx := h x (by simp)
    have hx' := hx
    simp only [inB, decide_eq_true_eq] at hx'
    obtain ⟨i, rfl⟩ := Int.eq_ofNat_of_zero_le hx'.1
    have hi : i < 12 := by omega
    obtain ⟨b, hb, he, hk⟩ := ih (fun y hy => h y (by simp [hy])) (a ||| 2 ^ i) (or_lt a i ha hi)
    refine ⟨b, hb, ?_, fun k hk12 => ?_⟩
    · rw [List.foldl_cons, gAdd_nat a i ha hi]; exact he
    · rw [hk k hk12, Nat.testBit_or, Nat.testBit_two_pow, Bool.or_assoc]
      congr 1
      rw [Bool.eq_iff_iff, Bool.or_eq_true, decide_eq_true_eq, decide_eq_true_eq, decide_eq_true_eq, List.mem_cons]
      constructor
      · rintro (h | h)
        · exact .inl (by omega)
        · exact .inr h
      · rintro (h | h)
        · exact .inl (by omega)
        · exact .inr h
theorem fold_neg (l : List Int) (x : Int) (hx : x ∈ l) (h : inB x 0 11 = false) (s : Int) : l.foldl gAdd s = -1 := by
  induction l generalizing s with
  | nil => simp at hx
  | cons y l ih =>
    rw [List.foldl_cons]
    rcases List.mem_cons.1 hx with rfl | hx
    · rw [gAdd_bad _ _ h]; exact foldl_none l
    · exact ih hx _
theorem gath_has (l : List Int) (h : 0 ≤ gath l) (k : Nat) (hk : k < 12) : inSetB (gath l) (k : Int) = hasB (k : Int) l := by
  have hall : ∀ x ∈ l, inB x 0 11 = true := by
    intro x hx
    cases hb : inB x 0 11 with
    | true => rfl
    | false => have := fold_neg l x hx hb 0; unfold gath at h; omega
  obtain ⟨b, hb, he, hbit⟩ := fold_all l hall 0 (by omega)
  have e : gath l = (b : Int) := he
  rw [e, inSetB_nat b k hb hk, hbit k hk]
  simp [hasB]
theorem mem_iff (s : Int) (n : Nat) (x : Int) : x ∈ mem s n ↔ ∃ k : Nat, k < n ∧ x = k ∧ inSetB s k = true := by
  induction n with
  | zero => simp [mem]
  | succ n ih =>
    unfold mem
    rw [List.mem_append, ih]
    constructor
    · rintro (⟨k, hk, rfl, h⟩ | h)
      · exact ⟨k, by omega, rfl, h⟩
      · split at h
        · rename_i hs
          simp at h
          exact ⟨n, by omega, h, hs⟩
        · simp at h
    · rintro ⟨k, hk, rfl, h⟩
      by_cases hkn : k = n
      · subst hkn; right; simp [h]
      · exact .inl ⟨k, by omega, rfl, h⟩
theorem mem_rises (s : Int) (n : Nat) : (mem s n).Pairwise (· < ·) := by
  induction n with
  | zero => simp [mem]
  | succ n ih =>
    unfold mem
    rw [List.pairwise_append]
    refine ⟨ih, by split <;> simp, fun a ha b hb => ?_⟩
    obtain ⟨k, hk, rfl, _⟩ := (mem_iff s n a).1 ha
    split at hb
    · simp at hb; omega
    · simp at hb
theorem mem_step (s : Int) (n i : Nat) (h : i + 1 < (mem s n).length) : (mem s n).getD i 0 < (mem s n).getD (i + 1) 0 := by
  have := (List.pairwise_iff_getElem.1 (mem_rises s n)) i (i + 1) (by omega) h (by omega)
  rw [List.getD_eq_getElem?_getD, List.getD_eq_getElem?_getD, List.getElem?_eq_getElem h, List.getElem?_eq_getElem (show i < (mem s n).length by omega)]
  exact this
theorem gath_mem (s : Int) (h : inB s 0 4095 = true) : gath (mem s 12) = s := by
  simp only [inB, decide_eq_true_eq] at h
  obtain ⟨a, rfl⟩ := Int.eq_ofNat_of_zero_le h.1
  have ha : a < 4096 := by omega
  have hall : ∀ x ∈ mem (a : Int) 12, inB x 0 11 = true := by
    intro x hx
    obtain ⟨k, hk, rfl, _⟩ := (mem_iff _ _ _).1 hx
    unfold inB; simp; omega
  obtain ⟨b, hb, he, hbit⟩ := fold_all _ hall 0 (by omega)
  have e : gath (mem (a : Int) 12) = (b : Int) := he
  show gath (mem (a : Int) 12) = (a : Int)
  rw [e]
  have : b = a := by
    apply Nat.eq_of_testBit_eq
    intro k
    by_cases hk : k < 12
    · rw [hbit k hk, Nat.zero_testBit, Bool.false_or]
      rw [← inSetB_nat a k ha hk, Bool.eq_iff_iff, decide_eq_true_eq, mem_iff]
      constructor
      · rintro ⟨j, hj, he, h⟩; have : j = k := by omega
        subst this; exact h
      · intro h; exact ⟨k, hk, rfl, h⟩
    · have hp : (2 : Nat) ^ 12 ≤ 2 ^ k := Nat.pow_le_pow_right (by omega) (by omega)
      rw [Nat.testBit_lt_two_pow (by omega), Nat.testBit_lt_two_pow (by omega)]
  rw [this]
end Go.Proofs.Ytkdebpfdiblliaa

/- Plain facts on webs as lists of numbers: which lists are webs, and what each function of chapter 2 answers, said by recursion; nothing of the program. -/
namespace Go.Proofs.Ytkdebpfdiblliaa
open Go.RowKit

/-- Is the list a web? -/
def webB (zs : List Int) : Bool := zs.all (okB zs.length)
/-- Are they two webs, as many? -/
def twoB (a b : List Int) : Bool := decide (a.length = b.length) && webB a && webB b
/-- Sets mixed place by place. -/
def mixL (f : Int → Int → Int) (a b : List Int) : List Int := if twoB a b = true then List.zipWith f a b else []
def orI (a b : Int) : Int := bits .or .i64 a b
def andI (a b : Int) : Int := bits .and .i64 a b
def notI (a b : Int) : Int := bits .andNot .i64 a b
/-- Where one comes by the first k, from those in x along b. -/
def thenS (x : Int) (b : List Int) : Nat → Int
  | 0 => 0
  | k + 1 => if inSetB x k = true then orI (thenS x b k) (b.getD k 0) else thenS x b k
def thenL (a b : List Int) : List Int := if twoB a b = true then a.map (fun x => thenS x b 12) else []
/-- The first k of x lead back to i. -/
def backIn (i : Nat) (x : Int) (st : List Int) : Nat → List Int
  | 0 => st
  | k + 1 => if inSetB x k = true then (backIn i x st k).set k (gAdd ((backIn i x st k).getD k 0) i) else backIn i x st k
def backAll (zs : List Int) : Nat → List Int
  | 0 => List.replicate zs.length 0
  | i + 1 => backIn i (zs.getD i 0) (backAll zs i) 12
def backL (zs : List Int) : List Int := if webB zs = true then backAll zs zs.length else []
/-- The first i may pass k. -/
def wayIn (k : Nat) (st : List Int) : Nat → List Int
  | 0 => st
  | i + 1 => if inSetB ((wayIn k st i).getD i 0) k = true then (wayIn k st i).set i (orI ((wayIn k st i).getD i 0) ((wayIn k st i).getD k 0)) else wayIn k st i
def wayAll (zs : List Int) : Nat → List Int
  | 0 => zs
  | k + 1 => wayIn k (wayAll zs k) zs.length
def waysL (zs : List Int) : List Int := if webB zs = true then wayAll zs zs.length else []

theorem getD_mem {zs : List Int} {i : Nat} (h : i < zs.length) : zs.getD i 0 ∈ zs := by
  rw [List.getD_eq_getElem?_getD, List.getElem?_eq_getElem h]; exact List.getElem_mem h
theorem webB_all {zs : List Int} (h : ∀ i, i < zs.length → okB zs.length (zs.getD i 0) = true) : webB zs = true := by
  unfold webB
  rw [List.all_eq_true]
  intro x hx
  obtain ⟨i, hi, rfl⟩ := List.getElem_of_mem hx
  have := h i hi
  rwa [List.getD_eq_getElem?_getD, List.getElem?_eq_getElem hi] at this
theorem webB_get {zs : List Int} (h : webB zs = true) {i : Nat} (hi : i < zs.length) : okB zs.length (zs.getD i 0) = true := by
  unfold webB at h
  rw [List.all_eq_true] at h
  exact h _ (getD_mem hi)
theorem webB_bad {zs : List Int} {i : Nat} (hi : i < zs.length) (h : okB zs.length (zs.getD i 0) = false) : webB zs = false := by
  cases hw : webB zs with
  | false => rfl
  | true => rw [webB_get hw hi] at h; cases h
theorem okB_iff {n s : Int} : okB n s = true ↔ (0 ≤ n ∧ n ≤ 12) ∧ 0 ≤ s ∧ s < 2 ^ n.toNat := by unfold okB; rw [decide_eq_true_eq]
theorem webB_len {zs : List Int} (h : webB zs = true) : zs.length ≤ 12 := by
  by_cases h0 : zs.length = 0
  · omega
  · have := okB_iff.1 (webB_get h (i := 0) (by omega)); omega
theorem okB_range {n s : Int} (h : okB n s = true) : 0 ≤ s ∧ s ≤ 4095 := by
  have h1 := okB_iff.1 h
  have := pow_le12 n.toNat (by omega)
  omega
theorem twoB_iff {a b : List Int} : twoB a b = true ↔ a.length = b.length ∧ webB a = true ∧ webB b = true := by
  unfold twoB; rw [Bool.and_eq_true, Bool.and_eq_true, decide_eq_true_eq, and_assoc]
theorem inSetB_bit {s : Int} {k : Nat} (h : 0 ≤ s ∧ s ≤ 4095) (hk : k < 12) : inSetB s k = bitB s k := by
  have h1 : inB (k : Int) 0 11 = true := by unfold inB; simp; omega
  have h2 : inB s 0 4095 = true := by unfold inB; simp; omega
  simp [inSetB, h1, h2]

/-! A set of n as a number with bits. -/
theorem okB_nat {n : Nat} {s : Int} (h : okB n s = true) : n ≤ 12 ∧ ∃ a : Nat, s = a ∧ a < 2 ^ n ∧ a < 4096 := by
  have h1 := okB_iff.1 h
  have h2 := okB_range h
  obtain ⟨a, rfl⟩ := Int.eq_ofNat_of_zero_le h2.1
  refine ⟨by omega, a, rfl, ?_, by omega⟩
  have := h1.2.2
  simp at this
  exact_mod_cast this
theorem okB_of_nat {n a : Nat} (hn : n ≤ 12) (ha : a < 2 ^ n) : okB n a = true := by
  rw [okB_iff]
  refine ⟨by omega, by omega, ?_⟩
  simp
  exact_mod_cast ha
theorem inSetB_iff {n : Nat} {s : Int} (h : okB n s = true) {j : Nat} (hj : inSetB s j = true) : j < n := by
  obtain ⟨hn, a, rfl, ha, h12⟩ := okB_nat h
  have hj12 : j < 12 := by
    have : inB (j : Int) 0 11 = true := by unfold inSetB at hj; simp at hj; exact hj.1.1
    unfold inB at this; simp at this; omega
  rw [inSetB_nat a j h12 hj12] at hj
  apply Classical.byContradiction
  intro hnj
  have hp : (2 : Nat) ^ n ≤ 2 ^ j := Nat.pow_le_pow_right (by omega) (by omega)
  rw [Nat.testBit_lt_two_pow (by omega)] at hj
  cases hj
theorem inSetB_far (s : Int) {j : Nat} (hj : 12 ≤ j) : inSetB s j = false := by
  have : inB (j : Int) 0 11 = false := by unfold inB; simp; omega
  simp [inSetB, this]
theorem ok_ext {n : Nat} {s t : Int} (hs : okB n s = true) (ht : okB n t = true) (h : ∀ j : Nat, j < n → inSetB s j = inSetB t j) : s = t := by
  obtain ⟨hn, a, rfl, ha, ha'⟩ := okB_nat hs
  obtain ⟨_, b, rfl, hb, hb'⟩ := okB_nat ht
  congr 1
  apply Nat.eq_of_testBit_eq
  intro j
  by_cases hj : j < n
  · have := h j hj
    rwa [inSetB_nat a j ha' (by omega), inSetB_nat b j hb' (by omega)] at this
  · have hp : (2 : Nat) ^ n ≤ 2 ^ j := Nat.pow_le_pow_right (by omega) (by omega)
    rw [Nat.testBit_lt_two_pow (by omega), Nat.testBit_lt_two_pow (by omega)]
theorem ok_zero {n : Nat} (hn : n ≤ 12) : okB n 0 = true := okB_of_nat (a := 0) hn (Nat.two_pow_pos n)
theorem zero_bit (j : Nat) : inSetB 0 j = false := by
  by_cases hj : j < 12
  · rw [show (0 : Int) = ((0 : Nat) : Int) from rfl, inSetB_nat 0 j (by omega) hj, Nat.zero_testBit]
  · exact inSetB_far _ (by omega)
theorem i64_andNot_nat (a b : Nat) (ha : a < 9223372036854775808) (hb : b < 9223372036854775808) : bits .andNot .i64 (a : Int) (b : Int) = ((a &&& (18446744073709551615 - b) : Nat) : Int) := by
  have hx : a &&& (18446744073709551615 - b) ≤ a := Nat.and_le_left
  show IntKind.i64.wrap ((BitVec.ofInt 64 (a : Int) &&& ~~~ BitVec.ofInt 64 (b : Int)).toNat : Int) = _
  rw [BitVec.toNat_and, BitVec.toNat_not, ofInt_i64 a ha, ofInt_i64 b hb, IntKind.wrap_i64, show (2 : Nat) ^ 64 - 1 - b = 18446744073709551615 - b from rfl]
  omega
theorem ok_or {n : Nat} {s t : Int} (hs : okB n s = true) (ht : okB n t = true) : okB n (orI s t) = true ∧ ∀ j : Nat, inSetB (orI s t) j = (inSetB s j || inSetB t j) := by
  obtain ⟨hn, a, rfl, ha, ha'⟩ := okB_nat hs
  obtain ⟨_, b, rfl, hb, hb'⟩ := okB_nat ht
  have e : orI (a : Int) (b : Int) = ((a ||| b : Nat) : Int) := i64_or_nat a b (by omega) (by omega)
  have hl : a ||| b < 2 ^ n := Nat.or_lt_two_pow ha hb
  have hl' : a ||| b < 4096 := Nat.or_lt_two_pow (n := 12) ha' hb'
  rw [e]
  refine ⟨okB_of_nat hn hl, fun j => ?_⟩
  by_cases hj : j < 12
  · rw [inSetB_nat _ j hl' hj, inSetB_nat _ j ha' hj, inSetB_nat _ j hb' hj, Nat.testBit_or]
  · rw [inSetB_far _ (by omega), inSetB_far _ (by omega), inSetB_far _ (by omega)]; rfl
theorem ok_and {n : Nat} {s t : Int} (hs : okB n s = true) (ht : okB n t = true) : okB n (andI s t) = true ∧ ∀ j : Nat, inSetB (andI s t) j = (inSetB s j && inSetB t j) := by
  obtain ⟨hn, a, rfl, ha, ha'⟩ := okB_nat hs
  obtain ⟨_, b, rfl, hb, hb'⟩ := okB_nat ht
  have e : andI (a : Int) (b : Int) = ((a &&& b : Nat) : Int) := i64_and_nat a b (by omega) (by omega)
  have hl : a &&& b ≤ a := Nat.and_le_left
  rw [e]
  refine ⟨okB_of_nat hn (by omega), fun j => ?_⟩
  by_cases hj : j < 12
  · rw [inSetB_nat _ j (by omega) hj, inSetB_nat _ j ha' hj, inSetB_nat _ j hb' hj, Nat.testBit_and]
  · rw [inSetB_far _ (by omega), inSetB_far _ (by omega), inSetB_far _ (by omega)]; rfl
theorem ok_not {n : Nat} {s t : Int} (hs : okB n s = true) (ht : okB n t = true) : okB n (notI s t) = true ∧ ∀ j : Nat, inSetB (notI s t) j = (inSetB s j && !inSetB t j) := by
  obtain ⟨hn, a, rfl, ha, ha'⟩ := okB_nat hs
  obtain ⟨_, b, rfl, hb, hb'⟩ := okB_nat ht
  have e : notI (a : Int) (b : Int) = ((a &&& (18446744073709551615 - b) : Nat) : Int) := i64_andNot_nat a b (by omega) (by omega)
  have hl : a &&& (18446744073709551615 - b) ≤ a := Nat.and_le_left
  rw [e]
  refine ⟨okB_of_nat hn (by omega), fun j => ?_⟩
  by_cases hj : j < 12
  · have h2 : (18446744073709551615 - b).testBit j = !b.testBit j := by
      have e2 : 18446744073709551615 - b = 2 ^ 64 - (b + 1) := by omega
      rw [e2, Nat.testBit_two_pow_sub_succ (by omega)]
      have : j < 64 := by omega
      simp [this]
    rw [inSetB_nat _ j (by omega) hj, inSetB_nat _ j ha' hj, inSetB_nat _ j hb' hj, Nat.testBit_and, h2]
  · rw [inSetB_far _ (by omega), inSetB_far _ (by omega), inSetB_far _ (by omega)]; rfl
theorem ok_add {n : Nat} {s : Int} (hs : okB n s = true) {i : Nat} (hi : i < n) : okB n (gAdd s i) = true ∧ ∀ j : Nat, inSetB (gAdd s i) j = (inSetB s j || decide (i = j)) := by
  obtain ⟨hn, a, rfl, ha, ha'⟩ := okB_nat hs
  rw [gAdd_nat a i ha' (by omega)]
  have hp : (2 : Nat) ^ i < 2 ^ n := Nat.pow_lt_pow_right (by omega) hi
  have hl : a ||| 2 ^ i < 2 ^ n := Nat.or_lt_two_pow ha hp
  refine ⟨okB_of_nat hn hl, fun j => ?_⟩
  by_cases hj : j < 12
  · rw [inSetB_nat _ j (or_lt a i ha' (by omega)) hj, inSetB_nat _ j ha' hj, Nat.testBit_or, Nat.testBit_two_pow]
  · have : ¬ i = j := by omega
    rw [inSetB_far _ (by omega), inSetB_far _ (by omega)]; simp [this]

/-! Lists that are webs of n. -/
/-- A list of n sets of n. -/
def Web (n : Nat) (zs : List Int) : Prop := n ≤ 12 ∧ zs.length = n ∧ ∀ i, i < n → okB n (zs.getD i 0) = true
theorem web_iff {zs : List Int} : webB zs = true ↔ Web zs.length zs := by
  constructor
  · intro h; exact ⟨webB_len h, rfl, fun i hi => webB_get h hi⟩
  · intro h; exact webB_all h.2.2
theorem Web.b {n : Nat} {zs : List Int} (h : Web n zs) : webB zs = true := by
  obtain ⟨h1, rfl, h2⟩ := h; exact web_iff.2 ⟨h1, rfl, h2⟩
theorem list_ext {n : Nat} {a b : List Int} (ha : a.length = n) (hb : b.length = n) (h : ∀ i, i < n → a.getD i 0 = b.getD i 0) : a = b := by
  apply List.ext_getElem (by omega)
  intro i h1 h2
  have := h i (by omega)
  rw [List.getD_eq_getElem?_getD, List.getD_eq_getElem?_getD, List.getElem?_eq_getElem h1, List.getElem?_eq_getElem h2] at this
  exact this
/-- Does a line go from i to j? -/
def line (zs : List Int) (i j : Nat) : Bool := inSetB (zs.getD i 0) j
theorem Web.ext {n : Nat} {a b : List Int} (ha : Web n a) (hb : Web n b) (h : ∀ i j, i < n → j < n → line a i j = line b i j) : a = b :=
  list_ext ha.2.1 hb.2.1 fun i hi => ok_ext (ha.2.2 i hi) (hb.2.2 i hi) fun j hj => h i j hi hj
theorem Web.lt {n : Nat} {a : List Int} (ha : Web n a) {i j : Nat} (hi : i < n) (h : line a i j = true) : j < n := inSetB_iff (ha.2.2 i hi) h
theorem getD_set (zs : List Int) (i j : Nat) (x : Int) (hi : i < zs.length) : (zs.set i x).getD j 0 = if i = j then x else zs.getD j 0 := by
  rw [List.getD_eq_getElem?_getD, List.getD_eq_getElem?_getD, List.getElem?_set]
  by_cases h : i = j
  · subst h; simp [hi]
  · simp [h]
theorem Web.set {n : Nat} {a : List Int} (ha : Web n a) {i : Nat} {x : Int} (hx : okB n x = true) : Web n (a.set i x) := by
  obtain ⟨h1, h2, h3⟩ := ha
  refine ⟨h1, by simp [h2], fun j hj => ?_⟩
  by_cases hi : i < a.length
  · rw [getD_set a i j x hi]; split
    · exact hx
    · exact h3 j hj
  · rw [List.set_eq_of_length_le (by omega)]; exact h3 j hj
theorem Web.zero {n : Nat} (hn : n ≤ 12) : Web n (List.replicate n 0) := by
  refine ⟨hn, by simp, fun i hi => ?_⟩
  rw [List.getD_eq_getElem?_getD, List.getElem?_replicate, if_pos hi]
  exact ok_zero hn
theorem line_zero (n i j : Nat) : line (List.replicate n 0) i j = false := by
  unfold line
  rw [List.getD_eq_getElem?_getD, List.getElem?_replicate]
  split <;> exact zero_bit j

/-! Then: the sum over the members is the sum over all. -/
theorem thenS_stop {n : Nat} {x : Int} (h : okB n x = true) (b : List Int) {m : Nat} (hm : n ≤ m) : thenS x b m = thenS x b n := by
  induction m with
  | zero => obtain rfl : n = 0 := by omega
            rfl
  | succ m ih =>
    by_cases he : n = m + 1
    · rw [he]
    · have hf : inSetB x m = false := by
        cases hb : inSetB x m with
        | false => rfl
        | true => have := inSetB_iff h hb; omega
      rw [← ih (by omega)]
      conv => lhs; unfold thenS
      simp [hf]
def thenF (b : List Int) (s k : Int) : Int := orI s (b.getD k.toNat 0)
theorem thenS_fold (x : Int) (b : List Int) (k : Nat) : (mem x k).foldl (thenF b) 0 = thenS x b k := by
  induction k with
  | zero => rfl
  | succ k ih =>
    unfold mem thenS
    rw [List.foldl_append, ih]
    cases inSetB x k with
    | false => rfl
    | true => simp [thenF]
theorem ok_then {n : Nat} {x : Int} {b : List Int} (hx : okB n x = true) (hb : Web n b) (m : Nat) : okB n (thenS x b m) = true ∧ ∀ j : Nat, inSetB (thenS x b m) j = true ↔ ∃ k, k < m ∧ inSetB x k = true ∧ line b k j = true := by
  induction m with
  | zero => exact ⟨ok_zero hb.1, fun j => by rw [show thenS x b 0 = 0 from rfl, zero_bit]; simp⟩
  | succ m ih =>
    unfold thenS
    cases hm : inSetB x m with
    | false =>
      refine ⟨by simpa using ih.1, fun j => ?_⟩
      simp only [Bool.false_eq_true, if_false]
      rw [ih.2 j]
      constructor
      · rintro ⟨k, hk, h1, h2⟩; exact ⟨k, by omega, h1, h2⟩
      · rintro ⟨k, hk, h1, h2⟩
        refine ⟨k, ?_, h1, h2⟩
        have : k ≠ m := fun e => by subst e; rw [hm] at h1; cases h1
        omega
    | true =>
      have hmn := inSetB_iff hx hm
      have ho := ok_or ih.1 (hb.2.2 m hmn)
      refine ⟨by simpa using ho.1, fun j => ?_⟩
      simp only [if_true]
      rw [ho.2 j, Bool.or_eq_true, ih.2 j]
      constructor
      · rintro (⟨k, hk, h1, h2⟩ | h)
        · exact ⟨k, by omega, h1, h2⟩
        · exact ⟨m, by omega, hm, h⟩
      · rintro ⟨k, hk, h1, h2⟩
        by_cases e : k = m
        · subst e; exact .inr h2
        · exact .inl ⟨k, by omega, h1, h2⟩

/-! Back. -/
theorem backIn_len (i : Nat) (x : Int) (st : List Int) (k : Nat) : (backIn i x st k).length = st.length := by
  induction k with
  | zero => rfl
  | succ k ih => unfold backIn; split <;> simp [ih]
theorem backIn_stop {n : Nat} {x : Int} (h : okB n x = true) (i : Nat) (st : List Int) {m : Nat} (hm : n ≤ m) : backIn i x st m = backIn i x st n := by
  induction m with
  | zero => obtain rfl : n = 0 := by omega
            rfl
  | succ m ih =>
    by_cases he : n = m + 1
    · rw [he]
    · have hf : inSetB x m = false := by
        cases hb : inSetB x m with
        | false => rfl
        | true => have := inSetB_iff h hb; omega
      rw [← ih (by omega)]
      conv => lhs; unfold backIn
      simp [hf]
def backF (i : Nat) (st : List Int) (k : Int) : List Int := st.set k.toNat (gAdd (st.getD k.toNat 0) i)
theorem backIn_fold (i : Nat) (x : Int) (st : List Int) (k : Nat) : (mem x k).foldl (backF i) st = backIn i x st k := by
  induction k with
  | zero => rfl
  | succ k ih =>
    unfold mem backIn
    rw [List.foldl_append, ih]
    cases inSetB x k with
    | false => rfl
    | true => simp [backF]
theorem web_backIn {n i : Nat} {x : Int} {st : List Int} (hx : okB n x = true) (hi : i < n) (hst : Web n st) (m : Nat) :
    Web n (backIn i x st m) ∧ ∀ k j : Nat, k < n → line (backIn i x st m) k j = (line st k j || (decide (k < m) && inSetB x k && decide (i = j))) := by
  induction m with
  | zero => exact ⟨hst, fun k j _ => by simp [backIn]⟩
  | succ m ih =>
    unfold backIn
    cases hm : inSetB x m with
    | false =>
      refine ⟨by simpa using ih.1, fun k j hk => ?_⟩
      simp only [Bool.false_eq_true, if_false]
      rw [ih.2 k j hk]
      by_cases e : k = m
      · subst e; simp [hm]
      · have : (k < m + 1) ↔ k < m := by omega
        simp [this]
    | true =>
      have hmn := inSetB_iff hx hm
      have ha := ok_add (ih.1.2.2 m hmn) hi
      refine ⟨by simpa using ih.1.set ha.1, fun k j hk => ?_⟩
      simp only [if_true]
      have e1 := ih.2 k j hk
      unfold line at e1 ⊢
      rw [getD_set _ _ _ _ (by rw [ih.1.2.1]; exact hmn)]
      by_cases e : m = k
      · subst e; simp only [if_true]; rw [ha.2 j, e1, hm]; simp
      · have : (k < m + 1) ↔ k < m := by omega
        simp only [e, if_false]; rw [e1]; simp [this]
theorem web_backAll {n : Nat} {zs : List Int} (hz : Web n zs) (m : Nat) (hm : m ≤ n) :
    Web n (backAll zs m) ∧ ∀ k j : Nat, k < n → line (backAll zs m) k j = (decide (j < m) && line zs j k) := by
  induction m with
  | zero =>
    have e : backAll zs 0 = List.replicate n 0 := by unfold backAll; rw [hz.2.1]
    rw [e]
    exact ⟨Web.zero hz.1, fun k j _ => by rw [line_zero]; simp⟩
  | succ m ih =>
    have ih := ih (by omega)
    have h1 := web_backIn (hz.2.2 m (by omega)) (show m < n by omega) ih.1 12
    refine ⟨h1.1, fun k j hk => ?_⟩
    show line (backIn m (zs.getD m 0) (backAll zs m) 12) k j = _
    rw [h1.2 k j hk, ih.2 k j hk]
    have hk12 : k < 12 := by have := hz.1; omega
    by_cases e : m = j
    · subst e; simp [hk12, line]
    · have : (j < m + 1) ↔ j < m := by omega
      simp [e, this]

/-! Ways: what is passed stays a web. -/
theorem wayIn_len (k : Nat) (st : List Int) (i : Nat) : (wayIn k st i).length = st.length := by
  induction i with
  | zero => rfl
  | succ i ih => unfold wayIn; split <;> simp [ih]
theorem web_wayIn {n k : Nat} {st : List Int} (hk : k < n) (hst : Web n st) (m : Nat) (hm : m ≤ n) :
    Web n (wayIn k st m) ∧ ∀ i j : Nat, i < n → line (wayIn k st m) i j = (line st i j || (decide (i < m) && line st i k && line st k j)) := by
  induction m with
  | zero => exact ⟨hst, fun i j _ => by simp [wayIn]⟩
  | succ m ih =>
    have ih := ih (by omega)
    have hmn : m < n := by omega
    have hkk : ∀ j, line (wayIn k st m) k j = line st k j := by
      intro j
      rw [ih.2 k j hk]
      cases line st k j <;> simp
    have hmk : line (wayIn k st m) m k = line st m k := by rw [ih.2 m k hmn]; simp
    have hmj : ∀ j, line (wayIn k st m) m j = line st m j := by intro j; rw [ih.2 m j hmn]; simp
    unfold wayIn
    cases hb : inSetB ((wayIn k st m).getD m 0) k with
    | false =>
      have hb' : line st m k = false := by rw [← hmk]; exact hb
      refine ⟨by simpa using ih.1, fun i j hi => ?_⟩
      simp only [Bool.false_eq_true, if_false]
      rw [ih.2 i j hi]
      by_cases e : i = m
      · subst e; simp [hb']
      · have : (i < m + 1) ↔ i < m := by omega
        simp [this]
    | true =>
      have hb' : line st m k = true := by rw [← hmk]; exact hb
      have ho := ok_or (ih.1.2.2 m hmn) (ih.1.2.2 k hk)
      refine ⟨by simpa using ih.1.set ho.1, fun i j hi => ?_⟩
      simp only [if_true]
      have e1 := ih.2 i j hi
      have e2 := hkk j
      have e3 := hmj j
      unfold line at e1 e2 e3 ⊢
      rw [getD_set _ _ _ _ (by rw [ih.1.2.1]; exact hmn)]
      by_cases e : m = i
      · subst e
        simp only [if_true]
        rw [ho.2 j, e2, e3]
        unfold line at hb'
        rw [hb']
        simp
      · have : (i < m + 1) ↔ i < m := by omega
        simp only [e, if_false]; rw [e1]; simp [this]
theorem web_wayAll {n : Nat} {zs : List Int} (hz : Web n zs) (m : Nat) (hm : m ≤ n) : Web n (wayAll zs m) := by
  induction m with
  | zero => exact hz
  | succ m ih =>
    show Web n (wayIn m (wayAll zs m) zs.length)
    rw [hz.2.1]
    exact (web_wayIn (by omega) (ih (by omega)) n (Nat.le_refl _)).1
theorem line_wayAll {n : Nat} {zs : List Int} (hz : Web n zs) (m : Nat) (hm : m < n) {i : Nat} (hi : i < n) (j : Nat) :
    line (wayAll zs (m + 1)) i j = (line (wayAll zs m) i j || (line (wayAll zs m) i m && line (wayAll zs m) m j)) := by
  show line (wayIn m (wayAll zs m) zs.length) i j = _
  rw [hz.2.1, (web_wayIn hm (web_wayAll hz m (by omega)) n (Nat.le_refl _)).2 i j hi]
  simp [hi]
end Go.Proofs.Ytkdebpfdiblliaa

/- Plain mathematics of the web of a source: from each write to its read; it has as many lines as there are reads. -/
namespace Go.Proofs.Ytkdebpfdiblliaa
open Go.RowKit

def fwK (n : Nat) (rs f : List Int) : Nat → List Int
  | 0 => List.replicate n 0
  | k + 1 => (fwK n rs f k).set (f.getD k 0).toNat (gAdd ((fwK n rs f k).getD (f.getD k 0).toNat 0) (rs.getD k 0))
def fwL (es : List Ev) (f : List Int) : List Int := fwK es.length (idxB rdE es) f (idxB rdE es).length
theorem fw_line {n : Nat} {rs f : List Int} (hn : n ≤ 12) : ∀ k : Nat, (∀ i, i < k → 0 ≤ rs.getD i 0 ∧ rs.getD i 0 < (n : Int)) → (∀ i, i < k → 0 ≤ f.getD i 0 ∧ f.getD i 0 < (n : Int)) →
    Web n (fwK n rs f k) ∧ ∀ a j : Nat, a < n → (line (fwK n rs f k) a j = true ↔ ∃ i, i < k ∧ f.getD i 0 = (a : Int) ∧ rs.getD i 0 = (j : Int))
  | 0, _, _ => ⟨Web.zero hn, fun a j _ => by rw [fwK, line_zero]; simp⟩
  | k + 1, hr, hf => by
    obtain ⟨h1, h2⟩ := fw_line hn k (fun i hi => hr i (by omega)) (fun i hi => hf i (by omega))
    obtain ⟨a0, ha0⟩ := Int.eq_ofNat_of_zero_le (hf k (by omega)).1
    obtain ⟨j0, hj0⟩ := Int.eq_ofNat_of_zero_le (hr k (by omega)).1
    have ha : a0 < n := by have := (hf k (by omega)).2; omega
    have hj : j0 < n := by have := (hr k (by omega)).2; omega
    rw [fwK, ha0, hj0, Int.toNat_natCast]
    have hg := ok_add (h1.2.2 a0 ha) hj
    refine ⟨h1.set hg.1, fun a j haa => ?_⟩
    unfold line
    rw [getD_set _ _ _ _ (by rw [h1.2.1]; exact ha)]
    by_cases e : a0 = a
    · subst e
      rw [if_pos rfl, hg.2 j, Bool.or_eq_true, decide_eq_true_eq]
      have := h2 a0 j haa
      unfold line at this
      rw [this]
      constructor
      · rintro (⟨i, hi, h⟩ | rfl)
        · exact ⟨i, by omega, h⟩
        · exact ⟨k, by omega, ha0, hj0⟩
      · rintro ⟨i, hi, h3, h4⟩
        by_cases e2 : i = k
        · subst e2; right; rw [hj0] at h4; omega
        · exact .inl ⟨i, by omega, h3, h4⟩
    · rw [if_neg e]
      have := h2 a j haa
      unfold line at this
      rw [this]
      constructor
      · rintro ⟨i, hi, h⟩
        exact ⟨i, by omega, h⟩
      · rintro ⟨i, hi, h3, h4⟩
        by_cases e2 : i = k
        · subst e2; rw [ha0] at h3; omega
        · exact ⟨i, by omega, h3, h4⟩
/-- How many members the first m rows have. -/
def memN (l : List Int) : Nat → Nat
  | 0 => 0
  | m + 1 => memN l m + (mem (l.getD m 0) 12).length
theorem mem_cnt (s : Int) : ∀ k : Nat, (mem s k).length = (List.range k).countP (fun j : Nat => inSetB s (j : Int))
  | 0 => rfl
  | k + 1 => by
    rw [mem, List.length_append, mem_cnt s k, List.range_succ, List.countP_append]
    congr 1
    cases h : inSetB s (k : Int) <;> simp [h]
theorem cnt_one {p : Nat → Bool} {i : Nat} : ∀ k : Nat, p i = false → i < k → (List.range k).countP (fun j => p j || decide (i = j)) = (List.range k).countP p + 1
  | 0, _, h => by omega
  | k + 1, hp, h => by
    rw [List.range_succ, List.countP_append, List.countP_append]
    by_cases e : i = k
    · subst e
      have : (List.range i).countP (fun j => p j || decide (i = j)) = (List.range i).countP p := by
        refine List.countP_congr (fun j hj => ?_)
        rw [List.mem_range] at hj
        have : decide (i = j) = false := by simp; omega
        rw [this, Bool.or_false]
      rw [this]
      simp [hp]
    · rw [cnt_one k hp (by omega)]
      have : decide (i = k) = false := by simp [e]
      simp [this]
      omega
theorem mem_add {n : Nat} {s : Int} (hs : okB n s = true) {i : Nat} (hi : i < n) (hn : inSetB s (i : Int) = false) (h12 : n ≤ 12) : (mem (gAdd s i) 12).length = (mem s 12).length + 1 := by
  have hg := ok_add hs hi
  rw [mem_cnt, mem_cnt, ← cnt_one (p := fun j : Nat => inSetB s (j : Int)) 12 hn (by omega)]
  refine List.countP_congr (fun j _ => ?_)
  rw [hg.2 j]
theorem memN_zero (n : Nat) : ∀ m : Nat, memN (List.replicate n 0) m = 0
  | 0 => rfl
  | m + 1 => by
    rw [memN, memN_zero n m, List.getD_eq_getElem?_getD, List.getElem?_replicate]
    have : (mem 0 12).length = 0 := by decide +kernel
    split <;> simpa using this
theorem memN_set {l : List Int} {a : Nat} {x : Int} (ha : a < l.length) (hx : (mem x 12).length = (mem (l.getD a 0) 12).length + 1) : ∀ m : Nat, memN (l.set a x) m = memN l m + (if a < m then 1 else 0)
  | 0 => by simp [memN]
  | m + 1 => by
    rw [memN, memN, memN_set ha hx m, getD_set l a m x ha]
    by_cases e : a = m
    · subst e; rw [if_pos rfl, hx, if_neg (by omega), if_pos (by omega)]; omega
    · rw [if_neg e]
      by_cases h : a < m
      · rw [if_pos h, if_pos (by omega)]; omega
      · rw [if_neg h, if_neg (by omega)]; omega
theorem fw_count {n : Nat} {rs f : List Int} (hn : n ≤ 12) (hd : rs.Nodup) : ∀ k : Nat, k ≤ rs.length → (∀ i, i < k → 0 ≤ rs.getD i 0 ∧ rs.getD i 0 < (n : Int)) → (∀ i, i < k → 0 ≤ f.getD i 0 ∧ f.getD i 0 < (n : Int)) → memN (fwK n rs f k) n = k
  | 0, _, _, _ => memN_zero n n
  | k + 1, hk, hr, hf => by
    have ih := fw_count hn hd k (by omega) (fun i hi => hr i (by omega)) (fun i hi => hf i (by omega))
    obtain ⟨h1, h2⟩ := fw_line hn k (fun i hi => hr i (by omega)) (fun i hi => hf i (by omega))
    obtain ⟨a0, ha0⟩ := Int.eq_ofNat_of_zero_le (hf k (by omega)).1
    obtain ⟨j0, hj0⟩ := Int.eq_ofNat_of_zero_le (hr k (by omega)).1
    have ha : a0 < n := by have := (hf k (by omega)).2; omega
    have hj : j0 < n := by have := (hr k (by omega)).2; omega
    have hno : inSetB ((fwK n rs f k).getD a0 0) (j0 : Int) = false := by
      cases hb : inSetB ((fwK n rs f k).getD a0 0) (j0 : Int) with
      | false => rfl
      | true =>
        exfalso
        obtain ⟨i, hi, _, h4⟩ := (h2 a0 j0 ha).1 hb
        have hik : i < rs.length := by omega
        have e : rs.getD i 0 = rs.getD k 0 := by rw [h4, hj0]
        rw [List.getD_eq_getElem?_getD, List.getElem?_eq_getElem hik, List.getD_eq_getElem?_getD, List.getElem?_eq_getElem (by omega)] at e
        have := (List.getElem_inj hd).1 e
        omega
    rw [fwK, ha0, hj0, Int.toNat_natCast, memN_set (by rw [h1.2.1]; exact ha) (mem_add (h1.2.2 a0 ha) hj hno hn) n, ih, if_pos ha]
end Go.Proofs.Ytkdebpfdiblliaa

/- Plain mathematics: what a source has: as many as there are reads, each an event, at the read's place. -/
namespace Go.Proofs.Ytkdebpfdiblliaa

theorem isB_mem {l : List Int} {n : Int} (h : isB l n = true) : n ∈ l := by
  unfold isB at h
  rw [List.any_eq_true] at h
  obtain ⟨x, hx, e⟩ := h
  rw [beq_iff_eq] at e
  rw [← e]; exact hx
theorem idxK_mem (f : Ev → Bool) (l : List Ev) : ∀ (k : Nat) (x : Int), x ∈ idxK f l k → f (l.getD x.toNat zE) = true
  | 0, x, h => by simp [idxK] at h
  | k + 1, x, h => by
    rw [idxK] at h
    split at h
    · rename_i hf
      rcases List.mem_append.1 h with h | h
      · exact idxK_mem f l k x h
      · simp only [List.mem_cons, List.not_mem_nil, or_false] at h
        rw [h, Int.toNat_natCast]; exact hf
    · exact idxK_mem f l k x h
theorem src_use {es : List Ev} {f : List Int} (hx : es.length ≤ 12) (h : srcB (chcL es) f = true) : (idxB rdE es).length = f.length ∧
    ∀ i, i < (idxB rdE es).length → (0 ≤ f.getD i 0 ∧ f.getD i 0 < (es.length : Int)) ∧ (es.getD (f.getD i 0).toNat zE).2.2.2.1 = plE es ((idxB rdE es).getD i 0) := by
  unfold srcB at h
  rw [Bool.and_eq_true, decide_eq_true_eq] at h
  obtain ⟨h1, h2⟩ := h
  have hc : (chcL es).length = (idxB rdE es).length := chcK_len _ _ _
  refine ⟨by omega, fun i hi => ?_⟩
  have h3 := (srcK_iff (chcL es).length).1 h2 i (by omega)
  unfold chcL at h3
  rw [chcK_get _ _ _ _ hi] at h3
  have h4 := isB_mem h3
  unfold idxB at h4
  rw [if_pos hx] at h4
  have h5 := idxK_lt _ _ _ _ h4
  have h6 := idxK_mem _ _ _ _ h4
  refine ⟨h5, ?_⟩
  unfold toE at h6
  simp only [Bool.and_eq_true, beq_iff_eq] at h6
  rw [h6.2]
  unfold idxB
  rw [if_pos hx]
/-- What the specification's FromWeb answers at every argument. -/
def fwB (dss : List (List Dd)) (f : List Int) : List Int := if sourceB dss f = true then fwL (eventsB dss) f else []
end Go.Proofs.Ytkdebpfdiblliaa

/- Rows: what is right is an order of all writes, none twice; each number below their count tells rows that are right, another one than every other number. -/
namespace Go.Proofs.Ytkdebpfdiblliaa
open Go.RowKit

/-- As many, and all of them: the same in some order. -/
theorem perm_of : ∀ {p b : List Int}, p.Nodup → (∀ x ∈ p, x ∈ b) → b.length ≤ p.length → p.Perm b
  | [], b, _, _, hl => by
    have : b = [] := List.eq_nil_of_length_eq_zero (by simpa using hl)
    subst this
    exact List.Perm.refl _
  | x :: t, b, hn, hs, hl => by
    have hx := hs x (by simp)
    rw [List.nodup_cons] at hn
    have hb : (b.erase x).length = b.length - 1 := List.length_erase_of_mem hx
    have ih := perm_of (p := t) (b := b.erase x) hn.2 (fun y hy => by
      have h1 := hs y (by simp [hy])
      exact (List.mem_erase_of_ne (fun e => hn.1 (by rw [← e]; exact hy))).2 h1) (by rw [hb]; simp only [List.length_cons] at hl; omega)
    exact (List.Perm.cons x ih).trans (List.perm_cons_erase hx).symm
theorem mem_isB {l : List Int} {n : Int} (h : n ∈ l) : isB l n = true := by
  unfold isB
  rw [List.any_eq_true]
  exact ⟨n, h, by simp⟩
theorem okP_perm {rows p : List Int} {at0 i : Nat} (hn : p.Nodup) (h : okP rows at0 p i = true) : at0 + p.length ≤ rows.length ∧ p.Perm ((rows.drop at0).take p.length) := by
  unfold okP at h
  simp only [Bool.and_eq_true, decide_eq_true_eq, List.all_eq_true] at h
  refine ⟨h.1.1, perm_of hn (fun x hx => isB_mem (h.2 x hx)) ?_⟩
  rw [List.length_take]
  omega
theorem plcW_nodup {es : List Ev} (hx : es.length ≤ 12) (p : Nat) : (plcW es p).Nodup := by
  unfold plcW idxB
  rw [if_pos hx]
  exact (idxK_rises _ _ _).imp (fun h e => by omega)
theorem plcW_mem {es : List Ev} (hx : es.length ≤ 12) {p : Nat} {x : Int} (h : x ∈ plcW es p) : (0 ≤ x ∧ x < (es.length : Int)) ∧ (es.getD x.toNat zE).2.2.2.1 = (p : Int) := by
  unfold plcW idxB at h
  rw [if_pos hx] at h
  have h1 := idxK_lt _ _ _ _ h
  have h2 := idxK_mem _ _ _ _ h
  unfold toE at h2
  simp only [Bool.and_eq_true, beq_iff_eq] at h2
  exact ⟨h1, h2.2⟩
theorem plcW_len {es : List Ev} (hx : es.length ≤ 12) (p : Nat) : (plcW es p).length ≤ 12 := by
  unfold plcW idxB
  rw [if_pos hx]
  have := idxK_len (toE (p : Int)) es es.length
  omega
def allW (es : List Ev) : List Int := plcW es 0 ++ plcW es 1 ++ plcW es 2
theorem allW_nodup {es : List Ev} (hx : es.length ≤ 12) : (allW es).Nodup := by
  have dis : ∀ {p q : Nat}, p ≠ q → ∀ a ∈ plcW es p, ∀ b ∈ plcW es q, a ≠ b := fun {p q} hpq a ha b hb e => by
    have h1 := (plcW_mem hx ha).2
    have h2 := (plcW_mem hx hb).2
    rw [e, h2] at h1
    omega
  unfold allW
  rw [List.nodup_append, List.nodup_append]
  refine ⟨⟨plcW_nodup hx 0, plcW_nodup hx 1, dis (by decide)⟩, plcW_nodup hx 2, fun a ha b hb => ?_⟩
  rcases List.mem_append.1 ha with h | h
  · exact dis (p := 0) (q := 2) (by decide) a h b hb
  · exact dis (p := 1) (q := 2) (by decide) a h b hb
theorem rows_perm {es : List Ev} {rows : List Int} (hx : es.length ≤ 12) (h : rowsL es rows = true) : (allW es).Perm rows := by
  unfold rowsL at h
  simp only [Bool.and_eq_true, decide_eq_true_eq] at h
  obtain ⟨⟨⟨h0, h1⟩, h2⟩, hl⟩ := h
  obtain ⟨l0, p0⟩ := okP_perm (plcW_nodup hx 0) h0
  obtain ⟨l1, p1⟩ := okP_perm (plcW_nodup hx 1) h1
  obtain ⟨l2, p2⟩ := okP_perm (plcW_nodup hx 2) h2
  have e : rows = rows.take (plcW es 0).length ++ (rows.drop (plcW es 0).length).take (plcW es 1).length ++ (rows.drop ((plcW es 0).length + (plcW es 1).length)).take (plcW es 2).length := by
    have t2 : (rows.drop ((plcW es 0).length + (plcW es 1).length)).take (plcW es 2).length = rows.drop ((plcW es 0).length + (plcW es 1).length) := List.take_of_length_le (by rw [List.length_drop]; omega)
    rw [t2, List.append_assoc, ← List.drop_drop, List.take_append_drop, List.take_append_drop]
  rw [List.drop_zero] at p0
  unfold allW
  rw [e]
  exact (p0.append p1).append p2
theorem rows_use {es : List Ev} {rows : List Int} (hx : es.length ≤ 12) (h : rowsL es rows = true) : rows.Nodup ∧ rows.length ≤ 36 ∧ ∀ i, i < rows.length → 0 ≤ rows.getD i 0 ∧ rows.getD i 0 < (es.length : Int) := by
  have hp := rows_perm hx h
  refine ⟨hp.nodup_iff.1 (allW_nodup hx), ?_, fun i hi => ?_⟩
  · rw [← hp.length_eq]
    unfold allW
    rw [List.length_append, List.length_append]
    have := plcW_len hx 0
    have := plcW_len hx 1
    have := plcW_len hx 2
    omega
  · have hm : rows.getD i 0 ∈ rows := by
      rw [List.getD_eq_getElem?_getD, List.getElem?_eq_getElem hi]
      exact List.getElem_mem hi
    have hm := hp.mem_iff.2 hm
    unfold allW at hm
    rcases List.mem_append.1 hm with hm | hm
    · rcases List.mem_append.1 hm with hm | hm
      · exact (plcW_mem hx hm).1
      · exact (plcW_mem hx hm).1
    · exact (plcW_mem hx hm).1
theorem okP_mk {A P C p : List Int} {i : Nat} (hl : P.length = p.length) (hp : P.Perm p) (h0 : 0 < p.length) (hi : P.getD 0 0 = (i : Int)) : okP (A ++ P ++ C) A.length p i = true := by
  unfold okP
  simp only [Bool.and_eq_true, decide_eq_true_eq, beq_iff_eq, List.all_eq_true]
  refine ⟨⟨by rw [List.length_append, List.length_append]; omega, ?_⟩, fun x hx => ?_⟩
  · rw [List.append_assoc, List.getD_eq_getElem?_getD, List.getElem?_append_right (Nat.le_refl _), Nat.sub_self, List.getElem?_append_left (by omega), ← List.getD_eq_getElem?_getD]
    exact hi
  · refine mem_isB ?_
    rw [List.append_assoc, List.drop_left, ← hl, List.take_left]
    exact hp.mem_iff.2 hx
/-- Each place has writes, its beginning foremost. -/
theorem plcW_first {dss : List (List Dd)} (hb : workB dss = true) (p : Nat) (hp : p < 3) : 0 < (plcW (eventsB dss) p).length ∧ (plcW (eventsB dss) p).getD 0 0 = (p : Int) := by
  obtain ⟨h12, _, _, hf, _⟩ := events_law hb
  obtain ⟨r, hr⟩ := hf p hp
  unfold plcW idxB
  rw [eventsB, if_pos hb, if_pos h12, hr]
  exact ⟨by simp, rfl⟩
theorem eventsB_12 (dss : List (List Dd)) : (eventsB dss).length ≤ 12 := by
  unfold eventsB
  split
  · rename_i hb
    exact (events_law hb).1
  · simp
theorem rat_parts {es : List Ev} {n : Int} (h0 : 0 ≤ n) (h1 : n < rcntL es) :
    (0 ≤ n % fac ((plcW es 2).length - 1) ∧ n % fac ((plcW es 2).length - 1) < fac ((plcW es 2).length - 1)) ∧
    (0 ≤ n / fac ((plcW es 2).length - 1) % fac ((plcW es 1).length - 1) ∧ n / fac ((plcW es 2).length - 1) % fac ((plcW es 1).length - 1) < fac ((plcW es 1).length - 1)) ∧
    (0 ≤ n / fac ((plcW es 2).length - 1) / fac ((plcW es 1).length - 1) ∧ n / fac ((plcW es 2).length - 1) / fac ((plcW es 1).length - 1) < fac ((plcW es 0).length - 1)) := by
  have f0 := fac_pos ((plcW es 0).length - 1)
  have f1 := fac_pos ((plcW es 1).length - 1)
  have f2 := fac_pos ((plcW es 2).length - 1)
  unfold rcntL at h1
  refine ⟨⟨Int.emod_nonneg _ (by omega), Int.emod_lt_of_pos _ f2⟩, ⟨Int.emod_nonneg _ (by omega), Int.emod_lt_of_pos _ f1⟩, Int.ediv_nonneg (Int.ediv_nonneg h0 (by omega)) (by omega), ?_⟩
  exact Int.ediv_lt_of_lt_mul f1 (Int.ediv_lt_of_lt_mul f2 h1)
theorem rat_ok {dss : List (List Dd)} {n : Int} (hb : workB dss = true) (h0 : 0 ≤ n) (h1 : n < rcntL (eventsB dss)) : rowsL (eventsB dss) (ratL (eventsB dss) n) = true := by
  obtain ⟨⟨a0, a1⟩, ⟨b0, b1⟩, c0, c1⟩ := rat_parts h0 h1
  have e0 : n / fac ((plcW (eventsB dss) 2).length - 1) / fac ((plcW (eventsB dss) 1).length - 1) % fac ((plcW (eventsB dss) 0).length - 1) = n / fac ((plcW (eventsB dss) 2).length - 1) / fac ((plcW (eventsB dss) 1).length - 1) := Int.emod_eq_of_lt c0 c1
  obtain ⟨p0, q0⟩ := plcW_first hb 0 (by decide)
  obtain ⟨p1, q1⟩ := plcW_first hb 1 (by decide)
  obtain ⟨p2, q2⟩ := plcW_first hb 2 (by decide)
  unfold ratL
  rw [e0]
  generalize n / fac ((plcW (eventsB dss) 2).length - 1) / fac ((plcW (eventsB dss) 1).length - 1) = x0 at c0 c1
  generalize n / fac ((plcW (eventsB dss) 2).length - 1) % fac ((plcW (eventsB dss) 1).length - 1) = x1 at b0 b1
  generalize n % fac ((plcW (eventsB dss) 2).length - 1) = x2 at a0 a1
  have L0 := part_len p0 x0
  have L1 := part_len p1 x1
  have L2 := part_len p2 x2
  unfold rowsL
  simp only [Bool.and_eq_true, decide_eq_true_eq]
  refine ⟨⟨⟨?_, ?_⟩, ?_⟩, ?_⟩
  · have := okP_mk (A := []) (C := partL (plcW (eventsB dss) 1) x1 ++ partL (plcW (eventsB dss) 2) x2) L0 (part_perm p0 c0 c1) p0 (i := 0) q0
    rw [List.nil_append, ← List.append_assoc] at this
    exact this
  · have := okP_mk (A := partL (plcW (eventsB dss) 0) x0) (C := partL (plcW (eventsB dss) 2) x2) L1 (part_perm p1 b0 b1) p1 (i := 1) q1
    rw [L0] at this
    exact this
  · have := okP_mk (A := partL (plcW (eventsB dss) 0) x0 ++ partL (plcW (eventsB dss) 1) x1) (C := []) L2 (part_perm p2 a0 a1) p2 (i := 2) q2
    rw [List.append_nil, List.length_append, L0, L1] at this
    exact this
  · rw [List.length_append, List.length_append, L0, L1, L2]
theorem rat_inj {dss : List (List Dd)} {n m : Int} (hb : workB dss = true) (h0 : 0 ≤ n) (h1 : n < rcntL (eventsB dss)) (g0 : 0 ≤ m) (g1 : m < rcntL (eventsB dss)) (e : ratL (eventsB dss) m = ratL (eventsB dss) n) : m = n := by
  have hx := eventsB_12 dss
  obtain ⟨⟨a0, a1⟩, ⟨b0, b1⟩, c0, c1⟩ := rat_parts h0 h1
  obtain ⟨⟨d0, d1⟩, ⟨i0, i1⟩, j0, j1⟩ := rat_parts g0 g1
  obtain ⟨p0, _⟩ := plcW_first hb 0 (by decide)
  obtain ⟨p1, _⟩ := plcW_first hb 1 (by decide)
  obtain ⟨p2, _⟩ := plcW_first hb 2 (by decide)
  unfold ratL at e
  rw [Int.emod_eq_of_lt c0 c1, Int.emod_eq_of_lt j0 j1] at e
  obtain ⟨e01, e2⟩ := List.append_inj' e (by rw [part_len p2, part_len p2])
  obtain ⟨e0, e1⟩ := List.append_inj' e01 (by rw [part_len p1, part_len p1])
  have r2 := part_inj (plcW_nodup hx 2) d0 d1 a0 a1 e2
  have r1 := part_inj (plcW_nodup hx 1) i0 i1 b0 b1 e1
  have r0 := part_inj (plcW_nodup hx 0) j0 j1 c0 c1 e0
  have x2 := Int.mul_ediv_add_emod m (fac ((plcW (eventsB dss) 2).length - 1))
  have y2 := Int.mul_ediv_add_emod n (fac ((plcW (eventsB dss) 2).length - 1))
  have x1 := Int.mul_ediv_add_emod (m / fac ((plcW (eventsB dss) 2).length - 1)) (fac ((plcW (eventsB dss) 1).length - 1))
  have y1 := Int.mul_ediv_add_emod (n / fac ((plcW (eventsB dss) 2).length - 1)) (fac ((plcW (eventsB dss) 1).length - 1))
  rw [r0, r1, y1] at x1
  rw [← x1, r2] at x2
  omega
theorem rcnt_in {es : List Ev} (hx : es.length ≤ 9) : 0 < rcntL es ∧ rcntL es ≤ 47784725839872000 := by
  have b : ∀ p, (plcW es p).length - 1 ≤ 8 := fun p => by
    unfold plcW idxB
    rw [if_pos (by omega)]
    have := idxK_len (toE (p : Int)) es es.length
    omega
  have top : ∀ j : Nat, j ≤ 8 → fac j ≤ 40320 := by decide +kernel
  have f0 := fac_pos ((plcW es 0).length - 1)
  have f1 := fac_pos ((plcW es 1).length - 1)
  have f2 := fac_pos ((plcW es 2).length - 1)
  have t0 := top _ (b 0)
  have t1 := top _ (b 1)
  have t2 := top _ (b 2)
  unfold rcntL
  refine ⟨Int.mul_pos (Int.mul_pos f0 f1) f2, ?_⟩
  have m1 : fac ((plcW es 0).length - 1) * fac ((plcW es 1).length - 1) ≤ 40320 * 40320 := Int.mul_le_mul t0 t1 (by omega) (by decide)
  have m2 : fac ((plcW es 0).length - 1) * fac ((plcW es 1).length - 1) * fac ((plcW es 2).length - 1) ≤ 40320 * 40320 * 40320 := Int.mul_le_mul m1 t2 (by omega) (by decide)
  omega
end Go.Proofs.Ytkdebpfdiblliaa

/- Plain mathematics of rows as the program makes them: for each seat the writes that may have it; a walk that gives seat after seat to the least one that is left. -/
namespace Go.Proofs.Ytkdebpfdiblliaa

/-- Who may have the i-th seat of a place. -/
def seatAt (l : List Int) (i : Nat) : List Int := if i = 0 then l.take 1 else l.drop 1
def seatK (l : List Int) (i : Nat) : List (List Int) := (List.range i).map (seatAt l)
theorem seatK_more (l : List Int) (i : Nat) : seatK l (i + 1) = seatK l i ++ [seatAt l i] := by
  unfold seatK
  rw [List.range_succ, List.map_append]
  rfl
def seatP (l : List Int) : List (List Int) := seatK l l.length
theorem seatP_cons (x : Int) (r : List Int) : seatP (x :: r) = [x] :: List.replicate r.length r := by
  unfold seatP seatK
  rw [List.length_cons, List.range_succ_eq_map, List.map_cons, List.map_map]
  congr 1
  refine List.ext_getElem (by simp) (fun i h1 h2 => ?_)
  simp [seatAt]
theorem seatP_len (l : List Int) : (seatP l).length = l.length := by simp [seatP, seatK]
def seatsL (es : List Ev) : List (List Int) := seatP (plcW es 0) ++ seatP (plcW es 1) ++ seatP (plcW es 2)
/-- Who may have a seat, is past the one that had it last, and has none ahead. -/
def nextL (s ahead : List Int) (last : Int) : List Int := s.filter (fun x => decide (last < x) && !isB ahead x)
def nextB (s ahead : List Int) (last : Int) : Int := (nextL s ahead last).headD (-1)
theorem next_step {s ahead t : List Int} {last x : Int} (hs : s.Pairwise (· < ·)) (h : nextL s ahead last = x :: t) : nextL s ahead x = t ∧ last < x ∧ isB ahead x = false := by
  have hx : x ∈ nextL s ahead last := by rw [h]; simp
  unfold nextL at hx
  rw [List.mem_filter] at hx
  simp only [Bool.and_eq_true, decide_eq_true_eq, Bool.not_eq_true'] at hx
  refine ⟨?_, hx.2.1, hx.2.2⟩
  have h1 : nextL s ahead x = (nextL s ahead last).filter (fun y => decide (x < y)) := by
    unfold nextL
    rw [List.filter_filter]
    refine List.filter_congr (fun y _ => ?_)
    by_cases hy : x < y
    · have : last < y := by omega
      simp [hy, this]
    · simp [hy]
  have hp : (x :: t).Pairwise (· < ·) := by
    rw [← h]
    exact hs.filter _
  rw [List.pairwise_cons] at hp
  rw [h1, h, List.filter_cons, if_neg (by simp), List.filter_eq_self]
  intro y hy
  simpa using hp.1 y hy
/-- What the walk does from a seat on: a step is 'none', what it finds is told. -/
def allT : List (List Int) → List Int → List (Option (List Int))
  | [], a => [some a]
  | s :: ss, a => (nextL s a (-1)).flatMap (fun x => none :: allT ss (a ++ [x])) ++ [none]
def hereT (ss : List (List Int)) (rows : List Int) (last : Int) : List (Option (List Int)) :=
  match ss.drop rows.length with
  | [] => [some rows]
  | s :: r => (nextL s rows last).flatMap (fun x => none :: allT r (rows ++ [x])) ++ [none]
theorem here_all (ss : List (List Int)) (rows : List Int) : hereT ss rows (-1) = allT (ss.drop rows.length) rows := by
  unfold hereT
  cases ss.drop rows.length <;> rfl
def backT (ss : List (List Int)) (rows : List Int) : Nat → List (Option (List Int))
  | 0 => []
  | k + 1 => hereT ss (rows.take k) (rows.getD k 0) ++ backT ss rows k
theorem back_more (ss : List (List Int)) (rows : List Int) (x : Int) : ∀ k : Nat, k ≤ rows.length → backT ss (rows ++ [x]) k = backT ss rows k
  | 0, _ => rfl
  | k + 1, h => by
    rw [backT, backT, back_more ss rows x k (by omega), List.take_append_of_le_length (by omega)]
    congr 2
    rw [List.getD_eq_getElem?_getD, List.getElem?_append_left (by omega), ← List.getD_eq_getElem?_getD]
def comeT (ss : List (List Int)) (rows : List Int) (last : Int) : List (Option (List Int)) := hereT ss rows last ++ backT ss rows rows.length
theorem back_snoc (ss : List (List Int)) (rows : List Int) (x : Int) : backT ss (rows ++ [x]) (rows ++ [x]).length = comeT ss rows x := by
  rw [List.length_append, List.length_singleton, backT, back_more ss rows x _ (Nat.le_refl _), comeT]
  congr 2
  · rw [List.take_append_of_le_length (Nat.le_refl _), List.take_length]
  · rw [List.getD_eq_getElem?_getD, List.getElem?_append_right (Nat.le_refl _), Nat.sub_self]; rfl
/-- A seat is given. -/
theorem come_give {ss : List (List Int)} {rows t : List Int} {last x : Int} (hlt : rows.length < ss.length) (hs : (ss.getD rows.length []).Pairwise (· < ·)) (h : nextL (ss.getD rows.length []) rows last = x :: t) :
    comeT ss rows last = none :: comeT ss (rows ++ [x]) (-1) := by
  have hd : ss.drop rows.length = ss.getD rows.length [] :: ss.drop (rows.length + 1) := by
    rw [List.getD_eq_getElem?_getD, List.getElem?_eq_getElem hlt]
    exact List.drop_eq_getElem_cons hlt
  have hn := (next_step hs h).1
  conv => rhs; rw [comeT, back_snoc, here_all, List.length_append, List.length_singleton, comeT]
  rw [comeT, hereT, hereT, hd]
  simp only [h, hn, List.flatMap_cons, List.cons_append, List.append_assoc]
/-- Nobody may have it: one seat back. -/
theorem come_none {ss : List (List Int)} {rows : List Int} {last : Int} (hlt : rows.length < ss.length) (h : nextL (ss.getD rows.length []) rows last = []) :
    comeT ss rows last = none :: backT ss rows rows.length := by
  have hd : ss.drop rows.length = ss.getD rows.length [] :: ss.drop (rows.length + 1) := by
    rw [List.getD_eq_getElem?_getD, List.getElem?_eq_getElem hlt]
    exact List.drop_eq_getElem_cons hlt
  rw [comeT, hereT, hd]
  simp only [h, List.flatMap_nil, List.nil_append, List.cons_append]
/-- All seats are given. -/
theorem come_full {ss : List (List Int)} {rows : List Int} {last : Int} (hl : rows.length = ss.length) : comeT ss rows last = some rows :: backT ss rows rows.length := by
  rw [comeT, hereT, List.drop_of_length_le (by omega)]
  rfl
/-- All that is found. -/
def allS : List (List Int) → List Int → List (List Int)
  | [], a => [a]
  | s :: ss, a => (nextL s a (-1)).flatMap (fun x => allS ss (a ++ [x]))
theorem all_found : ∀ (ss : List (List Int)) (a : List Int), (allT ss a).filterMap id = allS ss a
  | [], a => rfl
  | s :: ss, a => by
    rw [allT, allS, List.filterMap_append]
    simp only [List.filterMap_cons, List.filterMap_nil, id, List.append_nil]
    rw [List.filterMap_flatMap]
    congr 1
    funext x
    rw [List.filterMap_cons]
    exact all_found ss _
end Go.Proofs.Ytkdebpfdiblliaa

/- Lists of structs in memory, whatever the struct: its cells are a list of plain values. 'RdT': can be read; 'AppT': in memory of one's own, grows by append. -/
namespace Go.Proofs.Ytkdebpfdiblliaa
open Go.ChangeShapes Go.WideShapes Go.ChangeAt Go.RowKit

section
variable {α : Type} {cf : α → List Value} {n : Nat}
/-- A struct at a place. -/
def AtT (cf : α → List Value) (w : World) (b o : Nat) (x : α) : Prop := ∀ m u, (cf x)[m]? = some u → w.cell? ⟨b, o + m, none⟩ = some u
def RdT (cf : α → List Value) (n : Nat) (w : World) (v : Value) (xs : List α) : Prop :=
  ∃ (a : Option Addr) (cap : Nat), v = .slice a xs.length (xs.length + cap) ∧
    (xs = [] ∨ ∃ b off, a = some ⟨b, off, none⟩ ∧ b < w.heap.size ∧ ∀ i x, xs[i]? = some x → AtT cf w b (off + i * n) x)
theorem AtT.same {w w' : World} {b o : Nat} {x : α} (h : AtT cf w b o x) (hh : w'.heap[b]? = w.heap[b]?) : AtT cf w' b o x :=
  fun m u hm => by
    have := h m u hm
    simp only [World.cell?, hh] at this ⊢
    exact this
theorem AtT.keep {w w' : World} {b o : Nat} {x : α} (h : AtT cf w b o x) (hb : b < w.heap.size) (k : Keep w w') : AtT cf w' b o x := h.same (Below.block k b hb)
theorem RdT.keep {w w' : World} {v : Value} {xs : List α} (h : RdT cf n w v xs) (k : Keep w w') : RdT cf n w' v xs := by
  obtain ⟨a, cap, hv, h⟩ := h
  refine ⟨a, cap, hv, ?_⟩
  rcases h with h | ⟨b, off, ha, hb, hc⟩
  · exact .inl h
  · exact .inr ⟨b, off, ha, Nat.lt_of_lt_of_le hb k.size, fun i x hx => (hc i x hx).keep hb k⟩
def AppT (cf : α → List Value) (e : TypeId) (n : Nat) (w : World) (base : Nat) (v : Value) (xs : List α) : Prop := w.ownsRow base e n v xs.length (xs.flatMap cf)
variable {e : TypeId}
theorem AppT.keep {w w' : World} {base : Nat} {v : Value} {xs : List α} (h : AppT cf e n w base v xs) (k : Keep w w') : AppT cf e n w' base v xs :=
  World.ownsRow.kept h k.grownBy (by cases v.ownBlock <;> simp)
theorem AppT.kept {w w' : World} {base : Nat} {v : Value} {xs : List α} {row : Option Nat} (h : AppT cf e n w base v xs) (hg : w.grownBy w' row) (hne : v.ownBlock = none ∨ v.ownBlock ≠ row) : AppT cf e n w' base v xs :=
  World.ownsRow.kept h hg hne
theorem AppT.lt {w : World} {base : Nat} {v : Value} {xs : List α} (h : AppT cf e n w base v xs) : ∀ k, v.ownBlock = some k → base ≤ k ∧ k < w.heap.size := World.ownsRow.lt h
theorem AppT.ge {w : World} {base : Nat} {v : Value} {xs : List α} (h : AppT cf e n w base v xs) : ∀ k, v.ownBlock = some k → base ≤ k := fun k hk => (h.lt k hk).1
theorem appT_hit {w : World} {base : Nat} {v : Value} {xs : List α} {x : α} (h : w.ownsRow base e n v (xs.length + 1) (xs.flatMap cf ++ cf x)) : AppT cf e n w base v (xs ++ [x]) := by
  unfold AppT; rw [List.flatMap_append]; simpa using h
theorem appT_empty (w : World) : AppT cf e n (w.alloc (.cells #[] e)) w.heap.size (.slice (some ⟨w.heap.size, 0, none⟩) 0 0) [] :=
  World.ownsRow_lit w #[] 0 (Nat.le_refl _) (by decide) (by simp)
theorem flat_at (hn : ∀ x, (cf x).length = n) : ∀ (xs : List α) (i : Nat) (x : α) (m : Nat), xs[i]? = some x → m < n → (xs.flatMap cf)[i * n + m]? = (cf x)[m]?
  | [], i, x, m, h, _ => by simp at h
  | y :: r, 0, x, m, h, hm => by
    simp at h
    subst h
    rw [List.flatMap_cons, List.getElem?_append_left (by rw [hn]; omega)]
    simp
  | y :: r, i + 1, x, m, h, hm => by
    have ih := flat_at hn r i x m (by simpa using h) hm
    have e1 : (i + 1) * n + m = n + (i * n + m) := by rw [Nat.add_mul]; omega
    rw [List.flatMap_cons, List.getElem?_append_right (by rw [hn]; omega), hn, e1, Nat.add_sub_cancel_left, ih]
theorem AppT.shape {w : World} {base : Nat} {v : Value} {xs : List α} (h : AppT cf e n w base v xs) : ∃ a c, v = .slice a xs.length c := by
  rcases h.2 with ⟨rfl, hz⟩ | ⟨g, cap, cur, rfl, _⟩
  · exact ⟨none, 0, by rw [hz]⟩
  · exact ⟨_, _, rfl⟩
theorem AppT.rd (hn : ∀ x, (cf x).length = n) {w : World} {base : Nat} {v : Value} {xs : List α} (h : AppT cf e n w base v xs) : RdT cf n w v xs := by
  have h2 := h
  have hlt := h.lt
  rcases h.2 with ⟨rfl, hz⟩ | ⟨g, cap, cur, rfl, hb, hg, hcap, _, hs, _⟩
  · have : xs = [] := List.eq_nil_of_length_eq_zero hz
    subst this
    exact ⟨none, 0, rfl, .inl rfl⟩
  · obtain ⟨x, rfl⟩ : ∃ x, cap = xs.length + x := ⟨cap - xs.length, by omega⟩
    refine ⟨_, x, rfl, .inr ⟨g, 0, rfl, (hlt g rfl).2, fun i y hy m u hm => ?_⟩⟩
    have hi : i < xs.length := (List.getElem?_eq_some_iff.1 hy).1
    have hmn : m < n := by have := (List.getElem?_eq_some_iff.1 hm).1; rw [hn] at this; exact this
    have hb2 : i * n + m < xs.length * n := by
      have h3 : (i + 1) * n ≤ xs.length * n := Nat.mul_le_mul_right n hi
      rw [Nat.add_mul] at h3
      omega
    rw [Nat.zero_add, World.ownsRow.cellAt h2 (i * n + m) hb2, flat_at hn xs i y m hy hmn]
    exact hm
end
end Go.Proofs.Ytkdebpfdiblliaa

/- Lists of events in memory. -/
namespace Go.Proofs.Ytkdebpfdiblliaa
open Go.ChangeShapes Go.WideShapes Go.ChangeAt Go.RowKit

def cE (e : Ev) : List Value := [.int .i64 e.1, .int .i64 e.2.1, .bool e.2.2.1, .int .i64 e.2.2.2.1, .int .i64 e.2.2.2.2.1, .int .i64 e.2.2.2.2.2]
theorem cE_len (e : Ev) : (cE e).length = 6 := rfl
theorem Try.infoE : (Try.prog.info? 39).map (fun i => (i.zero, i.size, i.bytes)) = some (some (.agg #[.int .i64 0, .int .i64 0, .bool false, .int .i64 0, .int .i64 0, .int .i64 0]), 6, 48) := by kernel_rfl
abbrev RdE (w : World) (v : Value) (es : List Ev) : Prop := RdT cE 6 w v es
abbrev AppE (w : World) (base : Nat) (v : Value) (es : List Ev) : Prop := AppT cE 39 6 w base v es
theorem atE {w : World} {b o : Nat} {x0 x1 : Int} {r : Bool} {x3 x4 x5 : Int} (h : AtT cE w b o (x0, x1, r, x3, x4, x5)) :
    w.cell? ⟨b, o, none⟩ = some (.int .i64 x0) ∧ w.cell? ⟨b, o + 1, none⟩ = some (.int .i64 x1) ∧ w.cell? ⟨b, o + 2, none⟩ = some (.bool r) ∧ w.cell? ⟨b, o + 3, none⟩ = some (.int .i64 x3) ∧ w.cell? ⟨b, o + 4, none⟩ = some (.int .i64 x4) ∧ w.cell? ⟨b, o + 5, none⟩ = some (.int .i64 x5) :=
  ⟨h 0 _ rfl, h 1 _ rfl, h 2 _ rfl, h 3 _ rfl, h 4 _ rfl, h 5 _ rfl⟩
theorem AppE.rd {w : World} {base : Nat} {v : Value} {es : List Ev} (h : AppE w base v es) : RdE w v es := AppT.rd cE_len h
theorem evs_get {es : List Ev} {i : Nat} (h : i < es.length) : es[i]? = some (es.getD i zE) := by
  rw [List.getD_eq_getElem?_getD, List.getElem?_eq_getElem h]; rfl
end Go.Proofs.Ytkdebpfdiblliaa

/- Plain mathematics of the numbers that the program picks among twelve: those that there are and that pass a test. -/
namespace Go.Proofs.Ytkdebpfdiblliaa

def tstE (f : Ev → Bool) (es : List Ev) (k : Nat) : Bool := decide (k < es.length) && f (es.getD k zE)
def chK (f : Ev → Bool) (es : List Ev) : Nat → List Int
  | 0 => []
  | k + 1 => if tstE f es k = true then chK f es k ++ [(k : Int)] else chK f es k
theorem chK_min (f : Ev → Bool) (es : List Ev) : ∀ k, chK f es k = idxK f es (min k es.length)
  | 0 => by simp [chK, idxK]
  | k + 1 => by
    rw [chK, chK_min f es k]
    by_cases h : k < es.length
    · rw [show min (k + 1) es.length = k + 1 by omega, show min k es.length = k by omega, idxK]
      simp [tstE, h]
    · rw [show min (k + 1) es.length = min k es.length by omega]
      simp [tstE, h]
theorem chK_all (f : Ev → Bool) (es : List Ev) (k : Nat) (h : es.length ≤ k) : chK f es k = idxK f es es.length := by
  rw [chK_min, Nat.min_eq_right h]
theorem chK_len (f : Ev → Bool) (es : List Ev) (k : Nat) : (chK f es k).length ≤ k := by
  rw [chK_min]
  have := idxK_len f es (min k es.length)
  omega
end Go.Proofs.Ytkdebpfdiblliaa

/- A list of numbers that lies at the beginning of a block, whatever room stands behind it there: 'RowAt', 'Row'; what a store turns in it, and that it stays where others write. -/
namespace Go.Proofs.Ytkdebpfdiblliaa
open Go.ChangeShapes Go.WideShapes Go.ChangeAt Go.RowKit

/-- Block g begins with the numbers zs and may be written. -/
def RowAt (w : World) (g : Nat) (zs : List Int) : Prop :=
  ∃ (cur : Array Value) (e : TypeId), w.heap[g]? = some (.cells cur e (0, 0)) ∧ cur.toList.take zs.length = zs.map (Value.int .i64)
theorem RowAt.lt {w : World} {g : Nat} {zs : List Int} (h : RowAt w g zs) : g < w.heap.size := by
  obtain ⟨cur, e, hh, _⟩ := h
  exact (Array.getElem?_eq_some_iff.1 hh).1
theorem RowAt.cell {w : World} {g : Nat} {zs : List Int} (h : RowAt w g zs) {j : Nat} (hj : j < zs.length) : w.cell? ⟨g, j, none⟩ = some (.int .i64 (zs.getD j 0)) := by
  obtain ⟨cur, e, hh, ht⟩ := h
  rw [cell_of_row w g j cur e (0, 0) hh]
  have h1 : (cur.toList.take zs.length)[j]? = (zs.map (Value.int .i64))[j]? := by rw [ht]
  rw [List.getElem?_take, if_pos hj, List.getElem?_map, List.getElem?_eq_getElem hj] at h1
  rw [List.getD_eq_getElem?_getD, List.getElem?_eq_getElem hj]
  simpa using h1
theorem RowAt.free {w : World} {g : Nat} {zs : List Int} (h : RowAt w g zs) (j : Nat) : w.frozen? ⟨g, j, none⟩ = false := by
  obtain ⟨cur, e, hh, _⟩ := h
  exact frozen_of_row w g j _ _ hh
theorem RowAt.kept {w w' : World} {g : Nat} {zs : List Int} {row : Option Nat} (h : RowAt w g zs) (hg : w.grownBy w' row) (hne : row ≠ some g) : RowAt w' g zs := by
  have hlt := h.lt
  obtain ⟨cur, e, hh, ht⟩ := h
  exact ⟨cur, e, by rw [hg.block g hlt (fun e => hne e.symm)]; exact hh, ht⟩
theorem RowAt.keep {w w' : World} {g : Nat} {zs : List Int} (h : RowAt w g zs) (k : Keep w w') : RowAt w' g zs := h.kept k.grownBy (by simp)
theorem grown_set (w : World) (g j : Nat) (v : Value) : w.grownBy (w.setCell ⟨g, j, none⟩ v) (some g) :=
  ⟨rfl, rfl, rfl, by simp, fun k _ hk => heap_setCell_other w ⟨g, j, none⟩ k v (fun e => hk (by simp [e]))⟩
theorem grown_draw (w : World) (n : Nat) (row : Option Nat) : w.grownBy (w.drewN n) row := ⟨rfl, rfl, rfl, Nat.le_refl _, fun _ _ _ => rfl⟩
theorem grown_drew (w : World) (row : Option Nat) : w.grownBy w.drew row := ⟨rfl, rfl, rfl, Nat.le_refl _, fun _ _ _ => rfl⟩
theorem RowAt.drewN {w : World} {g : Nat} {zs : List Int} (h : RowAt w g zs) (n : Nat) : RowAt (w.drewN n) g zs := h.kept (row := none) (grown_draw w n none) (by simp)
theorem RowAt.drew {w : World} {g : Nat} {zs : List Int} (h : RowAt w g zs) : RowAt w.drew g zs := h.kept (row := none) (grown_drew w none) (by simp)
theorem take_set_val (l : List Value) (zs : List Int) (j : Nat) (x : Int) (h : l.take zs.length = zs.map (Value.int .i64)) :
    (l.set j (.int .i64 x)).take (zs.set j x).length = (zs.set j x).map (Value.int .i64) := by
  rw [List.length_set, List.take_set, h, List.map_set]
theorem RowAt.set {w : World} {g : Nat} {zs : List Int} (h : RowAt w g zs) (j : Nat) (x : Int) : RowAt (w.setCell ⟨g, j, none⟩ (.int .i64 x)) g (zs.set j x) := by
  obtain ⟨cur, e, hh, ht⟩ := h
  refine ⟨cur.setIfInBounds j (.int .i64 x), e, ?_, ?_⟩
  · rw [heap_setCell_same w g j _ _ _ hh]
  · rw [Array.toList_setIfInBounds]
    exact take_set_val _ zs j x ht

/-- A list in memory from block 'base' on. -/
def Row (w : World) (base : Nat) (v : Value) (zs : List Int) : Prop :=
  (v = .slice none 0 0 ∧ zs = []) ∨ ∃ g cap, v = .slice (some ⟨g, 0, none⟩) zs.length cap ∧ base ≤ g ∧ RowAt w g zs
theorem Own.row {w : World} {base : Nat} {v : Value} {zs : List Int} (h : Own w base v zs) : Row w base v zs := by
  rcases h.2 with ⟨rfl, hn⟩ | ⟨g, cap, cur, rfl, hb, hg, _, _, _, ht⟩
  · exact .inl ⟨rfl, List.eq_nil_of_length_eq_zero hn⟩
  · exact .inr ⟨g, cap, rfl, hb, cur, _, hg, by rw [Nat.mul_one] at ht; exact ht⟩
theorem Row.lt {w : World} {base : Nat} {v : Value} {zs : List Int} (h : Row w base v zs) : ∀ k, v.ownBlock = some k → base ≤ k ∧ k < w.heap.size := by
  intro k hk
  rcases h with ⟨rfl, _⟩ | ⟨g, cap, rfl, hb, hr⟩
  · simp [Value.ownBlock] at hk
  · simp [Value.ownBlock] at hk; subst hk; exact ⟨hb, hr.lt⟩
theorem Row.ge {w : World} {base : Nat} {v : Value} {zs : List Int} (h : Row w base v zs) : ∀ k, v.ownBlock = some k → base ≤ k := fun k hk => (h.lt k hk).1
theorem Row.kept {w w' : World} {base : Nat} {v : Value} {zs : List Int} {row : Option Nat} (h : Row w base v zs) (hg : w.grownBy w' row) (hne : v.ownBlock = none ∨ v.ownBlock ≠ row) : Row w' base v zs := by
  rcases h with h | ⟨g, cap, rfl, hb, hr⟩
  · exact .inl h
  · refine .inr ⟨g, cap, rfl, hb, hr.kept hg ?_⟩
    simp [Value.ownBlock] at hne
    exact fun e => hne e.symm
theorem Row.keep {w w' : World} {base : Nat} {v : Value} {zs : List Int} (h : Row w base v zs) (k : Keep w w') : Row w' base v zs :=
  h.kept k.grownBy (by cases v.ownBlock <;> simp)
theorem Row.rd {w : World} {base : Nat} {v : Value} {zs : List Int} (h : Row w base v zs) : Rd w v zs := by
  rcases h with ⟨rfl, rfl⟩ | ⟨g, cap, rfl, hb, hr⟩
  · exact ⟨none, 0, rfl, .inl rfl⟩
  · exact ⟨some ⟨g, 0, none⟩, cap, rfl, .inr ⟨g, 0, rfl, hr.lt, fun i hi => by rw [Nat.zero_add]; exact hr.cell hi⟩⟩
theorem Row.base_le {w : World} {base base' : Nat} {v : Value} {zs : List Int} (h : Row w base v zs) (hb : base' ≤ base) : Row w base' v zs := by
  rcases h with h | ⟨g, cap, hv, hg, hr⟩
  · exact .inl h
  · exact .inr ⟨g, cap, hv, Nat.le_trans hb hg, hr⟩
/-- Of two rows the later one was made behind the first. -/
theorem Row.apart {w w' : World} {base : Nat} {v v' : Value} {zs zs' : List Int} (h : Row w base v zs) (h' : Row w' w.heap.size v' zs') : v.ownBlock = none ∨ v.ownBlock ≠ v'.ownBlock := by
  cases hv : v.ownBlock with
  | none => exact .inl rfl
  | some k =>
    refine .inr fun e => ?_
    have h1 := (h.lt k hv).2
    have h2 := h'.ge k e.symm
    omega
/-- A row that lies above is another one. -/
theorem Row.apart' {w w' : World} {base : Nat} {v v' : Value} {zs zs' : List Int} (h : Row w base v zs) (h' : Row w' w.heap.size v' zs') : v'.ownBlock = none ∨ v'.ownBlock ≠ v.ownBlock := by
  cases hv : v'.ownBlock with
  | none => exact .inl rfl
  | some k =>
    refine .inr fun e => ?_
    have h1 := (h.lt k e.symm).2
    have h2 := h'.ge k hv
    omega
theorem row_new {w : World} {g n cap base : Nat} {zs : List Int} (h : RowAt w g zs) (hb : base ≤ g) (hn : zs.length = n) : Row w base (.slice (some ⟨g, 0, none⟩) n cap) zs := by
  subst hn; exact .inr ⟨g, cap, rfl, hb, h⟩
/-- A literal without an element. -/
theorem row_empty (w : World) (e : TypeId) : Row (w.alloc (.cells #[] e)) w.heap.size (.slice (some ⟨w.heap.size, 0, none⟩) 0 0) [] :=
  .inr ⟨w.heap.size, 0, rfl, Nat.le_refl _, #[], e, heap_alloc_new w _, rfl⟩
end Go.Proofs.Ytkdebpfdiblliaa

/- Contract of the program's WritesTo: a new list of numbers. (Written by mknum.py.) -/
namespace Go.Proofs.Ytkdebpfdiblliaa
open Go.ChangeShapes Go.WideShapes Go.ChangeAt Go.RowKit

set_option maxHeartbeats 1000000 in
theorem wClo_any (x0 x1 : Int) (x2 : Bool) (x3 x4 x5 p : Int) (P : Nat) (w : World) (hP : w.cell? ⟨P, 0, none⟩ = some (.int .i64 p)) (hPl : P < w.heap.size) :
    Calls Try.prog 94 #[.agg #[.int .i64 x0, .int .i64 x1, .bool x2, .int .i64 x3, .int .i64 x4, .int .i64 x5], .pointer (some ⟨P, 0, none⟩)] w fun e w' => e = .returned (.bool (toE p (x0, x1, x2, x3, x4, x5))) ∧ Keep w w' := by
  cases x2
  · by_cases hp : x3 = p
    · subst hp
      go_enter Try.func94, Try.ntmps94
      go_wp2
      go_ret
      exact ⟨ret_bool (by simp [toE]), (Keep.refl w).alloc _⟩
    · have he : (x3 == p) = false := by simpa using hp
      go_enter Try.func94, Try.ntmps94
      go_wp2
      go_ret
      exact ⟨ret_bool (by simp [toE, hp]), (Keep.refl w).alloc _⟩
  · go_enter Try.func94, Try.ntmps94
    go_wp2
    go_ret
    exact ⟨ret_bool (by simp [toE]), (Keep.refl w).alloc _⟩
set_option maxRecDepth 100000 in
set_option maxHeartbeats 2000000 in
theorem wNum_any (w : World) (v : Value) (es : List Ev) (h : RdE w v es) (k : Nat) (A B : Nat) (p : Int) (P : Nat) (hP : w.cell? ⟨P, 0, none⟩ = some (.int .i64 p)) (hPl : P < w.heap.size) (hA : w.cell? ⟨A, 0, none⟩ = some v) (hAl : A < w.heap.size) (hB : w.cell? ⟨B, 0, none⟩ = some (.func (Fn.func 94) #[] #[.pointer (some ⟨P, 0, none⟩)])) (hBl : B < w.heap.size) :
    Calls Try.prog 104 #[.int .i64 k, .pointer (some ⟨A, 0, none⟩), .pointer (some ⟨B, 0, none⟩)] w fun e w' => e = .returned (.bool (tstE (toE p) es k)) ∧ Keep w w' := by
  obtain ⟨a, c, rfl, h⟩ := h
  by_cases hlt : k < es.length
  · rcases h with h | ⟨b, o, rfl, hb, hc⟩
    · exfalso; rw [h] at hlt; simp at hlt
    have AT := hc k _ (evs_get hlt)
    have HE : Hid (tstE (toE p) es k = (toE p) (es.getD k zE)) := Lib.hid (by unfold tstE; simp [hlt])
    clear hc
    obtain ⟨e, he⟩ : ∃ e, e = es.getD k zE := ⟨_, rfl⟩
    rw [← he] at AT HE
    clear he
    obtain ⟨x0, x1, x2, x3, x4, x5⟩ := e
    obtain ⟨d0, d1, d2, d3, d4, d5⟩ := atE AT
    clear AT
    have i1 : (0 : Int) ≤ (k : Int) := Int.natCast_nonneg _
    have i2 : (k : Int) < (es.length : Int) := by omega
    have z1 : b < w.drew.heap.size := hb
    have z2 : A < w.drew.heap.size := hAl
    have z3 : B < w.drew.heap.size := hBl
    have z4 : P < w.drew.heap.size := hPl
    go_enter Try.func104, Try.ntmps104
    go_wp2_with fail
    go_region_held3 (fun w' => w'.cell? ⟨A, 0, none⟩ = some (.slice (some ⟨b, o, none⟩) es.length (es.length + c)) ∧ w'.cell? ⟨B, 0, none⟩ = some (.func (Fn.func 94) #[] #[.pointer (some ⟨P, 0, none⟩)]) ∧ w'.cell? ⟨P, 0, none⟩ = some (.int .i64 p) ∧ w'.cell? ⟨b, o + k * 6, none⟩ = some (.int .i64 x0) ∧ w'.cell? ⟨b, o + k * 6 + 1, none⟩ = some (.int .i64 x1) ∧ w'.cell? ⟨b, o + k * 6 + 2, none⟩ = some (.bool x2) ∧ w'.cell? ⟨b, o + k * 6 + 3, none⟩ = some (.int .i64 x3) ∧ w'.cell? ⟨b, o + k * 6 + 4, none⟩ = some (.int .i64 x4) ∧ w'.cell? ⟨b, o + k * 6 + 5, none⟩ = some (.int .i64 x5))
      (first | go_keep | (go_split_ands; refine ⟨?_, ?_, ?_, ?_, ?_, ?_, ?_, ?_, ?_⟩ <;> (rw [kk.cell (by assumption)]; assumption)))
      ((go_at_call 94; refine (wClo_any x0 x1 x2 x3 x4 x5 p P _ (by assumption) (by assumption)).mono ?_; rintro e wz ⟨rfl, kk⟩))
    all_goals
      go_wp2
      go_ret
      exact ⟨by rw [HE.out]; rfl, ((Keep.refl w).drew).trans kk⟩
  · have HE : Hid (tstE (toE p) es k = false) := Lib.hid (by unfold tstE; simp [hlt])
    have i2 : ¬ ((k : Int) < (es.length : Int)) := by omega
    go_enter Try.func104, Try.ntmps104
    go_wp2_with fail
    go_quiet (fail)
    go_wp2
    go_ret
    exact ⟨by rw [HE.out]; rfl, (Keep.refl w).drewN _⟩

set_option maxRecDepth 100000 in
set_option maxHeartbeats 1000000 in
theorem wChosen_any (w : World) (v : Value) (es : List Ev) (h : RdE w v es) (hx : es.length ≤ 12) (A B : Nat) (p : Int) (P : Nat) (hP : w.cell? ⟨P, 0, none⟩ = some (.int .i64 p)) (hPl : P < w.heap.size) (hA : w.cell? ⟨A, 0, none⟩ = some v) (hAl : A < w.heap.size) (hB : w.cell? ⟨B, 0, none⟩ = some (.func (Fn.func 94) #[] #[.pointer (some ⟨P, 0, none⟩)])) (hBl : B < w.heap.size) :
    Calls Try.prog 103 #[.func (Fn.func 104) #[] #[.pointer (some ⟨A, 0, none⟩), .pointer (some ⟨B, 0, none⟩)]] w fun e w' => ∃ v', e = .returned v' ∧ Own w' w.heap.size v' (idxK (toE p) es es.length) ∧ Keep w w' := by
  have hown0 : Own (w.alloc (.cells #[] 2)) w.heap.size (.slice (some ⟨w.heap.size, 0, none⟩) 0 0) [] := World.ownsRow_lit w #[] 0 (Nat.le_refl _) (by decide) rfl
  obtain ⟨i0, hi, hz0, hz1, hz2⟩ := info_parts Try.infoI
  go_enter Try.func103, Try.ntmps103
  go_wp2
  go_loopw [3, 6] (fun v i wr => ∃ k : Nat, k ≤ 12 ∧ i = .int .i64 k ∧ Own wr w.heap.size v (chK (toE p) es k) ∧ Keep w wr) (fun _ i _ => 12 - (intOf i).toNat)
  case atStart => exact ⟨0, Nat.zero_le _, rfl, hown0, (Keep.refl _).alloc _⟩
  case round =>
    obtain ⟨k, hk, rfl, ho, hK⟩ := hrel
    clear hown0
    by_cases hlt : k < 12
    · have hml := chK_len (toE p) es k
      have hsz := hK.size
      have C := wNum_any wr v es (h.keep hK) k A B p P (by rw [hK.cell hPl]; exact hP) (Nat.lt_of_lt_of_le hPl hK.size) (by rw [hK.cell hAl]; exact hA) (Nat.lt_of_lt_of_le hAl hK.size) (by rw [hK.cell hBl]; exact hB) (Nat.lt_of_lt_of_le hBl hK.size)
      clear h hA hB
      cases hb : tstE (toE p) es k
      · have HM : Hid (chK (toE p) es (k + 1) = chK (toE p) es k) := Lib.hid (by rw [chK, hb]; rfl)
        rw [hb] at C
        go_wp2_with fail
        refine C.mono ?_
        rintro e w1 ⟨rfl, k1⟩
        go_wp2
        go_roundw
        case rel => exact ⟨k + 1, by omega, by go_num, by rw [HM.out]; exact ho.keep k1, hK.trans k1⟩
        case measure => simp [intOf]; omega
      · have HM : Hid (chK (toE p) es (k + 1) = chK (toE p) es k ++ [(k : Int)]) := Lib.hid (by rw [chK, hb]; rfl)
        rw [hb] at C
        go_wp2_with fail
        refine C.mono ?_
        rintro e w1 ⟨rfl, k1⟩
        have ho1 := ho.keep k1
        have hK1 := hK.trans k1
        have hsz1 := hK1.size
        clear ho hK C
        go_wp2_with (at_builtin; refine wpList_append_own _ rfl _ _ 27 rfl w.heap.size 2 i0 (.int .i64 0) 1 8 Try.underlying27 hi hz0 hz1 hz2 rfl (by decide) _ _ _ rfl (World.ownsRow.alloc ho1 _) ⟨_, 0, none⟩ 1 1 [.int .i64 k] rfl rfl ?c1 ?c2 ?c3 ?c4 ?c5 ?_)
        case c1 =>
          intro j u hj
          match j, hj with
          | 0, hj => simp at hj; subst hj; simp [Addr.add]
        case c2 => intro u hu; simp at hu; subst hu; rfl
        case c3 => unfold maxLen; omega
        case c4 => omega
        case c5 => simp; omega
        intro v' w2 hown' hgrow _
        have hK2 : Keep w w2 := (hK1.alloc _).grown hgrow ho1.ge
        clear hgrow
        go_wp2
        go_roundw
        case rel => exact ⟨k + 1, by omega, by go_num, by rw [HM.out]; exact own_hit hown', hK2⟩
        case measure => simp [intOf]; omega
    · obtain rfl : k = 12 := by omega
      rw [chK_all (toE p) es 12 hx] at ho
      go_wp2
      go_ret
      exact ⟨_, rfl, ho, hK⟩

set_option maxRecDepth 100000 in
set_option maxHeartbeats 1000000 in
theorem wNumbers_any (w : World) (v : Value) (es : List Ev) (h : RdE w v es) (hx : es.length ≤ 1048576) (p : Int) (P : Nat) (hP : w.cell? ⟨P, 0, none⟩ = some (.int .i64 p)) (hPl : P < w.heap.size) :
    Calls Try.prog 93 #[v, (.func (Fn.func 94) #[] #[.pointer (some ⟨P, 0, none⟩)])] w fun e w' => ∃ v', e = .returned v' ∧ Own w' w.heap.size v' (idxB (toE p) es) ∧ Keep w w' := by
  by_cases hl : 12 < es.length
  · have HE : Hid (idxB (toE p) es = []) := Lib.hid (by unfold idxB; rw [if_neg (by omega)])
    have l1 : (12 : Int) < (es.length : Int) := by omega
    have O : ∀ o1 o2 : Obj, Own (((w.alloc o1).alloc o2).alloc (.cells #[] 2)) w.heap.size (.slice (some ⟨w.heap.size + 1 + 1, 0, none⟩) 0 0) [] := fun o1 o2 => by
      have q : Own (((w.alloc o1).alloc o2).alloc (.cells #[] 2)) ((w.alloc o1).alloc o2).heap.size (.slice (some ⟨((w.alloc o1).alloc o2).heap.size, 0, none⟩) 0 0) [] := World.ownsRow_lit _ #[] 0 (Nat.le_refl _) (by decide) rfl
      have z : ((w.alloc o1).alloc o2).heap.size = w.heap.size + 1 + 1 := by rw [heap_size, heap_size]
      rw [z] at q
      exact q.base_le (by omega)
    obtain ⟨a, c, rfl, h⟩ := h
    go_enter Try.func93, Try.ntmps93
    go_wp2
    go_ret
    refine ⟨_, rfl, ?_, (((Keep.refl w).alloc _).alloc _).alloc _⟩
    rw [HE.out]
    exact O _ _
  · have l1 : es.length ≤ 12 := by omega
    have HE : Hid (idxB (toE p) es = idxK (toE p) es es.length) := Lib.hid (by unfold idxB; rw [if_pos l1])
    clear hl
    have C := fun (o1 o2 : Obj) => wChosen_any ((w.alloc o1).alloc o2) v es (h.keep (((Keep.refl w).alloc _).alloc _)) l1 w.heap.size (w.heap.size + 1) p P (by rw [Keep.cell (((Keep.refl w).alloc _).alloc _) hPl]; exact hP) (Nat.lt_of_lt_of_le hPl (Keep.size (((Keep.refl w).alloc _).alloc _)))
    obtain ⟨a, c, rfl, h⟩ := h
    have l2 : (es.length : Int) ≤ 12 := by omega
    go_enter Try.func93, Try.ntmps93
    go_wp2_with fail
    refine (C _ _ ?g1 ?g2 ?g3 ?g4).mono ?_
    case g1 => simp
    case g2 => simp only [heap_size]; omega
    case g3 => simp
    case g4 => simp only [heap_size]; omega
    rintro e w1 ⟨v1, rfl, ho, hK⟩
    go_wp2
    go_ret
    refine ⟨_, rfl, ?_, (((Keep.refl w).alloc _).alloc _).trans hK⟩
    rw [HE.out]
    exact ho.base_le (by simp only [heap_size]; omega)

theorem implWritesTo_any (w : World) (v : Value) (es : List Ev) (h : RdE w v es) (hx : es.length ≤ 1048576) (p : Int) :
    Calls Try.prog 63 #[v, .int .i64 p] w fun e w' => ∃ v', e = .returned v' ∧ Own w' w.heap.size v' (idxB (toE p) es) ∧ Keep w w' := by
  have C := fun (o1 : Obj) => wNumbers_any (w.alloc o1) v es (h.keep ((Keep.refl w).alloc _)) hx p w.heap.size
  go_enter Try.func63, Try.ntmps63
  go_wp2_with fail
  refine (C _ ?g1 ?g2).mono ?_
  case g1 => simp
  case g2 => simp only [heap_size]; omega
  rintro e w1 ⟨v1, rfl, ho, hK⟩
  go_wp2
  go_ret
  exact ⟨_, rfl, ho.base_le (by simp only [heap_size]; omega), ((Keep.refl w).alloc _).trans hK⟩
end Go.Proofs.Ytkdebpfdiblliaa

/- Contract of the program's seatsOf. -/
namespace Go.Proofs.Ytkdebpfdiblliaa
open Go.ChangeShapes Go.WideShapes Go.ChangeAt Go.RowKit

theorem cell_lone {w : World} {b : Nat} {v : Value} (h : w.cell? ⟨b, 0, none⟩ = some v) : ∀ j u, ([v] : List Value)[j]? = some u → w.cell? ((⟨b, 0, none⟩ : Addr).add j) = some u := by
  intro j u hj
  match j, hj with
  | 0, hj =>
    simp at hj
    subst hj
    exact h
  | k + 1, hj => simp at hj
theorem Beside.first {w : World} {x : Value} {b o n c : Nat} {l : List Int} (h : Beside w x (.slice (some ⟨b, o, none⟩) n c) l) (hl : 0 < l.length) : Beside w x (.slice (some ⟨b, o, none⟩) 1 c) (l.take 1) := by
  have hlen : (l.take 1).length = 1 := by rw [List.length_take]; omega
  have hcap : l.length ≤ c := h.cap
  refine ⟨?_, h.ne, h.lt, by rw [hlen]; show 1 ≤ c; omega⟩
  obtain ⟨a, cap, he, hr⟩ := h.rd
  simp only [Value.slice.injEq] at he
  obtain ⟨rfl, rfl, rfl⟩ := he
  refine ⟨_, _, by rw [hlen], ?_⟩
  rcases hr with hr | ⟨b', o', he, hb, hc⟩
  · rw [hr] at hl; simp at hl
  · simp only [Option.some.injEq, Addr.mk.injEq, and_true] at he
    obtain ⟨rfl, rfl⟩ := he
    refine .inr ⟨b, o, rfl, hb, fun i hi => ?_⟩
    rw [hc i (by omega), List.getD_eq_getElem?_getD, List.getD_eq_getElem?_getD, List.getElem?_take, if_pos (by omega)]
theorem Beside.rest {w : World} {x : Value} {b o n c : Nat} {l : List Int} (h : Beside w x (.slice (some ⟨b, o, none⟩) n c) l) (hl : 0 < l.length) : Beside w x (.slice (some ⟨b, o + 1, none⟩) (n - 1) (c - 1)) (l.drop 1) := by
  have hlen : (l.drop 1).length = l.length - 1 := by rw [List.length_drop]
  have hcap : l.length ≤ c := h.cap
  refine ⟨?_, h.ne, h.lt, by rw [hlen]; show l.length - 1 ≤ c - 1; omega⟩
  obtain ⟨a, cap, he, hr⟩ := h.rd
  simp only [Value.slice.injEq] at he
  obtain ⟨rfl, rfl, rfl⟩ := he
  refine ⟨_, _, by rw [hlen], ?_⟩
  rcases hr with hr | ⟨b', o', he, hb, hc⟩
  · rw [hr] at hl; simp at hl
  · simp only [Option.some.injEq, Addr.mk.injEq, and_true] at he
    obtain ⟨rfl, rfl⟩ := he
    refine .inr ⟨b, o + 1, rfl, hb, fun i hi => ?_⟩
    rw [Nat.add_assoc, Nat.add_comm 1 i, hc (i + 1) (by omega), List.getD_eq_getElem?_getD, List.getD_eq_getElem?_getD, List.getElem?_drop, Nat.add_comm 1 i]
def seatN (es : List Ev) : Nat → List (List Int)
  | 0 => []
  | p + 1 => seatN es p ++ seatP (plcW es p)
theorem seatN_three (es : List Ev) : seatN es 3 = seatsL es := by
  simp only [seatN, seatsL, List.nil_append]
theorem seatK_len (l : List Int) (k : Nat) : (seatK l k).length = k := by simp [seatK]
theorem seatN_len {es : List Ev} (hx : es.length ≤ 12) : ∀ p : Nat, (seatN es p).length ≤ 12 * p
  | 0 => by simp [seatN]
  | p + 1 => by
    have := seatN_len hx p
    have := plcW_len hx p
    rw [seatN, List.length_append, seatP_len]
    omega
set_option maxRecDepth 100000 in
set_option maxHeartbeats 2000000 in
theorem seatsOf_any (w : World) (v : Value) (es : List Ev) (h : RdE w v es) (hx : es.length ≤ 12) :
    Calls Try.prog 38 #[v] w fun e w' => ∃ v', e = .returned v' ∧ RdL w' v' (seatsL es) ∧ Keep w w' := by
  obtain ⟨i0, hi, hz0, hz1, hz2⟩ := info_parts Try.infoL
  have A0 := appL_empty w
  have K0 : Keep w (w.alloc (.cells #[] 27)) := (Keep.refl w).alloc _
  have HS : Hid (seatsL es = seatN es 3) := Lib.hid (seatN_three es).symm
  have HL : Hid (∀ p, (seatN es p).length ≤ 12 * p) := Lib.hid (seatN_len hx)
  go_enter Try.func38, Try.ntmps38
  go_wp2
  go_loopw [3, 8] (fun x i wr => ∃ p : Nat, ∃ vs : List Value, p ≤ 3 ∧ i = .int .i64 p ∧ AppL wr w.heap.size x vs (seatN es p) ∧ Keep w wr) (fun _ i _ => 3 - (intOf i).toNat)
  case atStart => exact ⟨0, [], by omega, rfl, A0, K0⟩
  case round =>
    obtain ⟨p, vs, hp, rfl, hA, hK⟩ := hrel
    clear A0 K0
    by_cases hlt : p < 3
    · have hpl := plcW_len hx p
      have HN : Hid (seatN es (p + 1) = seatN es p ++ seatK (plcW es p) (plcW es p).length) := Lib.hid rfl
      have hsl : (seatN es p).length ≤ 36 := by have := HL.out p; omega
      have i2 : (p : Int) < 3 := by omega
      go_wp2_with fail
      refine (implWritesTo_any _ _ _ (h.keep hK) (by omega) _).mono ?_
      rintro e w2 ⟨v2, rfl, o2, k2⟩
      have HI : Hid (plcW es p = idxB (toE (p : Int)) es) := Lib.hid rfl
      rw [HI.out] at hpl HN
      clear HI
      generalize idxB (toE (p : Int)) es = l at o2 hpl HN
      generalize seatN es p = S at hA HN hsl
      have A1 : AppL w2 w.heap.size u3 vs (S ++ seatK l 0) := by
        have : S ++ seatK l 0 = S := by simp [seatK]
        rw [this]
        exact hA.keep k2
      have B1 : Beside w2 u3 v2 l := o2.beside (fun k hk => (hA.lt k hk).2)
      have K1 := hK.trans k2
      obtain ⟨a2, c2, rfl, -⟩ := o2.rd
      clear hA hK o2 k2
      obtain ⟨wo, rfl⟩ : ∃ wo : World, wo = w2 := ⟨_, rfl⟩
      go_wp2
      go_loopw [3, 16] (fun x i wr => ∃ k : Nat, ∃ vs : List Value, k ≤ l.length ∧ i = .int .i64 k ∧ AppL wr w.heap.size x vs (S ++ seatK l k) ∧ Beside wr x (.slice a2 l.length c2) l ∧ Keep w wr) (fun _ i _ => l.length - (intOf i).toNat)
      case atStart => exact ⟨0, vs, Nat.zero_le _, rfl, A1, B1, K1⟩
      case round =>
        obtain ⟨k, vs, hk, rfl, hA, hB, hK⟩ := hrel
        clear A1 B1 K1
        by_cases hkl : k < l.length
        · have HC : Hid (S ++ seatK l (k + 1) = S ++ seatK l k ++ [seatAt l k]) := Lib.hid (by rw [seatK_more, List.append_assoc])
          have hcl : (S ++ seatK l k).length = S.length + k := by rw [List.length_append, seatK_len]
          have hcap : l.length ≤ c2 := hB.cap
          have hRd := hB.rd
          obtain ⟨a', c', he', hRd⟩ := hRd
          simp only [Value.slice.injEq, true_and] at he'
          obtain ⟨rfl, rfl⟩ := he'
          rcases hRd with h0 | ⟨br, or', rfl, hbr, -⟩
          · exfalso; rw [h0] at hkl; simp at hkl
          have hF := hB.first (by omega)
          have hT := hB.rest (by omega)
          have i1 : (0 : Int) ≤ (k : Int) := Int.natCast_nonneg _
          have i2 : (k : Int) < (l.length : Int) := by omega
          have hsz := hK.size
          generalize S ++ seatK l k = D at hA HC hcl
          by_cases hk0 : k = 0
          · have HZ : Hid (seatAt l k = l.take 1) := Lib.hid (by unfold seatAt; rw [if_pos hk0])
            rw [HZ.out] at HC
            have hkb : ((k : Int) == 0) = true := by simp [hk0]
            have hA2 := hA.keep ((Keep.refl wr).alloc (.cells #[.slice (some ⟨br, or', none⟩) 1 c2] 27))
            have hB2 := hB.keep ((Keep.refl wr).alloc (.cells #[.slice (some ⟨br, or', none⟩) 1 c2] 27))
            have hU := hF.keep ((Keep.refl wr).alloc (.cells #[.slice (some ⟨br, or', none⟩) 1 c2] 27))
            have c1 : (1 : Int) ≤ (c2 : Int) := by omega
            clear hF hT hk0 HZ hA hB
            go_wp2_with (at_builtin; refine wpList_append_own_at _ rfl _ _ 60 rfl w.heap.size 27 i0 (.slice none 0 0) 1 24 Try.underlying60 hi hz0 hz1 hz2 rfl (by decide) _ _ _ rfl hA2.row ⟨_, 0, none⟩ 1 1 [.slice (some ⟨br, or', none⟩) 1 c2] rfl rfl ?c1 ?c2 ?c3 ?c4 ?c5 ?_)
            case c1 => exact cell_lone (Boxed.new _ _ _).cell
            case c2 => intro u hu; simp at hu; subst hu; rfl
            case c3 => unfold maxLen; omega
            case c4 => omega
            case c5 => first | omega | (simp; omega)
            intro v' w3 hown' hgrow _ hblk
            have hblk' : v'.ownBlock = u3.ownBlock ∨ v'.ownBlock = some (wr.alloc (.cells #[.slice (some ⟨br, or', none⟩) 1 c2] 27)).heap.size := by rw [heap_size]; exact hblk
            have hA3 := hA2.push hU (by rw [hcl]; exact hown') hgrow hblk'
            have hB3 := hB2.grow hgrow hblk'
            have hK3 : Keep w w3 := (hK.alloc _).grown hgrow (fun k hk => (hA2.lt k hk).1)
            clear hown' hgrow hblk hblk' hA2 hB2 hU hK
            go_wp2
            go_roundw
            case rel => exact ⟨k + 1, _, by omega, by go_num, by rw [HC.out]; exact hA3, hB3, hK3⟩
            case measure => simp [intOf]; omega
          · have HZ : Hid (seatAt l k = l.drop 1) := Lib.hid (by unfold seatAt; rw [if_neg hk0])
            rw [HZ.out] at HC
            have hkb : ((k : Int) == 0) = false := by simp; omega
            have hA2 := hA.keep ((Keep.refl wr).alloc (.cells #[.slice (some ⟨br, or' + 1, none⟩) (l.length - 1) (c2 - 1)] 27))
            have hB2 := hB.keep ((Keep.refl wr).alloc (.cells #[.slice (some ⟨br, or' + 1, none⟩) (l.length - 1) (c2 - 1)] 27))
            have hU := hT.keep ((Keep.refl wr).alloc (.cells #[.slice (some ⟨br, or' + 1, none⟩) (l.length - 1) (c2 - 1)] 27))
            have c1 : (1 : Int) ≤ (l.length : Int) := by omega
            have c2' : 1 < c2 := by omega
            have c3 : (l.length : Int) ≤ (c2 : Int) := by omega
            clear hF hT hk0 HZ hA hB
            go_wp2_with (at_builtin; refine wpList_append_own_at _ rfl _ _ 60 rfl w.heap.size 27 i0 (.slice none 0 0) 1 24 Try.underlying60 hi hz0 hz1 hz2 rfl (by decide) _ _ _ rfl hA2.row ⟨_, 0, none⟩ 1 1 [.slice (some ⟨br, or' + 1, none⟩) (l.length - 1) (c2 - 1)] rfl rfl ?c1 ?c2 ?c3 ?c4 ?c5 ?_)
            case c1 => exact cell_lone (Boxed.new _ _ _).cell
            case c2 => intro u hu; simp at hu; subst hu; rfl
            case c3 => unfold maxLen; omega
            case c4 => omega
            case c5 => first | omega | (simp; omega)
            intro v' w3 hown' hgrow _ hblk
            have hblk' : v'.ownBlock = u3.ownBlock ∨ v'.ownBlock = some (wr.alloc (.cells #[.slice (some ⟨br, or' + 1, none⟩) (l.length - 1) (c2 - 1)] 27)).heap.size := by rw [heap_size]; exact hblk
            have hA3 := hA2.push hU (by rw [hcl]; exact hown') hgrow hblk'
            have hB3 := hB2.grow hgrow hblk'
            have hK3 : Keep w w3 := (hK.alloc _).grown hgrow (fun k hk => (hA2.lt k hk).1)
            clear hown' hgrow hblk hblk' hA2 hB2 hU hK
            go_wp2
            go_roundw
            case rel => exact ⟨k + 1, _, by omega, by go_num, by rw [HC.out]; exact hA3, hB3, hK3⟩
            case measure => simp [intOf]; omega
        · obtain rfl : k = l.length := by omega
          have hN : AppL wr w.heap.size u3 vs (seatN es (p + 1)) := by rw [HN.out]; exact hA
          clear hA hB
          go_wp2
          go_roundw
          case rel => exact ⟨p + 1, vs, by omega, by go_num, hN, hK⟩
          case measure => simp [intOf]; omega
    · obtain rfl : p = 3 := by omega
      have HR := Lib.hid hA.rd
      go_wp2
      go_ret
      exact ⟨_, rfl, by rw [HS.out]; exact HR.out, hK⟩
end Go.Proofs.Ytkdebpfdiblliaa

/- Contract of the specification's l8Is: is a number in a list. -/
namespace Go.Proofs.Ytkdebpfdiblliaa
open Go.ChangeShapes Go.WideShapes Go.ChangeAt Go.RowKit

theorem isB_take {l : List Int} {n : Int} (h : ∀ i, i < l.length → l.getD i 0 ≠ n) : isB l n = false := by
  unfold isB
  rw [List.any_eq_false]
  intro x hx
  obtain ⟨i, hi, e⟩ := List.getElem_of_mem hx
  have := h i hi
  rw [List.getD_eq_getElem?_getD, List.getElem?_eq_getElem hi] at this
  simp only [Option.getD_some] at this
  rw [← e]
  simpa using this
theorem isB_at {l : List Int} {n : Int} {i : Nat} (hi : i < l.length) (h : l.getD i 0 = n) : isB l n = true := by
  unfold isB
  rw [List.any_eq_true]
  refine ⟨n, ?_, by simp⟩
  rw [← h, List.getD_eq_getElem?_getD, List.getElem?_eq_getElem hi]
  exact List.getElem_mem hi
set_option maxHeartbeats 1000000 in
theorem l8Is_any (w : World) (v : Value) (zs : List Int) (h : Rd w v zs) (hn : zs.length ≤ 1048576) (n : Int) :
    Calls Try.prog 84 #[v, .int .i64 n] w fun e w' => e = .returned (.bool (isB zs n)) ∧ w' = w := by
  obtain ⟨a, c, rfl, h⟩ := h
  go_enter Try.func84, Try.ntmps84
  go_wp2
  go_loop [5] (fun i => ∃ k : Nat, k ≤ zs.length ∧ i = .int .i64 k ∧ Hid (∀ i, i < k → zs.getD i 0 ≠ n)) (fun i => zs.length - (intOf i).toNat)
  case atStart => exact ⟨0, Nat.zero_le _, rfl, Lib.hid (fun i hi => absurd hi (Nat.not_lt_zero _))⟩
  case round =>
    obtain ⟨k, hk, rfl, hno⟩ := hrel
    by_cases hlt : k < zs.length
    · rcases h with h | ⟨b, o, rfl, hb, hc⟩
      · exfalso; rw [h] at hlt; simp at hlt
      have d1 := hc k hlt
      obtain ⟨p, hp⟩ : ∃ p, p = zs.getD k 0 := ⟨_, rfl⟩
      have HP := Lib.hid hp
      rw [← hp] at d1
      clear hc hp
      by_cases he : p = n
      · have hb : (p == n) = true := by simp [he]
        have HE : Hid (isB zs n = true) := Lib.hid (isB_at hlt (by rw [← HP.out]; exact he))
        clear he
        go_wp2
        go_ret
        exact ⟨by rw [HE.out]; rfl, rfl⟩
      · have hb : (p == n) = false := by simp [he]
        have HE : Hid (∀ i, i < k + 1 → zs.getD i 0 ≠ n) := Lib.hid (fun i hi => by
          by_cases e : i = k
          · subst e; rw [← HP.out]; exact he
          · exact hno.out i (by omega))
        clear he
        go_wp2
        go_round
        case rel => exact ⟨k + 1, by omega, by go_num, HE⟩
        case measure => simp [intOf]; omega
    · obtain rfl : k = zs.length := by omega
      have HE : Hid (isB zs n = false) := Lib.hid (isB_take hno.out)
      go_wp2
      go_ret
      exact ⟨by rw [HE.out]; rfl, rfl⟩
theorem new_one (w : World) (u : Value) (n : Nat) (hn : w.heap.size = n) : ∀ j y, ([u] : List Value)[j]? = some y → (w.alloc (.cells #[u] 27)).cell? ((⟨n, 0, none⟩ : Addr).add j) = some y := by
  subst hn
  intro j y hj
  match j, hj with
  | 0, hj => simp at hj; subst hj; simp [Addr.add]
end Go.Proofs.Ytkdebpfdiblliaa

/- Contracts of slices.Index and slices.Contains of a list of numbers. -/
namespace Go.Proofs.Ytkdebpfdiblliaa
open Go.ChangeShapes Go.WideShapes Go.ChangeAt Go.RowKit

set_option maxHeartbeats 1000000 in
theorem index_any (w : World) (v : Value) (zs : List Int) (h : Rd w v zs) (hn : zs.length ≤ 1048576) (n : Int) :
    Calls Try.prog 83 #[v, .int .i64 n] w fun e w' => ∃ r : Int, e = .returned (.int .i64 r) ∧ Hid (decide (0 ≤ r) = isB zs n) ∧ w' = w := by
  obtain ⟨a, c, rfl, h⟩ := h
  go_enter Try.func83, Try.ntmps83
  go_wp2
  go_loop [8] (fun i => ∃ k : Nat, k ≤ zs.length ∧ i = .int .i64 k ∧ Hid (∀ i, i < k → zs.getD i 0 ≠ n)) (fun i => zs.length - (intOf i).toNat)
  case atStart => exact ⟨0, Nat.zero_le _, rfl, Lib.hid (fun i hi => absurd hi (Nat.not_lt_zero _))⟩
  case round =>
    obtain ⟨k, hk, rfl, hno⟩ := hrel
    by_cases hlt : k < zs.length
    · rcases h with h | ⟨b, o, rfl, hb, hc⟩
      · exfalso; rw [h] at hlt; simp at hlt
      have d1 := hc k hlt
      obtain ⟨p, hp⟩ : ∃ p, p = zs.getD k 0 := ⟨_, rfl⟩
      have HP := Lib.hid hp
      rw [← hp] at d1
      clear hc hp
      have i1 : (0 : Int) ≤ (k : Int) := Int.natCast_nonneg _
      have i2 : (k : Int) < (zs.length : Int) := by omega
      by_cases he : p = n
      · have hb : (n == p) = true := by simp [he]
        have HE : Hid (isB zs n = true) := Lib.hid (isB_at hlt (by rw [← HP.out]; exact he))
        clear he
        go_wp2
        go_ret
        exact ⟨k, rfl, Lib.hid (by rw [HE.out]; simp), rfl⟩
      · have hb : (n == p) = false := by simp; exact fun h => he h.symm
        have HE : Hid (∀ i, i < k + 1 → zs.getD i 0 ≠ n) := Lib.hid (fun i hi => by
          by_cases e : i = k
          · subst e; rw [← HP.out]; exact he
          · exact hno.out i (by omega))
        clear he
        go_wp2
        go_round
        case rel => exact ⟨k + 1, by omega, by go_num, HE⟩
        case measure => simp [intOf]; omega
    · obtain rfl : k = zs.length := by omega
      have HE : Hid (isB zs n = false) := Lib.hid (isB_take hno.out)
      go_wp2
      go_ret
      exact ⟨-1, rfl, Lib.hid (by rw [HE.out]; rfl), rfl⟩
theorem contains_any (w : World) (v : Value) (zs : List Int) (h : Rd w v zs) (hn : zs.length ≤ 1048576) (n : Int) :
    Calls Try.prog 50 #[v, .int .i64 n] w fun e w' => e = .returned (.bool (isB zs n)) ∧ w' = w := by
  go_enter Try.func50, Try.ntmps50
  go_wp2_with fail
  refine (index_any _ _ _ h hn _).mono ?_
  rintro e w1 ⟨r, rfl, hr, rfl⟩
  go_wp2
  go_ret
  exact ⟨by rw [← hr.out]; rfl, rfl⟩
end Go.Proofs.Ytkdebpfdiblliaa

/- What the walk over the seats finds is just all rows, in their order; whoever has a seat that he may have, and no other, has right rows. -/
namespace Go.Proofs.Ytkdebpfdiblliaa

theorem all_app : ∀ (s1 s2 : List (List Int)) (a : List Int), allS (s1 ++ s2) a = (allS s1 a).flatMap (allS s2)
  | [], s2, a => by simp [allS]
  | s :: r, s2, a => by
    rw [List.cons_append, allS, allS, List.flatMap_assoc]
    congr 1
    funext x
    exact all_app r s2 _
theorem flat_congr {α β : Type} {l : List α} {f g : α → List β} (h : ∀ x ∈ l, f x = g x) : l.flatMap f = l.flatMap g := by
  induction l with
  | nil => rfl
  | cons x r ih => rw [List.flatMap_cons, List.flatMap_cons, h x (by simp), ih (fun y hy => h y (by simp [hy]))]
theorem range_flat {β : Type} (b : Nat) (hb : 0 < b) (g : Nat → Nat → β) : ∀ a : Nat, (List.range a).flatMap (fun i => (List.range b).map (g i)) = (List.range (a * b)).map (fun n => g (n / b) (n % b))
  | 0 => by simp
  | a + 1 => by
    rw [List.range_succ, List.flatMap_append, range_flat b hb g a, Nat.succ_mul, List.range_add, List.map_append, List.map_map]
    congr 1
    simp only [List.flatMap_cons, List.flatMap_nil, List.append_nil]
    refine List.map_congr_left (fun j hj => ?_)
    rw [List.mem_range] at hj
    have h1 : (a * b + j) / b = a := by rw [Nat.mul_comm, Nat.mul_add_div hb, Nat.div_eq_of_lt hj]; omega
    have h2 : (a * b + j) % b = j := by rw [Nat.mul_comm, Nat.mul_add_mod, Nat.mod_eq_of_lt hj]
    simp only [Function.comp, h1, h2]
def facN (m : Nat) : Nat := (fac m).toNat
theorem facN_cast (m : Nat) : ((facN m : Nat) : Int) = fac m := by
  have := fac_pos m
  unfold facN
  omega
theorem facN_pos (m : Nat) : 0 < facN m := by
  have := fac_pos m
  unfold facN
  omega
theorem facN_more (m : Nat) : facN (m + 1) = (m + 1) * facN m := by
  have h := facN_cast (m + 1)
  rw [fac, ← facN_cast m] at h
  have : ((facN m : Nat) : Int) * ((m : Int) + 1) = (((m + 1) * facN m : Nat) : Int) := by
    rw [Int.natCast_mul, Int.mul_comm]; rfl
  rw [this] at h
  exact Int.ofNat.inj h
theorem filter_erase : ∀ (l : List Int) (k : Nat), l.Nodup → k < l.length → l.filter (fun y => !(l.getD k 0 == y)) = l.eraseIdx k
  | [], k, _, h => by simp at h
  | x :: r, 0, hn, _ => by
    rw [List.nodup_cons] at hn
    rw [List.getD_cons_zero, List.eraseIdx_cons_zero, List.filter_cons, if_neg (by simp), List.filter_eq_self]
    intro y hy
    have : x ≠ y := fun e => hn.1 (by rw [e]; exact hy)
    simpa using this
  | x :: r, k + 1, hn, h => by
    rw [List.nodup_cons] at hn
    have hk : k < r.length := by simpa using h
    have hm : r.getD k 0 ∈ r := by
      rw [List.getD_eq_getElem?_getD, List.getElem?_eq_getElem hk]
      exact List.getElem_mem hk
    have hne : r.getD k 0 ≠ x := fun e => hn.1 (by rw [← e]; exact hm)
    rw [List.getD_cons_succ, List.eraseIdx_cons_succ, List.filter_cons, if_pos (by simpa using hne), filter_erase r k hn.2 hk]
theorem isB_snoc (a : List Int) (x y : Int) : isB (a ++ [x]) y = (isB a y || (x == y)) := by
  unfold isB
  rw [List.any_append]
  simp
theorem next_snoc (l a : List Int) (x : Int) : nextL l (a ++ [x]) (-1) = (nextL l a (-1)).filter (fun y => !(x == y)) := by
  unfold nextL
  rw [List.filter_filter]
  refine List.filter_congr (fun y _ => ?_)
  rw [isB_snoc]
  cases isB a y <;> cases (x == y) <;> simp
theorem list_range (l : List Int) : l = (List.range l.length).map (fun k => l.getD k 0) := by
  refine List.ext_getElem (by simp) (fun i h1 h2 => ?_)
  simp [List.getElem?_eq_getElem h1]
/-- All orders of those that are left. -/
theorem ord_all : ∀ (m : Nat) (l a : List Int), (nextL l a (-1)).Nodup → (nextL l a (-1)).length = m → allS (List.replicate m l) a = (List.range (facN m)).map (fun n : Nat => a ++ ordL m (nextL l a (-1)) (n : Int))
  | 0, l, a, _, _ => by
    have : facN 0 = 1 := by decide
    rw [this]
    simp [allS, ordL]
  | m + 1, l, a, hn, hl => by
    rw [List.replicate_succ, allS]
    have e1 : (nextL l a (-1)).flatMap (fun x => allS (List.replicate m l) (a ++ [x])) = (List.range (m + 1)).flatMap (fun k => (List.range (facN m)).map (fun n : Nat => a ++ [(nextL l a (-1)).getD k 0] ++ ordL m ((nextL l a (-1)).eraseIdx k) (n : Int))) := by
      have e0 := list_range (nextL l a (-1))
      rw [hl] at e0
      conv => lhs; rw [e0, List.flatMap_map]
      refine flat_congr (fun k hk => ?_)
      rw [List.mem_range] at hk
      have hx := next_snoc l a ((nextL l a (-1)).getD k 0)
      rw [filter_erase _ k hn (by omega)] at hx
      have ih := ord_all m l (a ++ [(nextL l a (-1)).getD k 0]) (by rw [hx]; exact erase_nodup hn k) (by rw [hx]; exact erase_len hl hk)
      rw [hx] at ih
      exact ih
    rw [e1, range_flat _ (facN_pos m) (fun k n => a ++ [(nextL l a (-1)).getD k 0] ++ ordL m ((nextL l a (-1)).eraseIdx k) (n : Int)), facN_more]
    refine List.map_congr_left (fun n _ => ?_)
    rw [ordL, ← facN_cast m, ← Int.natCast_ediv, ← Int.natCast_emod, Int.toNat_natCast, List.append_assoc]
    rfl
theorem next_all {l a : List Int} (h0 : ∀ x ∈ l, 0 ≤ x) (hd : ∀ x ∈ l, isB a x = false) : nextL l a (-1) = l := by
  unfold nextL
  rw [List.filter_eq_self]
  intro x hx
  have := h0 x hx
  rw [hd x hx]
  simp
  omega
theorem isB_false {l : List Int} {x : Int} : isB l x = false ↔ x ∉ l := by
  constructor
  · intro h hm
    rw [mem_isB hm] at h
    cases h
  · intro h
    cases hb : isB l x
    · rfl
    · exact absurd (isB_mem hb) h
/-- All orders of the writes at one place. -/
theorem place_all {l a : List Int} (hl : 0 < l.length) (hn : l.Nodup) (h0 : ∀ x ∈ l, 0 ≤ x) (hd : ∀ x ∈ l, x ∉ a) : allS (seatP l) a = (List.range (facN (l.length - 1))).map (fun n : Nat => a ++ partL l (n : Int)) := by
  match l, hl with
  | x :: r, _ =>
    rw [List.nodup_cons] at hn
    have e1 : nextL [x] a (-1) = [x] := next_all (fun y hy => h0 y (by simp at hy; simp [hy])) (fun y hy => isB_false.2 (hd y (by simp at hy; simp [hy])))
    have e2 : nextL r (a ++ [x]) (-1) = r := next_all (fun y hy => h0 y (by simp [hy])) (fun y hy => isB_false.2 (by
      rw [List.mem_append]
      rintro (h | h)
      · exact hd y (by simp [hy]) h
      · rw [List.mem_singleton] at h
        exact hn.1 (by rw [← h]; exact hy)))
    have e3 := ord_all r.length r (a ++ [x]) (by rw [e2]; exact hn.2) (by rw [e2])
    rw [e2] at e3
    rw [seatP_cons, allS, e1, List.flatMap_cons, List.flatMap_nil, List.append_nil, e3]
    simp only [List.length_cons, Nat.add_sub_cancel]
    refine List.map_congr_left (fun n _ => ?_)
    rw [partL, List.append_assoc]
    simp
theorem part_mem {l : List Int} {n : Nat} (hl : 0 < l.length) (h : n < facN (l.length - 1)) {x : Int} : x ∈ partL l (n : Int) ↔ x ∈ l := by
  have hc := facN_cast (l.length - 1)
  exact (part_perm hl (Int.natCast_nonneg _) (by omega)).mem_iff
theorem rcnt_nat (es : List Ev) : ((facN ((plcW es 0).length - 1) * facN ((plcW es 1).length - 1) * facN ((plcW es 2).length - 1) : Nat) : Int) = rcntL es := by
  unfold rcntL
  rw [Int.natCast_mul, Int.natCast_mul, facN_cast, facN_cast, facN_cast]
/-- All rows. -/
theorem all_rows {dss : List (List Dd)} (hb : workB dss = true) : allS (seatsL (eventsB dss)) [] = (List.range (rcntL (eventsB dss)).toNat).map (fun n : Nat => ratL (eventsB dss) (n : Int)) := by
  obtain ⟨p0, -⟩ := plcW_first hb 0 (by decide)
  obtain ⟨p1, -⟩ := plcW_first hb 1 (by decide)
  obtain ⟨p2, -⟩ := plcW_first hb 2 (by decide)
  have h12 := eventsB_12 dss
  generalize eventsB dss = es at *
  have dis : ∀ {p q : Nat}, p ≠ q → ∀ a ∈ plcW es p, a ∉ plcW es q := fun {p q} hpq a ha hb => by
    have h1 := (plcW_mem h12 ha).2
    have h2 := (plcW_mem h12 hb).2
    rw [h2] at h1
    omega
  have e0 := place_all (a := []) p0 (plcW_nodup h12 0) (fun x hx => (plcW_mem h12 hx).1.1) (fun x _ => by simp)
  unfold seatsL
  rw [all_app, all_app, e0]
  have e1 : ((List.range (facN ((plcW es 0).length - 1))).map (fun n : Nat => [] ++ partL (plcW es 0) (n : Int))).flatMap (allS (seatP (plcW es 1))) = (List.range (facN ((plcW es 0).length - 1) * facN ((plcW es 1).length - 1))).map (fun n : Nat => partL (plcW es 0) ((n / facN ((plcW es 1).length - 1) : Nat) : Int) ++ partL (plcW es 1) ((n % facN ((plcW es 1).length - 1) : Nat) : Int)) := by
    rw [List.flatMap_map, ← range_flat _ (facN_pos _) (fun i j => partL (plcW es 0) ((i : Nat) : Int) ++ partL (plcW es 1) ((j : Nat) : Int))]
    refine flat_congr (fun n hn => ?_)
    rw [List.mem_range] at hn
    rw [List.nil_append]
    exact place_all p1 (plcW_nodup h12 1) (fun x hx => (plcW_mem h12 hx).1.1) (fun x hx h => dis (by decide) x hx ((part_mem p0 hn).1 h))
  rw [e1, List.flatMap_map]
  have e2 : (List.range (facN ((plcW es 0).length - 1) * facN ((plcW es 1).length - 1))).flatMap (fun n : Nat => allS (seatP (plcW es 2)) (partL (plcW es 0) ((n / facN ((plcW es 1).length - 1) : Nat) : Int) ++ partL (plcW es 1) ((n % facN ((plcW es 1).length - 1) : Nat) : Int))) =
      (List.range (facN ((plcW es 0).length - 1) * facN ((plcW es 1).length - 1))).flatMap (fun n : Nat => (List.range (facN ((plcW es 2).length - 1))).map (fun m : Nat => partL (plcW es 0) ((n / facN ((plcW es 1).length - 1) : Nat) : Int) ++ partL (plcW es 1) ((n % facN ((plcW es 1).length - 1) : Nat) : Int) ++ partL (plcW es 2) (m : Int))) := by
    refine flat_congr (fun n hn => ?_)
    rw [List.mem_range] at hn
    refine place_all p2 (plcW_nodup h12 2) (fun x hx => (plcW_mem h12 hx).1.1) (fun x hx h => ?_)
    rcases List.mem_append.1 h with h | h
    · exact dis (by decide) x hx ((part_mem p0 (Nat.div_lt_of_lt_mul (by rw [Nat.mul_comm]; exact hn))).1 h)
    · exact dis (by decide) x hx ((part_mem p1 (Nat.mod_lt _ (facN_pos _))).1 h)
  rw [e2, range_flat _ (facN_pos _) (fun n m => partL (plcW es 0) ((n / facN ((plcW es 1).length - 1) : Nat) : Int) ++ partL (plcW es 1) ((n % facN ((plcW es 1).length - 1) : Nat) : Int) ++ partL (plcW es 2) ((m : Nat) : Int))]
  rw [← rcnt_nat, Int.toNat_natCast]
  refine List.map_congr_left (fun n hn => ?_)
  rw [List.mem_range] at hn
  have hr := rat_parts (es := es) (n := (n : Int)) (Int.natCast_nonneg _) (by rw [← rcnt_nat]; exact Int.ofNat_lt.2 hn)
  unfold ratL
  rw [Int.emod_eq_of_lt hr.2.2.1 hr.2.2.2, ← facN_cast, ← facN_cast, ← Int.natCast_ediv, ← Int.natCast_ediv, ← Int.natCast_emod, ← Int.natCast_emod]
theorem rcnt_pos (es : List Ev) : 0 < rcntL es := Int.mul_pos (Int.mul_pos (fac_pos _) (fac_pos _)) (fac_pos _)
theorem fac_mono9 {m : Nat} (h : m ≤ 9) : fac m ≤ 362880 := by
  have : ∀ j : Nat, j ≤ 9 → fac j ≤ 362880 := by decide +kernel
  exact this m h
theorem plcW_9 {es : List Ev} (hx : es.length ≤ 9) (p : Nat) : (plcW es p).length ≤ 9 := by
  unfold plcW idxB
  rw [if_pos (by omega)]
  have := idxK_len (toE (p : Int)) es es.length
  omega
/-- What there is: as a list, and how many. -/
theorem all_none {dss : List (List Dd)} (hb : workB dss = false) : allS (seatsL (eventsB dss)) [] = [[]] := by
  have : eventsB dss = [] := by rw [eventsB, hb]; rfl
  rw [this]
  rfl
end Go.Proofs.Ytkdebpfdiblliaa
