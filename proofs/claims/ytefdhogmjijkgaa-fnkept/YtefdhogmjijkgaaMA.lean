/- Several texts in one. -/
import Derived.WalkKit
import Derived.ProofKit
import Derived.Laws.BitsAllLaws
import Derived.Laws.BitsLemmas
import Derived.Test.YtefdhogmjijkgaaRows
import Derived.OpenShut
import Derived.Below
import Derived.WalkSmall
import Derived.Laws.Rows
import Derived.Laws.ResultCell
import Derived.Lib.IndexMore
import Derived.Lib.ParseIntB
import Derived.Lib.ItoaNum
import Derived.Deep.Slices
import Derived.Lib.SmallJoins
/- Plain facts on numbers, bits and lists that the contracts of this seat speak of: nothing of the program. -/
namespace Go.Proofs.Ytefdhogmjijkgaa
open Go.RowKit

theorem ret_bool {a b : Bool} (h : a = b) : Ending.returned (.bool a) = .returned (.bool b) := by rw [h]
theorem ret_int {k : IntKind} {a b : Int} (h : a = b) : Ending.returned (.int k a) = .returned (.int k b) := by rw [h]

theorem ofInt_i64 (a : Nat) (ha : a < 9223372036854775808) : (BitVec.ofInt 64 (a : Int)).toNat = a := ofInt_u64 a (by omega)
theorem i64_or_nat (a b : Nat) (ha : a < 9223372036854775808) (hb : b < 9223372036854775808) : bits .or .i64 (a : Int) (b : Int) = ((a ||| b : Nat) : Int) := by
  have hx : a ||| b < 2 ^ 63 := Nat.or_lt_two_pow (by omega) (by omega)
  show IntKind.i64.wrap ((BitVec.ofInt 64 (a : Int) ||| BitVec.ofInt 64 (b : Int)).toNat : Int) = _
  rw [BitVec.toNat_or, ofInt_i64 a ha, ofInt_i64 b hb, IntKind.wrap_i64]
  omega
theorem i64_and_nat (a b : Nat) (ha : a < 9223372036854775808) (hb : b < 9223372036854775808) : bits .and .i64 (a : Int) (b : Int) = ((a &&& b : Nat) : Int) := by
  have hx : a &&& b < 2 ^ 63 := Nat.and_lt_two_pow _ (by omega)
  show IntKind.i64.wrap ((BitVec.ofInt 64 (a : Int) &&& BitVec.ofInt 64 (b : Int)).toNat : Int) = _
  rw [BitVec.toNat_and, ofInt_i64 a ha, ofInt_i64 b hb, IntKind.wrap_i64]
  omega
theorem pow_le12 (n : Nat) (h : n ≤ 12) : (2 : Int) ^ n ≤ 4096 ∧ (1 : Int) ≤ 2 ^ n := by
  have : n = 0 ∨ n = 1 ∨ n = 2 ∨ n = 3 ∨ n = 4 ∨ n = 5 ∨ n = 6 ∨ n = 7 ∨ n = 8 ∨ n = 9 ∨ n = 10 ∨ n = 11 ∨ n = 12 := by omega
  rcases this with rfl | rfl | rfl | rfl | rfl | rfl | rfl | rfl | rfl | rfl | rfl | rfl | rfl <;> decide
theorem wrap64_small (x : Int) (h1 : -9223372036854775808 ≤ x) (h2 : x ≤ 9223372036854775807) : wrap64 x = x := by
  simp only [wrap64]; omega
theorem wrap64_pow (n : Int) (h0 : 0 ≤ n) (h : n ≤ 12) : wrap64 (2 ^ n.toNat) = 2 ^ n.toNat := by
  have := pow_le12 n.toNat (by omega)
  exact wrap64_small _ (by omega) (by omega)

/-- Is x from lo to hi? -/
def inB (x lo hi : Int) : Bool := decide (lo ≤ x ∧ x ≤ hi)
/-- Is s a set of n? -/
def okB (n s : Int) : Bool := decide ((0 ≤ n ∧ n ≤ 12) ∧ 0 ≤ s ∧ s < 2 ^ n.toNat)
/-- Is the bit i in s? -/
def bitB (s i : Int) : Bool := bits .and .i64 (s / 2 ^ i.toNat) 1 == 1
/-- Is i in the set s? -/
def inSetB (s i : Int) : Bool := inB i 0 11 && inB s 0 4095 && bitB s i
/-- Those of the first k that are in s. -/
def mem (s : Int) : Nat → List Int
  | 0 => []
  | k + 1 => mem s k ++ (if inSetB s k = true then [(k : Int)] else [])
/-- One more is gathered. -/
def gAdd (s i : Int) : Int := if s = -1 ∨ inB i 0 11 = false then -1 else bits .or .i64 s (wrap64 (2 ^ i.toNat))
/-- The set of a list; -1 where there is none. -/
def gath (l : List Int) : Int := l.foldl gAdd 0

/-- Is n in the list? -/
def hasB (n : Int) (zs : List Int) : Bool := decide (n ∈ zs)

theorem mem_len (s : Int) (k : Nat) : (mem s k).length ≤ k := by
  induction k with
  | zero => simp [mem]
  | succ k ih => unfold mem; split <;> simp <;> omega
theorem mem_out (s : Int) (h : inB s 0 4095 = false) (k : Nat) : mem s k = [] := by
  induction k with
  | zero => rfl
  | succ k ih => unfold mem; rw [ih]; simp [inSetB, h]
theorem gath_snoc (l : List Int) (i : Int) : gath (l ++ [i]) = gAdd (gath l) i := by simp [gath]
theorem gAdd_bad (s i : Int) (h : inB i 0 11 = false) : gAdd s i = -1 := by simp [gAdd, h]
theorem gAdd_none (i : Int) : gAdd (-1) i = -1 := by simp [gAdd]
theorem gAdd_ok (s i : Int) (h0 : 0 ≤ s) (h : inB i 0 11 = true) : gAdd s i = bits .or .i64 s (wrap64 (2 ^ i.toNat)) := by
  have : ¬ s = -1 := by omega
  simp [gAdd, h, this]
theorem gAdd_range (s i : Int) (h0 : 0 ≤ s) (h1 : s ≤ 4095) (h : inB i 0 11 = true) : 0 ≤ gAdd s i ∧ gAdd s i ≤ 4095 := by
  rw [gAdd_ok s i h0 h]
  simp [inB] at h
  obtain ⟨a, rfl⟩ := Int.eq_ofNat_of_zero_le h0
  rw [wrap64_pow i (by omega) (by omega)]
  have hp := pow_le12 i.toNat (by omega)
  have hq : (2 : Nat) ^ i.toNat < 2 ^ 12 := Nat.pow_lt_pow_right (by omega) (by omega)
  have e : ((2 : Int) ^ i.toNat) = ((2 ^ i.toNat : Nat) : Int) := by simp
  rw [e, i64_or_nat a _ (by omega) (by omega)]
  have hx : a ||| 2 ^ i.toNat < 2 ^ 12 := Nat.or_lt_two_pow (by omega) hq
  omega
theorem foldl_none (l : List Int) : l.foldl gAdd (-1) = -1 := by
  induction l with
  | nil => rfl
  | cons a l ih => simp only [List.foldl_cons, gAdd_none]; exact ih
theorem gath_bad (l : List Int) (k : Nat) (hk : k < l.length) (h : inB (l.getD k 0) 0 11 = false) : gath l = -1 := by
  have e : l = l.take k ++ (l.getD k 0) :: l.drop (k + 1) := by
    rw [List.getD_eq_getElem?_getD, List.getElem?_eq_getElem hk]; simp
  unfold gath
  rw [e, List.foldl_append, List.foldl_cons]
  have hb : gAdd (List.foldl gAdd 0 (l.take k)) (l.getD k 0) = -1 := gAdd_bad _ _ h
  rw [hb]
  exact foldl_none _
theorem take_snoc (l : List Int) (k : Nat) (h : k < l.length) : l.take (k + 1) = l.take k ++ [l.getD k 0] := by
  rw [List.take_succ_eq_append_getElem h, List.getD_eq_getElem?_getD, List.getElem?_eq_getElem h]; rfl
end Go.Proofs.Ytefdhogmjijkgaa

/- What the contracts of this seat say of memory: 'Keep': all that was there is there as it was; 'Rd': a list of numbers that can be read; 'Own': one in memory that the call itself made. -/
namespace Go.Proofs.Ytefdhogmjijkgaa
open Go.ChangeShapes Go.WideShapes Go.ChangeAt Go.RowKit

def Keep (w w' : World) : Prop := Below w.heap.size w w'
theorem Keep.refl (w : World) : Keep w w := Below.refl _ _
theorem Keep.size {w w' : World} (h : Keep w w') : w.heap.size ≤ w'.heap.size := Below.size h
theorem Keep.trans {a b c : World} (h : Keep a b) (k : Keep b c) : Keep a c := Below.trans h (Below.mono k h.size)
theorem Keep.drew {a w : World} (h : Keep a w) : Keep a w.drew := Below.drew h
theorem Keep.drewN {a w : World} (h : Keep a w) (n : Nat) : Keep a (w.drewN n) := below_drewN h n
theorem Keep.alloc {a w : World} (h : Keep a w) (o : Obj) : Keep a (w.alloc o) := Below.alloc h h.size o
theorem Keep.grown {a w w' : World} {row : Option Nat} (h : Keep a w) (hg : w.grownBy w' row) (hr : ∀ k, row = some k → a.heap.size ≤ k) : Keep a w' := Below.grown h hg h.size hr
theorem Keep.grownBy {w w' : World} (h : Keep w w') : w.grownBy w' none := ⟨Below.os h, Below.tape h, Below.output h, Below.size h, fun k hk _ => Below.block h k hk⟩
theorem Keep.cell {w w' : World} (h : Keep w w') {b o : Nat} (hb : b < w.heap.size) : w'.cell? ⟨b, o, none⟩ = w.cell? ⟨b, o, none⟩ := Below.cell h hb

theorem grown_trans {a b c : World} {row : Option Nat} (h : a.grownBy b row) (k : b.grownBy c row) : a.grownBy c row :=
  ⟨k.os.trans h.os, k.tape.trans h.tape, k.output.trans h.output, Nat.le_trans h.size k.size, fun i hi hne => (k.block i (Nat.lt_of_lt_of_le hi h.size) hne).trans (h.block i hi hne)⟩

def Rd (w : World) (v : Value) (zs : List Int) : Prop :=
  ∃ (a : Option Addr) (cap : Nat), v = .slice a zs.length cap ∧
    (zs = [] ∨ ∃ b off, a = some ⟨b, off, none⟩ ∧ b < w.heap.size ∧ ∀ i, i < zs.length → w.cell? ⟨b, off + i, none⟩ = some (.int .i64 (zs.getD i 0)))
theorem Rd.keep {w w' : World} {v : Value} {zs : List Int} (h : Rd w v zs) (k : Keep w w') : Rd w' v zs := by
  obtain ⟨a, cap, hv, h⟩ := h
  refine ⟨a, cap, hv, ?_⟩
  rcases h with h | ⟨b, off, ha, hb, hc⟩
  · exact .inl h
  · exact .inr ⟨b, off, ha, Nat.lt_of_lt_of_le hb k.size, fun i hi => (k.cell hb).trans (hc i hi)⟩

def Own (w : World) (base : Nat) (v : Value) (zs : List Int) : Prop := w.ownsRow base 2 1 v zs.length (zs.map (Value.int .i64))
theorem Own.kept {w w' : World} {base : Nat} {v : Value} {zs : List Int} {row : Option Nat} (h : Own w base v zs) (hg : w.grownBy w' row) (hne : v.ownBlock = none ∨ v.ownBlock ≠ row) : Own w' base v zs :=
  World.ownsRow.kept h hg hne
theorem Own.keep {w w' : World} {base : Nat} {v : Value} {zs : List Int} (h : Own w base v zs) (k : Keep w w') : Own w' base v zs :=
  Own.kept h k.grownBy (by cases v.ownBlock <;> simp)
theorem Own.rd {w : World} {base : Nat} {v : Value} {zs : List Int} (h : Own w base v zs) : Rd w v zs := by
  have hlt := World.ownsRow.lt h
  rcases h.2 with ⟨rfl, hn⟩ | ⟨g, cap, cur, rfl, hb, hg, rest⟩
  · have : zs = [] := List.eq_nil_of_length_eq_zero hn
    subst this
    exact ⟨none, 0, rfl, .inl rfl⟩
  · refine ⟨some ⟨g, 0, none⟩, cap, rfl, .inr ⟨g, 0, rfl, (hlt g rfl).2, fun i hi => ?_⟩⟩
    have hc := World.ownsRow.cellAt h i (by simpa using hi)
    rw [Nat.zero_add, hc, List.getElem?_map, List.getElem?_eq_getElem hi, List.getD_eq_getElem?_getD, List.getElem?_eq_getElem hi]
    rfl
theorem Own.base_le {w : World} {base base' : Nat} {v : Value} {zs : List Int} (h : Own w base v zs) (hb : base' ≤ base) : Own w base' v zs := by
  refine ⟨h.1, ?_⟩
  rcases h.2 with h | ⟨g, cap, cur, hv, hg, rest⟩
  · exact .inl h
  · exact .inr ⟨g, cap, cur, hv, Nat.le_trans hb hg, rest⟩
theorem Own.ge {w : World} {base : Nat} {v : Value} {zs : List Int} (h : Own w base v zs) : ∀ k, v.ownBlock = some k → base ≤ k := fun k hk => (World.ownsRow.lt h k hk).1
theorem Own.apart {w w' : World} {base : Nat} {v v' : Value} {zs zs' : List Int} (h : Own w base v zs) (h' : Own w' w.heap.size v' zs') : v.ownBlock = none ∨ v.ownBlock ≠ v'.ownBlock := by
  cases hv : v.ownBlock with
  | none => exact .inl rfl
  | some k =>
    refine .inr fun e => ?_
    have h1 := (World.ownsRow.lt h k hv).2
    have h2 := h'.ge k e.symm
    omega
/-- What the shell tells of a slice that came in, as a list that can be read. -/
theorem rd_of_row {w : World} {a : Option Addr} {len cap : Nat} {ys : List Int}
    (h : (a = none ∧ len = 0 ∧ cap = 0 ∧ ys = []) ∨ ∃ x, a = some x ∧ len ≤ cap ∧ cap ≤ maxLen ∧ ys.length = cap ∧ (∀ i, i < ys.length → w.cell? (x.add i) = some (.int .i64 (ys.getD i 0))) ∧ ∀ n ∈ ys, (Lit.int .i64 n).wf = true) :
    ∃ zs : List Int, zs.length = len ∧ Rd w (.slice a len cap) zs := by
  rcases h with ⟨rfl, rfl, rfl, rfl⟩ | ⟨x, rfl, hl, hm, hy, hc, _⟩
  · exact ⟨[], rfl, none, 0, rfl, .inl rfl⟩
  · have hzl : (ys.take len).length = len := by rw [List.length_take]; omega
    refine ⟨ys.take len, hzl, some x, cap, by rw [hzl], ?_⟩
    by_cases h0 : len = 0
    · left; subst h0; simp
    · right
      obtain ⟨b, off, spot⟩ := x
      have hc0 := hc 0 (by omega)
      have hspot : spot = none := by simpa [Addr.add] using World.cell?_spot hc0
      subst hspot
      have hcc : ∀ i, i < (ys.take len).length → w.cell? ⟨b, off + i, none⟩ = some (.int .i64 ((ys.take len).getD i 0)) := by
        intro i hi
        have h1 := hc i (by omega)
        have e1 : (⟨b, off, none⟩ : Addr).add i = ⟨b, off + i, none⟩ := by unfold Addr.add; split <;> simp_all
        rw [e1] at h1
        rw [h1, List.getD_eq_getElem?_getD, List.getD_eq_getElem?_getD, List.getElem?_take, if_pos (by omega)]
      refine ⟨b, off, rfl, ?_, hcc⟩
      have h2 := hcc 0 (by omega)
      apply Classical.byContradiction
      intro hnb
      have h3 : w.heap[b]? = none := by simp; omega
      simp [World.cell?, h3] at h2
theorem own_hit {w : World} {base : Nat} {v : Value} {zs : List Int} {x : Int} (h : w.ownsRow base 2 1 v (zs.length + 1) (zs.map (Value.int .i64) ++ [.int .i64 x])) : Own w base v (zs ++ [x]) := by
  unfold Own; simpa using h
theorem Try.infoI : (Try.prog.info? 2).map (fun i => (i.zero, i.size, i.bytes)) = some (some (.int .i64 0), 1, 8) := by kernel_rfl
end Go.Proofs.Ytefdhogmjijkgaa

/- How a function hands back structs that lie in blocks of its own: one, two, or one beside a plain value. -/
namespace Go.Proofs.Ytefdhogmjijkgaa
open Go.ChangeShapes Go.WideShapes Go.ChangeAt Go.RowKit

theorem heap_at (w : World) (A : Obj) (i : Nat) : (w.alloc A).heap[i]? = if i = w.heap.size then some A else w.heap[i]? := Array.getElem?_push
theorem heap_size (w : World) (A : Obj) : (w.alloc A).heap.size = w.heap.size + 1 := Array.size_push _
theorem heap_drew (w : World) : w.drew.heap = w.heap := rfl
theorem heap_drewN (w : World) (n : Nat) : (w.drewN n).heap = w.heap := rfl
theorem box_size {w w1 : World} {o : Obj} (k : Keep (w.alloc o) w1) : w.heap.size < w1.heap.size := by
  have := k.size
  rw [heap_size] at this
  omega
theorem box_cell {w w1 : World} {cs : Array Value} {t : TypeId} (k : Keep (w.alloc (.cells cs t)) w1) (i : Nat) : w1.cell? ⟨w.heap.size, i, none⟩ = cs[i]? := by
  rw [k.cell (by rw [heap_size]; omega), cell_of_row (w.alloc (.cells cs t)) w.heap.size i cs t (0, 0) (heap_alloc_new w _)]
theorem box_heap {w w1 : World} {o : Obj} (k : Keep (w.alloc o) w1) : w1.heap[w.heap.size]? = some o :=
  (Below.block k w.heap.size (by rw [heap_size]; omega)).trans (heap_alloc_new w o)
theorem box_deed {w w1 : World} {t : TypeId} {k p v g : Int} (h : Keep (w.alloc (.cells #[.int .i64 k, .int .i64 p, .int .i64 v, .int .i64 g] t)) w1) :
    w.heap.size < w1.heap.size ∧ w1.cell? ⟨w.heap.size, 0, none⟩ = some (.int .i64 k) ∧ w1.cell? ⟨w.heap.size, 1, none⟩ = some (.int .i64 p) ∧ w1.cell? ⟨w.heap.size, 2, none⟩ = some (.int .i64 v) ∧ w1.cell? ⟨w.heap.size, 3, none⟩ = some (.int .i64 g) :=
  ⟨box_size h, box_cell h 0, box_cell h 1, box_cell h 2, box_cell h 3⟩
abbrev strV (l : List UInt8) : Value := .string ⟨l.toArray⟩
theorem ret_bytes {a : ByteArray} {l : List UInt8} (h : a.data.toList = l) : Ending.returned (.string a) = .returned (strV l) := by
  subst h; rfl
theorem results_row {P : Program} {fn : Func} {p : Tmp} {ty : TypeId} (h : fn.results = #[.cell p ty]) (tmps : Array Value) (w : World) (g : Nat) (t : TypeId) (cs : Array Value) (fr : Nat × Nat) (d : TypeDesc)
    (hp : tmps.getD p undef = .pointer (some ⟨g, 0, none⟩)) (hg : w.heap[g]? = some (.cells cs t fr))
    (hu : P.underlying ty = some d) (hd : (match d with | .struct _ | .array _ _ => true | _ => false) = true) (hi : (P.info? ty).map (·.size) = some cs.size) :
    (results fn tmps).run P w = .ok (.agg cs) w := results_cell_row h tmps w g t cs fr d hp hg hu hd hi
theorem results_row_tmp {P : Program} {fn : Func} {p u : Tmp} {ty : TypeId} (h : fn.results = #[.cell p ty, .tmp u]) (tmps : Array Value) (w : World) (g : Nat) (t : TypeId) (cs : Array Value) (fr : Nat × Nat) (d : TypeDesc) (v : Value)
    (hp : tmps.getD p undef = .pointer (some ⟨g, 0, none⟩)) (hg : w.heap[g]? = some (.cells cs t fr)) (hv : tmps.getD u undef = v)
    (hu : P.underlying ty = some d) (hd : (match d with | .struct _ | .array _ _ => true | _ => false) = true) (hi : (P.info? ty).map (·.size) = some cs.size) :
    (results fn tmps).run P w = .ok (.tuple #[.agg cs, v]) w := by
  rw [results_cell_tmp h, hp, hv]
  simp [asAddr, run_loadVar_row w g t ty cs fr d hg hu hd hi, Result.andThen]
theorem results_row2 {P : Program} {fn : Func} {p q : Tmp} {ty : TypeId} (h : fn.results = #[.cell p ty, .cell q ty]) (tmps : Array Value) (w : World) (g g' : Nat) (t t' : TypeId) (cs cs' : Array Value) (fr fr' : Nat × Nat) (d : TypeDesc)
    (hp : tmps.getD p undef = .pointer (some ⟨g, 0, none⟩)) (hg : w.heap[g]? = some (.cells cs t fr))
    (hq : tmps.getD q undef = .pointer (some ⟨g', 0, none⟩)) (hg' : w.heap[g']? = some (.cells cs' t' fr'))
    (hu : P.underlying ty = some d) (hd : (match d with | .struct _ | .array _ _ => true | _ => false) = true) (hi : (P.info? ty).map (·.size) = some cs.size) (hi' : (P.info? ty).map (·.size) = some cs'.size) :
    (results fn tmps).run P w = .ok (.tuple #[.agg cs, .agg cs']) w := by
  have hp' : tmps[p]?.getD undef = .pointer (some ⟨g, 0, none⟩) := by simpa using hp
  have hq' : tmps[q]?.getD undef = .pointer (some ⟨g', 0, none⟩) := by simpa using hq
  simp [results, h, hp', hq', asAddr, run_loadVar_row w g t ty cs fr d hg hu hd hi, run_loadVar_row w g' t' ty cs' fr' d hg' hu hd hi']
end Go.Proofs.Ytefdhogmjijkgaa

/- Contract of the specification's l1In: is a number from the least to the greatest. -/
namespace Go.Proofs.Ytefdhogmjijkgaa
open Go.ChangeShapes Go.WideShapes Go.ChangeAt Go.RowKit

theorem l1In_any (x lo hi : Int) (w : World) :
    Calls Try.prog 38 #[.int .i64 x, .int .i64 lo, .int .i64 hi] w fun e w' => e = .returned (.bool (inB x lo hi)) ∧ w' = w := by
  go_enter Try.func38, Try.ntmps38
  go_wp2
  all_goals
    go_ret
    exact ⟨ret_bool (by rw [Bool.eq_iff_iff]; unfold inB; simp; omega), rfl⟩
end Go.Proofs.Ytefdhogmjijkgaa

/- Plain mathematics of deeds: which four numbers are a deed, its text, the two guesses that are made of a text (the specification's by words, the program's by cuts), and that each guess of a right deed's text is that deed. -/
namespace Go.Proofs.Ytefdhogmjijkgaa

def deedB (k p v g : Int) : Bool :=
  decide ((1 ≤ k ∧ k ≤ 4) ∧ (0 ≤ p ∧ p ≤ 2) ∧ (0 ≤ g ∧ g ≤ 9) ∧ (k = 4 → p = 0) ∧ (2 < k → g = 0) ∧ ((k = 2 ∨ k = 3) → 1 ≤ v ∧ v ≤ 9) ∧ (¬ (k = 2 ∨ k = 3) → v = 0))

def kindL (k : Int) : List UInt8 :=
  if k = 1 then [114, 101, 97, 100] else if k = 2 then [119, 114, 105, 116, 101] else if k = 3 then [115, 119, 97, 112] else if k = 4 then [119, 97, 105, 116] else []
def digL (n : Int) : List UInt8 := [UInt8.ofNat (48 + n.toNat)]
def placeL (p : Int) : List UInt8 := [UInt8.ofNat (120 + p.toNat)]
def partP (k p : Int) : List UInt8 := if k = 4 then [] else 32 :: placeL p
def partV (v : Int) : List UInt8 := if v = 0 then [] else 32 :: digL v
def partG (g : Int) : List UInt8 := if g = 0 then [] else [32, 105, 110, 32] ++ digL g
def showL (k p v g : Int) : List UInt8 := kindL k ++ partP k p ++ partV v ++ partG g
def showD (k p v g : Int) : List UInt8 := if deedB k p v g = true then showL k p v g else []

def kindNo (w : List UInt8) : Int :=
  if kindL 1 = w then 1 else if kindL 2 = w then 2 else if kindL 3 = w then 3 else if kindL 4 = w then 4 else 0
def numI (w : List UInt8) : Int := match Lib.parseIntB 64 w with
  | .ok v => v
  | _ => 0
def cutIn (s : List UInt8) : List UInt8 × List UInt8 × Bool := Lib.cut s [32, 105, 110, 32]
def cutB (s : List UInt8) : List UInt8 × List UInt8 × Bool := Lib.cut s [32]
def gIk (s : List UInt8) : Int := kindNo (cutB (cutIn s).1).1
def gIp (s : List UInt8) : Int := Lib.index [120, 121, 122] (cutB (cutB (cutIn s).1).2.1).1
def gIv (s : List UInt8) : Int := numI (cutB (cutB (cutIn s).1).2.1).2.1
def gIg (s : List UInt8) : Int := numI (cutIn s).2.1

/-- The words of a text: as l1Split parts them. -/
def joinHead (x : List UInt8) : List (List UInt8) → List (List UInt8)
  | [] => [x]
  | y :: ys => (x ++ y) :: ys
def splitL (b : UInt8) : List UInt8 → List (List UInt8)
  | [] => [[]]
  | c :: r => if c = b then [] :: splitL b r else joinHead [c] (splitL b r)
theorem splitL_ne (b : UInt8) : ∀ s : List UInt8, splitL b s ≠ []
  | [] => by simp [splitL]
  | c :: r => by
    unfold splitL
    split
    · simp
    · cases h : splitL b r <;> simp [joinHead]
theorem joinHead_join (x y : List UInt8) : ∀ l : List (List UInt8), joinHead x (joinHead y l) = joinHead (x ++ y) l
  | [] => rfl
  | z :: zs => by simp [joinHead]
theorem joinHead_nil (l : List (List UInt8)) (h : l ≠ []) : joinHead [] l = l := by
  cases l with
  | nil => exact absurd rfl h
  | cons y ys => rfl

/-- The number that l1Read makes of digits, behind those read. -/
def digV (acc : Int) : List UInt8 → Option Int
  | [] => some acc
  | c :: r => if 48 ≤ c.toNat ∧ c.toNat ≤ 57 then digV (acc * 10 + ((c.toNat : Int) - 48)) r else none
def negR (s : List UInt8) : Bool := match s with
  | [] => false
  | c :: _ => decide (c = 45)
def bodyR (s : List UInt8) : List UInt8 := if negR s = true then s.drop 1 else s
def readO (s : List UInt8) : Option Int :=
  if (bodyR s).length < 1 ∨ 9 < (bodyR s).length then none else
  match digV 0 (bodyR s) with
  | none => none
  | some n => if (bodyR s).head? = some 48 ∧ (negR s = true ∨ 1 < s.length) then none else some (if negR s = true then -n else n)
def numS (s : List UInt8) : Int := (readO s).getD 0

def placeNo (w : List UInt8) : Int := if w = [120] then 0 else if w = [121] then 1 else if w = [122] then 2 else -1
def wordAt (ws : List (List UInt8)) (i : Nat) : List UInt8 := ws.getD i []
def gSk (ws : List (List UInt8)) : Int := kindNo (wordAt ws 0)
/-- Whether a place is read, whether a value is, and where the words behind stand. -/
def hasP (ws : List (List UInt8)) : Bool := decide (gSk ws ≠ 4 ∧ 1 < ws.length)
def atV (ws : List (List UInt8)) : Nat := if hasP ws = true then 2 else 1
def hasV (ws : List (List UInt8)) : Bool := decide ((gSk ws = 2 ∨ gSk ws = 3) ∧ atV ws < ws.length)
def atG (ws : List (List UInt8)) : Nat := if hasV ws = true then atV ws + 1 else atV ws
def hasG (ws : List (List UInt8)) : Bool := decide (ws.length = atG ws + 2 ∧ wordAt ws (atG ws) = [105, 110])
def gSp (ws : List (List UInt8)) : Int := if hasP ws = true then placeNo (wordAt ws 1) else 0
def gSv (ws : List (List UInt8)) : Int := if hasV ws = true then numS (wordAt ws (atV ws)) else 0
def gSg (ws : List (List UInt8)) : Int := if hasG ws = true then numS (wordAt ws (atG ws + 1)) else 0

/-- The kind that the specification has found behind k words held against the first. -/
def kindUp (x : List UInt8) : Nat → Int
  | 0 => 0
  | k + 1 => if kindL ((k : Int) + 1) = x then (k : Int) + 1 else kindUp x k
theorem kindUp_four (x : List UInt8) : kindUp x 4 = kindNo x := by
  unfold kindNo
  by_cases h1 : kindL 1 = x
  · subst h1; decide
  · by_cases h2 : kindL 2 = x
    · subst h2; decide
    · by_cases h3 : kindL 3 = x
      · subst h3; decide
      · by_cases h4 : kindL 4 = x
        · subst h4; decide
        · rw [if_neg h1, if_neg h2, if_neg h3, if_neg h4]
          simp [kindUp, h1, h2, h3, h4]
theorem kindNo_in (x : List UInt8) : 0 ≤ kindNo x ∧ kindNo x ≤ 4 := by
  unfold kindNo
  repeat' split
  all_goals omega
/-- All right deeds, by four numbers from a few. -/
def okList : List (Int × Int × Int × Int) :=
  [1, 2, 3, 4].flatMap fun k => [0, 1, 2].flatMap fun p => [0, 1, 2, 3, 4, 5, 6, 7, 8, 9].flatMap fun v => ([0, 1, 2, 3, 4, 5, 6, 7, 8, 9].map fun g => (k, p, v, g)).filter fun d => deedB d.1 d.2.1 d.2.2.1 d.2.2.2
theorem ok_mem (k p v g : Int) (h : deedB k p v g = true) : (k, p, v, g) ∈ okList := by
  have h' := h
  simp only [deedB, decide_eq_true_eq] at h'
  obtain ⟨⟨k1, k2⟩, ⟨p1, p2⟩, ⟨g1, g2⟩, h4, h5, h6, h7⟩ := h'
  have v1 : 0 ≤ v ∧ v ≤ 9 := by
    by_cases hk : k = 2 ∨ k = 3
    · have := h6 hk; omega
    · have := h7 hk; omega
  simp only [okList, List.mem_flatMap, List.mem_filter, List.mem_map]
  refine ⟨k, ?_, p, ?_, v, ?_, ⟨g, ?_, rfl⟩, h⟩
  · have : k = 1 ∨ k = 2 ∨ k = 3 ∨ k = 4 := by omega
    simpa using this
  · have : p = 0 ∨ p = 1 ∨ p = 2 := by omega
    simpa using this
  · have : v = 0 ∨ v = 1 ∨ v = 2 ∨ v = 3 ∨ v = 4 ∨ v = 5 ∨ v = 6 ∨ v = 7 ∨ v = 8 ∨ v = 9 := by omega
    simpa using this
  · have : g = 0 ∨ g = 1 ∨ g = 2 ∨ g = 3 ∨ g = 4 ∨ g = 5 ∨ g = 6 ∨ g = 7 ∨ g = 8 ∨ g = 9 := by omega
    simpa using this
def hitI (d : Int × Int × Int × Int) : Bool :=
  let s := showL d.1 d.2.1 d.2.2.1 d.2.2.2
  decide (gIk s = d.1) && decide (gIp s = d.2.1) && decide (gIv s = d.2.2.1) && decide (gIg s = d.2.2.2)
def hitS (d : Int × Int × Int × Int) : Bool :=
  let ws := splitL 32 (showL d.1 d.2.1 d.2.2.1 d.2.2.2)
  decide (gSk ws = d.1) && decide (gSp ws = d.2.1) && decide (gSv ws = d.2.2.1) && decide (gSg ws = d.2.2.2)
theorem all_hitI : okList.all hitI = true := by decide +kernel
theorem all_hitS : okList.all hitS = true := by decide +kernel
theorem okList_length : okList.length = 328 := by decide +kernel

/-- What ReadDeed answers of a guess: the guess where it is right and has just this text, else nothing. -/
def fits (s : List UInt8) (k p v g : Int) : Bool := deedB k p v g && decide (showL k p v g = s)
theorem guessI_show {k p v g : Int} {s : List UInt8} (h : fits s k p v g = true) : gIk s = k ∧ gIp s = p ∧ gIv s = v ∧ gIg s = g := by
  simp only [fits, Bool.and_eq_true, decide_eq_true_eq] at h
  obtain ⟨h, rfl⟩ := h
  have := List.all_eq_true.1 all_hitI _ (ok_mem k p v g h)
  simpa [hitI, and_assoc] using this
theorem guessS_show {k p v g : Int} {s : List UInt8} (h : fits s k p v g = true) : gSk (splitL 32 s) = k ∧ gSp (splitL 32 s) = p ∧ gSv (splitL 32 s) = v ∧ gSg (splitL 32 s) = g := by
  simp only [fits, Bool.and_eq_true, decide_eq_true_eq] at h
  obtain ⟨h, rfl⟩ := h
  have := List.all_eq_true.1 all_hitS _ (ok_mem k p v g h)
  simpa [hitS, and_assoc] using this
def fitI (s : List UInt8) : Bool := fits s (gIk s) (gIp s) (gIv s) (gIg s)
def fitS (s : List UInt8) : Bool := fits s (gSk (splitL 32 s)) (gSp (splitL 32 s)) (gSv (splitL 32 s)) (gSg (splitL 32 s))
theorem fit_same (s : List UInt8) : fitS s = fitI s := by
  rw [Bool.eq_iff_iff]
  constructor
  · intro h
    obtain ⟨a, b, c, d⟩ := guessI_show h
    unfold fitI
    rw [a, b, c, d]
    exact h
  · intro h
    obtain ⟨a, b, c, d⟩ := guessS_show h
    unfold fitS
    rw [a, b, c, d]
    exact h
theorem guess_same {s : List UInt8} (h : fitI s = true) : gSk (splitL 32 s) = gIk s ∧ gSp (splitL 32 s) = gIp s ∧ gSv (splitL 32 s) = gIv s ∧ gSg (splitL 32 s) = gIg s := guessS_show h
theorem fit_show {k p v g : Int} (h : deedB k p v g = true) : fitI (showL k p v g) = true ∧ gIk (showL k p v g) = k ∧ gIp (showL k p v g) = p ∧ gIv (showL k p v g) = v ∧ gIg (showL k p v g) = g := by
  have hf : fits (showL k p v g) k p v g = true := by simp [fits, h]
  obtain ⟨a, b, c, d⟩ := guessI_show hf
  refine ⟨?_, a, b, c, d⟩
  unfold fitI
  rw [a, b, c, d]
  exact hf
theorem kindL_ne {k : Int} (h1 : 1 ≤ k) (h2 : k ≤ 4) : kindL k ≠ [] := by
  have : k = 1 ∨ k = 2 ∨ k = 3 ∨ k = 4 := by omega
  rcases this with rfl | rfl | rfl | rfl <;> decide
theorem showL_ne {k p v g : Int} (h : deedB k p v g = true) : showL k p v g ≠ [] := by
  simp only [deedB, decide_eq_true_eq] at h
  have := kindL_ne h.1.1 h.1.2
  unfold showL
  simp [this]
theorem showL_length (k p v g : Int) : (showL k p v g).length ≤ 14 := by
  unfold showL partP partV partG kindL digL placeL
  repeat' split
  all_goals simp
end Go.Proofs.Ytefdhogmjijkgaa

/- Contract of the specification's DeedOk: it answers whether four numbers are a deed, and turns nothing. -/
namespace Go.Proofs.Ytefdhogmjijkgaa
open Go.ChangeShapes Go.WideShapes Go.ChangeAt Go.RowKit

abbrev deedV (k p v g : Int) : Value := .agg #[.int .i64 k, .int .i64 p, .int .i64 v, .int .i64 g]

theorem specDeedOk_any (k p v g : Int) (w : World) :
    Calls Try.prog 39 #[deedV k p v g] w fun e w' => e = .returned (.bool (deedB k p v g)) ∧ Keep w w' := by
  unfold deedV
  go_enter Try.func39, Try.ntmps39
  go_wp2_with (go_at_call 38; refine (l1In_any _ _ _ _).mono ?_; rintro e w' ⟨rfl, rfl⟩)
  all_goals
    go_ret
    refine ⟨ret_bool ?_, (Keep.refl w).alloc _⟩
    simp [inB] at *
    rw [Bool.eq_iff_iff]
    simp [deedB]
    omega
end Go.Proofs.Ytefdhogmjijkgaa

/- Plain mathematics of works: which lists of deeds are one, how many events it has. -/
namespace Go.Proofs.Ytefdhogmjijkgaa

/-- A deed as four numbers: its kind, place, value and group. -/
abbrev Dd := Int × Int × Int × Int
def zD : Dd := (0, 0, 0, 0)
def okD (d : Dd) : Bool := deedB d.1 d.2.1 d.2.2.1 d.2.2.2
def evD (d : Dd) : Int := if d.1 = 1 then 1 else if d.1 = 2 then 1 else if d.1 = 3 then 2 else 0
def evK (ds : List Dd) : Nat → Int
  | 0 => 0
  | k + 1 => evK ds k + evD (ds.getD k zD)
def evW (dss : List (List Dd)) : Nat → Int
  | 0 => 0
  | i + 1 => evW dss i + evK (dss.getD i []) (dss.getD i []).length
theorem evD_in (d : Dd) : 0 ≤ evD d ∧ evD d ≤ 2 := by
  unfold evD
  repeat' split
  all_goals omega
theorem evK_in (ds : List Dd) : ∀ k : Nat, 0 ≤ evK ds k ∧ evK ds k ≤ 2 * k
  | 0 => by simp [evK]
  | k + 1 => by have := evK_in ds k; have := evD_in (ds.getD k zD); rw [evK]; omega
/-- Whose a group is (0: nobody's), as the specification keeps it, behind k deeds of clerk i. -/
def grpK (i : Nat) (own : List Int) (ds : List Dd) : Nat → Option (List Int)
  | 0 => some own
  | k + 1 => match grpK i own ds k with
    | none => none
    | some o =>
      if (ds.getD k zD).2.2.2 = 0 then some o
      else if o.getD (ds.getD k zD).2.2.2.toNat 0 ≠ 0 ∧ (o.getD (ds.getD k zD).2.2.2.toNat 0 ≠ (i : Int) + 1 ∨ k = 0 ∨ (ds.getD (k - 1) zD).2.2.2 ≠ (ds.getD k zD).2.2.2) then none
      else some (o.set (ds.getD k zD).2.2.2.toNat ((i : Int) + 1))
def grpW (dss : List (List Dd)) : Nat → Option (List Int)
  | 0 => some (List.replicate 10 0)
  | i + 1 => match grpW dss i with
    | none => none
    | some o => grpK i o (dss.getD i []) (dss.getD i []).length
def grpB (dss : List (List Dd)) : Bool := (grpW dss dss.length).isSome
def lenW : List (List Dd) → Nat
  | [] => 0
  | d :: r => d.length + lenW r
def okL (ds : List Dd) : Bool := ds.all okD && decide (ds.length ≤ 5)
def workB (dss : List (List Dd)) : Bool :=
  decide (1 ≤ dss.length ∧ dss.length ≤ 3) && dss.all okL && decide (lenW dss ≤ 12) && decide (evW dss dss.length ≤ 6) && grpB dss
theorem grpK_none {i : Nat} {own : List Int} {ds : List Dd} {k : Nat} (h : grpK i own ds k = none) : ∀ n : Nat, k ≤ n → grpK i own ds n = none
  | 0, hn => by
    obtain rfl : k = 0 := by omega
    exact h
  | n + 1, hn => by
    by_cases e : k = n + 1
    · rw [← e]; exact h
    · rw [grpK, grpK_none h n (by omega)]
theorem grpW_none {dss : List (List Dd)} {i : Nat} (h : grpW dss i = none) : ∀ n : Nat, i ≤ n → grpW dss n = none
  | 0, hn => by
    obtain rfl : i = 0 := by omega
    exact h
  | n + 1, hn => by
    by_cases e : i = n + 1
    · rw [← e]; exact h
    · rw [grpW, grpW_none h n (by omega)]
theorem grpK_len {i : Nat} {own : List Int} {ds : List Dd} : ∀ {k : Nat} {o : List Int}, grpK i own ds k = some o → o.length = own.length
  | 0, o, h => by simp only [grpK, Option.some.injEq] at h; rw [← h]
  | k + 1, o, h => by
    rw [grpK] at h
    split at h
    · cases h
    · rename_i o' ho'
      have ih := grpK_len ho'
      split at h
      · simp only [Option.some.injEq] at h; rw [← h]; exact ih
      · split at h
        · cases h
        · simp only [Option.some.injEq] at h; rw [← h, List.length_set]; exact ih
theorem grpW_len {dss : List (List Dd)} : ∀ {i : Nat} {o : List Int}, grpW dss i = some o → o.length = 10
  | 0, o, h => by simp only [grpW, Option.some.injEq] at h; rw [← h]; simp
  | i + 1, o, h => by
    rw [grpW] at h
    split at h
    · cases h
    · rename_i o' ho'
      rw [grpK_len h]
      exact grpW_len ho'
theorem all_get {α : Type} {f : α → Bool} {l : List α} (z : α) (h : l.all f = true) (i : Nat) (hi : i < l.length) : f (l.getD i z) = true := by
  rw [List.getD_eq_getElem?_getD, List.getElem?_eq_getElem hi]
  exact List.all_eq_true.1 h _ (List.getElem_mem hi)
theorem all_of {α : Type} {f : α → Bool} {l : List α} (z : α) (h : ∀ i, i < l.length → f (l.getD i z) = true) : l.all f = true := by
  rw [List.all_eq_true]
  intro x hx
  obtain ⟨i, hi, rfl⟩ := List.getElem_of_mem hx
  have := h i hi
  rwa [List.getD_eq_getElem?_getD, List.getElem?_eq_getElem hi] at this
theorem all_not {α : Type} {f : α → Bool} {l : List α} (z : α) (i : Nat) (hi : i < l.length) (h : f (l.getD i z) = false) : l.all f = false := by
  cases hb : l.all f
  · rfl
  · rw [all_get z hb i hi] at h; cases h
end Go.Proofs.Ytefdhogmjijkgaa

/- Works in memory: lists of deeds, and lists of such lists, that can be read. -/
namespace Go.Proofs.Ytefdhogmjijkgaa
open Go.ChangeShapes Go.WideShapes Go.ChangeAt Go.RowKit

abbrev dV (d : Dd) : Value := deedV d.1 d.2.1 d.2.2.1 d.2.2.2
/-- A deed that lies at a place. -/
def AtD (w : World) (b o : Nat) (d : Dd) : Prop :=
  w.cell? ⟨b, o, none⟩ = some (.int .i64 d.1) ∧ w.cell? ⟨b, o + 1, none⟩ = some (.int .i64 d.2.1) ∧ w.cell? ⟨b, o + 2, none⟩ = some (.int .i64 d.2.2.1) ∧ w.cell? ⟨b, o + 3, none⟩ = some (.int .i64 d.2.2.2)
def RdD (w : World) (v : Value) (ds : List Dd) : Prop :=
  ∃ (a : Option Addr) (cap : Nat), v = .slice a ds.length (ds.length + cap) ∧
    (ds = [] ∨ ∃ b off, a = some ⟨b, off, none⟩ ∧ b < w.heap.size ∧ ∀ i, i < ds.length → AtD w b (off + i * 4) (ds.getD i zD))
def RdW (w : World) (v : Value) (dss : List (List Dd)) : Prop :=
  ∃ (a : Option Addr) (cap : Nat), v = .slice a dss.length cap ∧
    (dss = [] ∨ ∃ b off, a = some ⟨b, off, none⟩ ∧ b < w.heap.size ∧ ∀ i, i < dss.length → ∃ vi, w.cell? ⟨b, off + i, none⟩ = some vi ∧ RdD w vi (dss.getD i []))
theorem AtD.keep {w w' : World} {b o : Nat} {d : Dd} (h : AtD w b o d) (hb : b < w.heap.size) (k : Keep w w') : AtD w' b o d :=
  ⟨(k.cell hb).trans h.1, (k.cell hb).trans h.2.1, (k.cell hb).trans h.2.2.1, (k.cell hb).trans h.2.2.2⟩
theorem RdD.keep {w w' : World} {v : Value} {ds : List Dd} (h : RdD w v ds) (k : Keep w w') : RdD w' v ds := by
  obtain ⟨a, cap, hv, h⟩ := h
  refine ⟨a, cap, hv, ?_⟩
  rcases h with h | ⟨b, off, ha, hb, hc⟩
  · exact .inl h
  · exact .inr ⟨b, off, ha, Nat.lt_of_lt_of_le hb k.size, fun i hi => (hc i hi).keep hb k⟩
theorem RdW.keep {w w' : World} {v : Value} {dss : List (List Dd)} (h : RdW w v dss) (k : Keep w w') : RdW w' v dss := by
  obtain ⟨a, cap, hv, h⟩ := h
  refine ⟨a, cap, hv, ?_⟩
  rcases h with h | ⟨b, off, ha, hb, hc⟩
  · exact .inl h
  · refine .inr ⟨b, off, ha, Nat.lt_of_lt_of_le hb k.size, fun i hi => ?_⟩
    obtain ⟨vi, h1, h2⟩ := hc i hi
    exact ⟨vi, (k.cell hb).trans h1, h2.keep k⟩
theorem Keep.set {w wr : World} (h : Keep w wr) {g : Nat} (hg : w.heap.size ≤ g) (i : Nat) (x : Value) : Keep w (wr.setCell ⟨g, i, none⟩ x) :=
  h.grown (row := some g) ⟨rfl, rfl, rfl, by simp, fun k _ hk => heap_setCell_other wr ⟨g, i, none⟩ k x (fun e => hk (by simp [e]))⟩ (fun k hk => by simp at hk; omega)
theorem range_getD {α : Type} (f : Nat → α) (n i : Nat) (z : α) (h : i < n) : ((List.range n).map f).getD i z = f i := by
  rw [List.getD_eq_getElem?_getD, List.getElem?_map, List.getElem?_range h]
  rfl
theorem plain_add {b o i : Nat} : (⟨b, o, none⟩ : Addr).add i = ⟨b, o + i, none⟩ := by unfold Addr.add; split <;> simp_all
theorem block_lt {w : World} {b o : Nat} {v : Value} (h : w.cell? ⟨b, o, none⟩ = some v) : b < w.heap.size := by
  apply Classical.byContradiction
  intro hn
  have h3 : w.heap[b]? = none := by simp; omega
  simp [World.cell?, h3] at h
end Go.Proofs.Ytefdhogmjijkgaa

/- Works that came in as an argument. -/
namespace Go.Proofs.Ytefdhogmjijkgaa
open Go.ChangeShapes Go.WideShapes Go.ChangeAt Go.RowKit

section
variable {H : Type} {enc : TypeId × Value → H} {w : World} {base : Nat} {held : Bool}
set_option maxRecDepth 100000 in
/-- A list of deeds that came in. -/
theorem open_deeds {fuel : Nat} {v : Value} {x : DataW H × List MemPlace} (h : DataW.trod enc Try.prog w base (fun _ => true) held fuel 60 [v] = some x) : ∃ ds, RdD w v ds ∧ ds.length ≤ maxLen := by
  have c4 : Try.prog.cellsOf 78 = 4 := by kernel_rfl
  have c2 : Try.prog.cellsOf 2 = 1 := by kernel_rfl
  rcases Deep.open_slice Try.underlying60 h with ⟨hcs, _⟩ | ⟨a, len, cap, m, n, D, Pl, hcs, hb, hl, hm, hmm, _, hx⟩
  · simp only [List.cons.injEq, and_true] at hcs
    subst hcs
    exact ⟨[], ⟨none, 0, rfl, .inl rfl⟩, by simp⟩
  · simp only [List.cons.injEq, and_true] at hcs
    subst hcs
    have hlm : len ≤ m := by rw [hmm]; split <;> omega
    have each : ∀ i, i < len → ∃ d : Dd, w.cell? (a.add (i * 4)) = some (.int .i64 d.1) ∧ w.cell? (a.add (i * 4 + 1)) = some (.int .i64 d.2.1) ∧ w.cell? (a.add (i * 4 + 2)) = some (.int .i64 d.2.2.1) ∧ w.cell? (a.add (i * 4 + 3)) = some (.int .i64 d.2.2.2) := by
      intro i hi
      obtain ⟨cs', h1, h2⟩ := hx i (by omega)
      rw [c4] at h1
      obtain ⟨_, hlen, hcell⟩ := World.cells?_some h1
      obtain ⟨xs, k, hk, hxy, _, hxl, hf⟩ := DataW.trod_struct Try.underlying78 h2
      match xs, hxl, cs', hlen with
      | [y0, y1, y2, y3], _, [v0, v1, v2, v3], _ =>
        have g0 := hf 0 _ rfl
        have g1 := hf 1 _ rfl
        have g2 := hf 2 _ rfl
        have g3 := hf 3 _ rfl
        simp [c2] at g0 g1 g2 g3
        obtain ⟨k0, e0, _, _⟩ := DataW.trod_int Try.underlying2 g0
        obtain ⟨k1, e1, _, _⟩ := DataW.trod_int Try.underlying2 g1
        obtain ⟨k2, e2, _, _⟩ := DataW.trod_int Try.underlying2 g2
        obtain ⟨k3, e3, _, _⟩ := DataW.trod_int Try.underlying2 g3
        simp only [List.cons.injEq, and_true] at e0 e1 e2 e3
        subst e0 e1 e2 e3
        have f0 := hcell 0 (by omega)
        have f1 := hcell 1 (by omega)
        have f2 := hcell 2 (by omega)
        have f3 := hcell 3 (by omega)
        rw [Deep.add_add] at f0 f1 f2 f3
        exact ⟨(k0, k1, k2, k3), by simpa using f0, by simpa using f1, by simpa using f2, by simpa using f3⟩
    obtain ⟨f, hf⟩ := Deep.choose_lt each
    refine ⟨(List.range len).map f, ⟨some a, cap - len, by simp; omega, ?_⟩, by simp; omega⟩
    by_cases h0 : len = 0
    · left; subst h0; rfl
    · right
      obtain ⟨b, off, spot⟩ := a
      have hc0 := (hf 0 (by omega)).1
      have hspot : spot = none := by simpa [Addr.add] using World.cell?_spot hc0
      subst hspot
      have hbl : b < w.heap.size := by
        rw [plain_add] at hc0
        exact block_lt hc0
      refine ⟨b, off, rfl, hbl, fun i hi => ?_⟩
      have hi' : i < len := by simpa using hi
      rw [range_getD f len i zD hi']
      obtain ⟨q0, q1, q2, q3⟩ := hf i hi'
      rw [plain_add] at q0 q1 q2 q3
      exact ⟨q0, q1, q2, q3⟩
set_option maxRecDepth 100000 in
/-- A work that came in. -/
theorem open_work {r : Reach} {b0 : Nat} {v : Value} {d : DataW H} {p : List MemPlace} (hv : Value.okWide Try.prog w r b0 38 v) (h : DataW.Trod enc Try.prog w base (fun _ => true) held 38 v d p) : ∃ dss, RdW w v dss ∧ dss.length ≤ maxLen ∧ ∀ i, i < dss.length → (dss.getD i []).length ≤ maxLen := by
  obtain ⟨a0, len0, cap0, rfl⟩ := okWide_slice Try.underlying38 hv
  obtain ⟨fuel, hf⟩ := h
  rcases Deep.open_slice1 Try.underlying38 (by kernel_rfl) hf with ⟨hcs, _⟩ | ⟨a, len, cap, m, n, V, D, Pl, hcs, hb, hl, hm, hmm, _, hx⟩
  · simp [Value.cells] at hcs
    obtain ⟨rfl, rfl, rfl⟩ := hcs
    exact ⟨[], ⟨none, 0, rfl, .inl rfl⟩, by simp, by simp⟩
  · simp [Value.cells] at hcs
    obtain ⟨rfl, rfl, rfl⟩ := hcs
    have hlm : len0 ≤ m := by rw [hmm]; split <;> omega
    have each : ∀ i, i < len0 → ∃ ds : List Dd, w.cell? (a.add i) = some (V i) ∧ RdD w (V i) ds ∧ ds.length ≤ maxLen := by
      intro i hi
      obtain ⟨h1, h2⟩ := hx i (by omega)
      obtain ⟨ds, h3, h4⟩ := open_deeds h2
      exact ⟨ds, h1, h3, h4⟩
    obtain ⟨f, hf⟩ := Deep.choose_lt each
    refine ⟨(List.range len0).map f, ⟨some a, cap0, by simp, ?_⟩, by simp; omega, fun i hi => by rw [range_getD f len0 i [] (by simpa using hi)]; exact (hf i (by simpa using hi)).2.2⟩
    by_cases h0 : len0 = 0
    · left; subst h0; rfl
    · right
      obtain ⟨b, off, spot⟩ := a
      have hc0 := (hf 0 (by omega)).1
      have hspot : spot = none := by simpa [Addr.add] using World.cell?_spot hc0
      subst hspot
      have hbl : b < w.heap.size := by
        rw [plain_add] at hc0
        exact block_lt hc0
      refine ⟨b, off, rfl, hbl, fun i hi => ?_⟩
      have hi' : i < len0 := by simpa using hi
      rw [range_getD f len0 i [] hi']
      obtain ⟨q0, q1, _⟩ := hf i hi'
      rw [plain_add] at q0
      exact ⟨V i, q0, q1⟩
end
end Go.Proofs.Ytefdhogmjijkgaa

/- Plain facts on sets as numbers: a set is gathered from its members, which rise; what is gathered from a list has just the list's numbers. -/
namespace Go.Proofs.Ytefdhogmjijkgaa
open Go.RowKit

theorem bitB_nat (a i : Nat) (ha : a < 4096) : bitB (a : Int) (i : Int) = a.testBit i := by
  unfold bitB
  have hd : a / 2 ^ i ≤ a := Nat.div_le_self _ _
  have e : ((a : Int) / 2 ^ (i : Int).toNat) = ((a / 2 ^ i : Nat) : Int) := by simp
  rw [e, show (1 : Int) = ((1 : Nat) : Int) from rfl, i64_and_nat _ _ (by omega) (by omega), Nat.and_one_is_mod, Nat.testBit_eq_decide_div_mod_eq]
  generalize a / 2 ^ i % 2 = r
  rw [Bool.eq_iff_iff, beq_iff_eq, decide_eq_true_eq]
  omega
theorem inSetB_nat (a i : Nat) (ha : a < 4096) (hi : i < 12) : inSetB (a : Int) (i : Int) = a.testBit i := by
  have h1 : inB (i : Int) 0 11 = true := by unfold inB; simp; omega
  have h2 : inB (a : Int) 0 4095 = true := by unfold inB; simp; omega
  simp [inSetB, h1, h2, bitB_nat a i ha]
theorem gAdd_nat (a i : Nat) (ha : a < 4096) (hi : i < 12) : gAdd (a : Int) (i : Int) = ((a ||| 2 ^ i : Nat) : Int) := by
  have h1 : inB (i : Int) 0 11 = true := by unfold inB; simp; omega
  rw [gAdd_ok _ _ (by omega) h1, wrap64_pow _ (by omega) (by omega)]
  have hq : (2 : Nat) ^ i < 2 ^ 12 := Nat.pow_lt_pow_right (by omega) hi
  have e : ((2 : Int) ^ (i : Int).toNat) = ((2 ^ i : Nat) : Int) := by simp
  rw [e, i64_or_nat a _ (by omega) (by omega)]
theorem or_lt (a i : Nat) (ha : a < 4096) (hi : i < 12) : a ||| 2 ^ i < 4096 := by
  have hq : (2 : Nat) ^ i < 2 ^ 12 := Nat.pow_lt_pow_right (by omega) hi
  exact Nat.or_lt_two_pow (n := 12) ha hq
theorem fold_all (l : List Int) (h : ∀ x ∈ l, inB x 0 11 = true) (a : Nat) (ha : a < 4096) :
    ∃ b : Nat, b < 4096 ∧ l.foldl gAdd (a : Int) = b ∧ ∀ k : Nat, k < 12 → b.testBit k = (a.testBit k || decide ((k : Int) ∈ l)) := by
  induction l generalizing a with
  | nil => exact ⟨a, ha, rfl, by simp⟩
  | cons x l ih =>
    have hx := h x (by simp)
    have hx' := hx
    simp only [inB, decide_eq_true_eq] at hx'
    obtain ⟨i, rfl⟩ := Int.eq_ofNat_of_zero_le hx'.1
    have hi : i < 12 := by omega
    obtain ⟨b, hb, he, hk⟩ := ih (fun y hy => h y (by simp [hy])) (a ||| 2 ^ i) (or_lt a i ha hi)
    refine ⟨b, hb, ?_, fun k hk12 => ?_⟩
    · rw [List.foldl_cons, gAdd_nat a i ha hi]; exact he
    · rw [hk k hk12, Nat.testBit_or, Nat.testBit_two_pow, Bool.or_assoc]
      congr 1
      rw [Bool.eq_iff_iff, Bool.or_eq_true, decide_eq_true_eq, decide_eq_true_eq, decide_eq_true_eq, List.mem_cons]
      constructor
      · rintro (h | h)
        · exact .inl (by omega)
        · exact .inr h
      · rintro (h | h)
        · exact .inl (by omega)
        · exact .inr h
theorem fold_neg (l : List Int) (x : Int) (hx : x ∈ l) (h : inB x 0 11 = false) (s : Int) : l.foldl gAdd s = -1 := by
  induction l generalizing s with
  | nil => simp at hx
  | cons y l ih =>
    rw [List.foldl_cons]
    rcases List.mem_cons.1 hx with rfl | hx
    · rw [gAdd_bad _ _ h]; exact foldl_none l
    · exact ih hx _
theorem gath_has (l : List Int) (h : 0 ≤ gath l) (k : Nat) (hk : k < 12) : inSetB (gath l) (k : Int) = hasB (k : Int) l := by
  have hall : ∀ x ∈ l, inB x 0 11 = true := by
    intro x hx
    cases hb : inB x 0 11 with
    | true => rfl
    | false => have := fold_neg l x hx hb 0; unfold gath at h; omega
  obtain ⟨b, hb, he, hbit⟩ := fold_all l hall 0 (by omega)
  have e : gath l = (b : Int) := he
  rw [e, inSetB_nat b k hb hk, hbit k hk]
  simp [hasB]
theorem mem_iff (s : Int) (n : Nat) (x : Int) : x ∈ mem s n ↔ ∃ k : Nat, k < n ∧ x = k ∧ inSetB s k = true := by
  induction n with
  | zero => simp [mem]
  | succ n ih =>
    unfold mem
    rw [List.mem_append, ih]
    constructor
    · rintro (⟨k, hk, rfl, h⟩ | h)
      · exact ⟨k, by omega, rfl, h⟩
      · split at h
        · rename_i hs
          simp at h
          exact ⟨n, by omega, h, hs⟩
        · simp at h
    · rintro ⟨k, hk, rfl, h⟩
      by_cases hkn : k = n
      · subst hkn; right; simp [h]
      · exact .inl ⟨k, by omega, rfl, h⟩
theorem mem_rises (s : Int) (n : Nat) : (mem s n).Pairwise (· < ·) := by
  induction n with
  | zero => simp [mem]
  | succ n ih =>
    unfold mem
    rw [List.pairwise_append]
    refine ⟨ih, by split <;> simp, fun a ha b hb => ?_⟩
    obtain ⟨k, hk, rfl, _⟩ := (mem_iff s n a).1 ha
    split at hb
    · simp at hb; omega
    · simp at hb
theorem mem_step (s : Int) (n i : Nat) (h : i + 1 < (mem s n).length) : (mem s n).getD i 0 < (mem s n).getD (i + 1) 0 := by
  have := (List.pairwise_iff_getElem.1 (mem_rises s n)) i (i + 1) (by omega) h (by omega)
  rw [List.getD_eq_getElem?_getD, List.getD_eq_getElem?_getD, List.getElem?_eq_getElem h, List.getElem?_eq_getElem (show i < (mem s n).length by omega)]
  exact this
theorem gath_mem (s : Int) (h : inB s 0 4095 = true) : gath (mem s 12) = s := by
  simp only [inB, decide_eq_true_eq] at h
  obtain ⟨a, rfl⟩ := Int.eq_ofNat_of_zero_le h.1
  have ha : a < 4096 := by omega
  have hall : ∀ x ∈ mem (a : Int) 12, inB x 0 11 = true := by
    intro x hx
    obtain ⟨k, hk, rfl, _⟩ := (mem_iff _ _ _).1 hx
    unfold inB; simp; omega
  obtain ⟨b, hb, he, hbit⟩ := fold_all _ hall 0 (by omega)
  have e : gath (mem (a : Int) 12) = (b : Int) := he
  show gath (mem (a : Int) 12) = (a : Int)
  rw [e]
  have : b = a := by
    apply Nat.eq_of_testBit_eq
    intro k
    by_cases hk : k < 12
    · rw [hbit k hk, Nat.zero_testBit, Bool.false_or]
      rw [← inSetB_nat a k ha hk, Bool.eq_iff_iff, decide_eq_true_eq, mem_iff]
      constructor
      · rintro ⟨j, hj, he, h⟩; have : j = k := by omega
        subst this; exact h
      · intro h; exact ⟨k, hk, rfl, h⟩
    · have hp : (2 : Nat) ^ 12 ≤ 2 ^ k := Nat.pow_le_pow_right (by omega) (by omega)
      rw [Nat.testBit_lt_two_pow (by omega), Nat.testBit_lt_two_pow (by omega)]
  rw [this]
end Go.Proofs.Ytefdhogmjijkgaa

/- Plain facts on webs as lists of numbers: which lists are webs, and what each function of chapter 2 answers, said by recursion; nothing of the program. -/
namespace Go.Proofs.Ytefdhogmjijkgaa
open Go.RowKit

/-- Is the list a web? -/
def webB (zs : List Int) : Bool := zs.all (okB zs.length)
/-- Are they two webs, as many? -/
def twoB (a b : List Int) : Bool := decide (a.length = b.length) && webB a && webB b
/-- Sets mixed place by place. -/
def mixL (f : Int → Int → Int) (a b : List Int) : List Int := if twoB a b = true then List.zipWith f a b else []
def orI (a b : Int) : Int := bits .or .i64 a b
def andI (a b : Int) : Int := bits .and .i64 a b
def notI (a b : Int) : Int := bits .andNot .i64 a b
/-- Where one comes by the first k, from those in x along b. -/
def thenS (x : Int) (b : List Int) : Nat → Int
  | 0 => 0
  | k + 1 => if inSetB x k = true then orI (thenS x b k) (b.getD k 0) else thenS x b k
def thenL (a b : List Int) : List Int := if twoB a b = true then a.map (fun x => thenS x b 12) else []
/-- The first k of x lead back to i. -/
def backIn (i : Nat) (x : Int) (st : List Int) : Nat → List Int
  | 0 => st
  | k + 1 => if inSetB x k = true then (backIn i x st k).set k (gAdd ((backIn i x st k).getD k 0) i) else backIn i x st k
def backAll (zs : List Int) : Nat → List Int
  | 0 => List.replicate zs.length 0
  | i + 1 => backIn i (zs.getD i 0) (backAll zs i) 12
def backL (zs : List Int) : List Int := if webB zs = true then backAll zs zs.length else []
/-- The first i may pass k. -/
def wayIn (k : Nat) (st : List Int) : Nat → List Int
  | 0 => st
  | i + 1 => if inSetB ((wayIn k st i).getD i 0) k = true then (wayIn k st i).set i (orI ((wayIn k st i).getD i 0) ((wayIn k st i).getD k 0)) else wayIn k st i
def wayAll (zs : List Int) : Nat → List Int
  | 0 => zs
  | k + 1 => wayIn k (wayAll zs k) zs.length
def waysL (zs : List Int) : List Int := if webB zs = true then wayAll zs zs.length else []

theorem getD_mem {zs : List Int} {i : Nat} (h : i < zs.length) : zs.getD i 0 ∈ zs := by
  rw [List.getD_eq_getElem?_getD, List.getElem?_eq_getElem h]; exact List.getElem_mem h
theorem webB_all {zs : List Int} (h : ∀ i, i < zs.length → okB zs.length (zs.getD i 0) = true) : webB zs = true := by
  unfold webB
  rw [List.all_eq_true]
  intro x hx
  obtain ⟨i, hi, rfl⟩ := List.getElem_of_mem hx
  have := h i hi
  rwa [List.getD_eq_getElem?_getD, List.getElem?_eq_getElem hi] at this
theorem webB_get {zs : List Int} (h : webB zs = true) {i : Nat} (hi : i < zs.length) : okB zs.length (zs.getD i 0) = true := by
  unfold webB at h
  rw [List.all_eq_true] at h
  exact h _ (getD_mem hi)
theorem webB_bad {zs : List Int} {i : Nat} (hi : i < zs.length) (h : okB zs.length (zs.getD i 0) = false) : webB zs = false := by
  cases hw : webB zs with
  | false => rfl
  | true => rw [webB_get hw hi] at h; cases h
theorem okB_iff {n s : Int} : okB n s = true ↔ (0 ≤ n ∧ n ≤ 12) ∧ 0 ≤ s ∧ s < 2 ^ n.toNat := by unfold okB; rw [decide_eq_true_eq]
theorem webB_len {zs : List Int} (h : webB zs = true) : zs.length ≤ 12 := by
  by_cases h0 : zs.length = 0
  · omega
  · have := okB_iff.1 (webB_get h (i := 0) (by omega)); omega
theorem okB_range {n s : Int} (h : okB n s = true) : 0 ≤ s ∧ s ≤ 4095 := by
  have h1 := okB_iff.1 h
  have := pow_le12 n.toNat (by omega)
  omega
theorem twoB_iff {a b : List Int} : twoB a b = true ↔ a.length = b.length ∧ webB a = true ∧ webB b = true := by
  unfold twoB; rw [Bool.and_eq_true, Bool.and_eq_true, decide_eq_true_eq, and_assoc]
theorem inSetB_bit {s : Int} {k : Nat} (h : 0 ≤ s ∧ s ≤ 4095) (hk : k < 12) : inSetB s k = bitB s k := by
  have h1 : inB (k : Int) 0 11 = true := by unfold inB; simp; omega
  have h2 : inB s 0 4095 = true := by unfold inB; simp; omega
  simp [inSetB, h1, h2]

/-! A set of n as a number with bits. -/
theorem okB_nat {n : Nat} {s : Int} (h : okB n s = true) : n ≤ 12 ∧ ∃ a : Nat, s = a ∧ a < 2 ^ n ∧ a < 4096 := by
  have h1 := okB_iff.1 h
  have h2 := okB_range h
  obtain ⟨a, rfl⟩ := Int.eq_ofNat_of_zero_le h2.1
  refine ⟨by omega, a, rfl, ?_, by omega⟩
  have := h1.2.2
  simp at this
  exact_mod_cast this
theorem okB_of_nat {n a : Nat} (hn : n ≤ 12) (ha : a < 2 ^ n) : okB n a = true := by
  rw [okB_iff]
  refine ⟨by omega, by omega, ?_⟩
  simp
  exact_mod_cast ha
theorem inSetB_iff {n : Nat} {s : Int} (h : okB n s = true) {j : Nat} (hj : inSetB s j = true) : j < n := by
  obtain ⟨hn, a, rfl, ha, h12⟩ := okB_nat h
  have hj12 : j < 12 := by
    have : inB (j : Int) 0 11 = true := by unfold inSetB at hj; simp at hj; exact hj.1.1
    unfold inB at this; simp at this; omega
  rw [inSetB_nat a j h12 hj12] at hj
  apply Classical.byContradiction
  intro hnj
  have hp : (2 : Nat) ^ n ≤ 2 ^ j := Nat.pow_le_pow_right (by omega) (by omega)
  rw [Nat.testBit_lt_two_pow (by omega)] at hj
  cases hj
theorem inSetB_far (s : Int) {j : Nat} (hj : 12 ≤ j) : inSetB s j = false := by
  have : inB (j : Int) 0 11 = false := by unfold inB; simp; omega
  simp [inSetB, this]
theorem ok_ext {n : Nat} {s t : Int} (hs : okB n s = true) (ht : okB n t = true) (h : ∀ j : Nat, j < n → inSetB s j = inSetB t j) : s = t := by
  obtain ⟨hn, a, rfl, ha, ha'⟩ := okB_nat hs
  obtain ⟨_, b, rfl, hb, hb'⟩ := okB_nat ht
  congr 1
  apply Nat.eq_of_testBit_eq
  intro j
  by_cases hj : j < n
  · have := h j hj
    rwa [inSetB_nat a j ha' (by omega), inSetB_nat b j hb' (by omega)] at this
  · have hp : (2 : Nat) ^ n ≤ 2 ^ j := Nat.pow_le_pow_right (by omega) (by omega)
    rw [Nat.testBit_lt_two_pow (by omega), Nat.testBit_lt_two_pow (by omega)]
theorem ok_zero {n : Nat} (hn : n ≤ 12) : okB n 0 = true := okB_of_nat (a := 0) hn (Nat.two_pow_pos n)
theorem zero_bit (j : Nat) : inSetB 0 j = false := by
  by_cases hj : j < 12
  · rw [show (0 : Int) = ((0 : Nat) : Int) from rfl, inSetB_nat 0 j (by omega) hj, Nat.zero_testBit]
  · exact inSetB_far _ (by omega)
theorem i64_andNot_nat (a b : Nat) (ha : a < 9223372036854775808) (hb : b < 9223372036854775808) : bits .andNot .i64 (a : Int) (b : Int) = ((a &&& (18446744073709551615 - b) : Nat) : Int) := by
  have hx : a &&& (18446744073709551615 - b) ≤ a := Nat.and_le_left
  show IntKind.i64.wrap ((BitVec.ofInt 64 (a : Int) &&& ~~~ BitVec.ofInt 64 (b : Int)).toNat : Int) = _
  rw [BitVec.toNat_and, BitVec.toNat_not, ofInt_i64 a ha, ofInt_i64 b hb, IntKind.wrap_i64, show (2 : Nat) ^ 64 - 1 - b = 18446744073709551615 - b from rfl]
  omega
theorem ok_or {n : Nat} {s t : Int} (hs : okB n s = true) (ht : okB n t = true) : okB n (orI s t) = true ∧ ∀ j : Nat, inSetB (orI s t) j = (inSetB s j || inSetB t j) := by
  obtain ⟨hn, a, rfl, ha, ha'⟩ := okB_nat hs
  obtain ⟨_, b, rfl, hb, hb'⟩ := okB_nat ht
  have e : orI (a : Int) (b : Int) = ((a ||| b : Nat) : Int) := i64_or_nat a b (by omega) (by omega)
  have hl : a ||| b < 2 ^ n := Nat.or_lt_two_pow ha hb
  have hl' : a ||| b < 4096 := Nat.or_lt_two_pow (n := 12) ha' hb'
  rw [e]
  refine ⟨okB_of_nat hn hl, fun j => ?_⟩
  by_cases hj : j < 12
  · rw [inSetB_nat _ j hl' hj, inSetB_nat _ j ha' hj, inSetB_nat _ j hb' hj, Nat.testBit_or]
  · rw [inSetB_far _ (by omega), inSetB_far _ (by omega), inSetB_far _ (by omega)]; rfl
theorem ok_and {n : Nat} {s t : Int} (hs : okB n s = true) (ht : okB n t = true) : okB n (andI s t) = true ∧ ∀ j : Nat, inSetB (andI s t) j = (inSetB s j && inSetB t j) := by
  obtain ⟨hn, a, rfl, ha, ha'⟩ := okB_nat hs
  obtain ⟨_, b, rfl, hb, hb'⟩ := okB_nat ht
  have e : andI (a : Int) (b : Int) = ((a &&& b : Nat) : Int) := i64_and_nat a b (by omega) (by omega)
  have hl : a &&& b ≤ a := Nat.and_le_left
  rw [e]
  refine ⟨okB_of_nat hn (by omega), fun j => ?_⟩
  by_cases hj : j < 12
  · rw [inSetB_nat _ j (by omega) hj, inSetB_nat _ j ha' hj, inSetB_nat _ j hb' hj, Nat.testBit_and]
  · rw [inSetB_far _ (by omega), inSetB_far _ (by omega), inSetB_far _ (by omega)]; rfl
theorem ok_not {n : Nat} {s t : Int} (hs : okB n s = true) (ht : okB n t = true) : okB n (notI s t) = true ∧ ∀ j : Nat, inSetB (notI s t) j = (inSetB s j && !inSetB t j) := by
  obtain ⟨hn, a, rfl, ha, ha'⟩ := okB_nat hs
  obtain ⟨_, b, rfl, hb, hb'⟩ := okB_nat ht
  have e : notI (a : Int) (b : Int) = ((a &&& (18446744073709551615 - b) : Nat) : Int) := i64_andNot_nat a b (by omega) (by omega)
  have hl : a &&& (18446744073709551615 - b) ≤ a := Nat.and_le_left
  rw [e]
  refine ⟨okB_of_nat hn (by omega), fun j => ?_⟩
  by_cases hj : j < 12
  · have h2 : (18446744073709551615 - b).testBit j = !b.testBit j := by
      have e2 : 18446744073709551615 - b = 2 ^ 64 - (b + 1) := by omega
      rw [e2, Nat.testBit_two_pow_sub_succ (by omega)]
      have : j < 64 := by omega
      simp [this]
    rw [inSetB_nat _ j (by omega) hj, inSetB_nat _ j ha' hj, inSetB_nat _ j hb' hj, Nat.testBit_and, h2]
  · rw [inSetB_far _ (by omega), inSetB_far _ (by omega), inSetB_far _ (by omega)]; rfl
theorem ok_add {n : Nat} {s : Int} (hs : okB n s = true) {i : Nat} (hi : i < n) : okB n (gAdd s i) = true ∧ ∀ j : Nat, inSetB (gAdd s i) j = (inSetB s j || decide (i = j)) := by
  obtain ⟨hn, a, rfl, ha, ha'⟩ := okB_nat hs
  rw [gAdd_nat a i ha' (by omega)]
  have hp : (2 : Nat) ^ i < 2 ^ n := Nat.pow_lt_pow_right (by omega) hi
  have hl : a ||| 2 ^ i < 2 ^ n := Nat.or_lt_two_pow ha hp
  refine ⟨okB_of_nat hn hl, fun j => ?_⟩
  by_cases hj : j < 12
  · rw [inSetB_nat _ j (or_lt a i ha' (by omega)) hj, inSetB_nat _ j ha' hj, Nat.testBit_or, Nat.testBit_two_pow]
  · have : ¬ i = j := by omega
    rw [inSetB_far _ (by omega), inSetB_far _ (by omega)]; simp [this]

/-! Lists that are webs of n. -/
/-- A list of n sets of n. -/
def Web (n : Nat) (zs : List Int) : Prop := n ≤ 12 ∧ zs.length = n ∧ ∀ i, i < n → okB n (zs.getD i 0) = true
theorem web_iff {zs : List Int} : webB zs = true ↔ Web zs.length zs := by
  constructor
  · intro h; exact ⟨webB_len h, rfl, fun i hi => webB_get h hi⟩
  · intro h; exact webB_all h.2.2
theorem Web.b {n : Nat} {zs : List Int} (h : Web n zs) : webB zs = true := by
  obtain ⟨h1, rfl, h2⟩ := h; exact web_iff.2 ⟨h1, rfl, h2⟩
theorem list_ext {n : Nat} {a b : List Int} (ha : a.length = n) (hb : b.length = n) (h : ∀ i, i < n → a.getD i 0 = b.getD i 0) : a = b := by
  apply List.ext_getElem (by omega)
  intro i h1 h2
  have := h i (by omega)
  rw [List.getD_eq_getElem?_getD, List.getD_eq_getElem?_getD, List.getElem?_eq_getElem h1, List.getElem?_eq_getElem h2] at this
  exact this
/-- Does a line go from i to j? -/
def line (zs : List Int) (i j : Nat) : Bool := inSetB (zs.getD i 0) j
theorem Web.ext {n : Nat} {a b : List Int} (ha : Web n a) (hb : Web n b) (h : ∀ i j, i < n → j < n → line a i j = line b i j) : a = b :=
  list_ext ha.2.1 hb.2.1 fun i hi => ok_ext (ha.2.2 i hi) (hb.2.2 i hi) fun j hj => h i j hi hj
theorem Web.lt {n : Nat} {a : List Int} (ha : Web n a) {i j : Nat} (hi : i < n) (h : line a i j = true) : j < n := inSetB_iff (ha.2.2 i hi) h
theorem getD_set (zs : List Int) (i j : Nat) (x : Int) (hi : i < zs.length) : (zs.set i x).getD j 0 = if i = j then x else zs.getD j 0 := by
  rw [List.getD_eq_getElem?_getD, List.getD_eq_getElem?_getD, List.getElem?_set]
  by_cases h : i = j
  · subst h; simp [hi]
  · simp [h]
theorem Web.set {n : Nat} {a : List Int} (ha : Web n a) {i : Nat} {x : Int} (hx : okB n x = true) : Web n (a.set i x) := by
  obtain ⟨h1, h2, h3⟩ := ha
  refine ⟨h1, by simp [h2], fun j hj => ?_⟩
  by_cases hi : i < a.length
  · rw [getD_set a i j x hi]; split
    · exact hx
    · exact h3 j hj
  · rw [List.set_eq_of_length_le (by omega)]; exact h3 j hj
theorem Web.zero {n : Nat} (hn : n ≤ 12) : Web n (List.replicate n 0) := by
  refine ⟨hn, by simp, fun i hi => ?_⟩
  rw [List.getD_eq_getElem?_getD, List.getElem?_replicate, if_pos hi]
  exact ok_zero hn
theorem line_zero (n i j : Nat) : line (List.replicate n 0) i j = false := by
  unfold line
  rw [List.getD_eq_getElem?_getD, List.getElem?_replicate]
  split <;> exact zero_bit j

/-! Then: the sum over the members is the sum over all. -/
theorem thenS_stop {n : Nat} {x : Int} (h : okB n x = true) (b : List Int) {m : Nat} (hm : n ≤ m) : thenS x b m = thenS x b n := by
  induction m with
  | zero => obtain rfl : n = 0 := by omega
            rfl
  | succ m ih =>
    by_cases he : n = m + 1
    · rw [he]
    · have hf : inSetB x m = false := by
        cases hb : inSetB x m with
        | false => rfl
        | true => have := inSetB_iff h hb; omega
      rw [← ih (by omega)]
      conv => lhs; unfold thenS
      simp [hf]
def thenF (b : List Int) (s k : Int) : Int := orI s (b.getD k.toNat 0)
theorem thenS_fold (x : Int) (b : List Int) (k : Nat) : (mem x k).foldl (thenF b) 0 = thenS x b k := by
  induction k with
  | zero => rfl
  | succ k ih =>
    unfold mem thenS
    rw [List.foldl_append, ih]
    cases inSetB x k with
    | false => rfl
    | true => simp [thenF]
theorem ok_then {n : Nat} {x : Int} {b : List Int} (hx : okB n x = true) (hb : Web n b) (m : Nat) : okB n (thenS x b m) = true ∧ ∀ j : Nat, inSetB (thenS x b m) j = true ↔ ∃ k, k < m ∧ inSetB x k = true ∧ line b k j = true := by
  induction m with
  | zero => exact ⟨ok_zero hb.1, fun j => by rw [show thenS x b 0 = 0 from rfl, zero_bit]; simp⟩
  | succ m ih =>
    unfold thenS
    cases hm : inSetB x m with
    | false =>
      refine ⟨by simpa using ih.1, fun j => ?_⟩
      simp only [Bool.false_eq_true, if_false]
      rw [ih.2 j]
      constructor
      · rintro ⟨k, hk, h1, h2⟩; exact ⟨k, by omega, h1, h2⟩
      · rintro ⟨k, hk, h1, h2⟩
        refine ⟨k, ?_, h1, h2⟩
        have : k ≠ m := fun e => by subst e; rw [hm] at h1; cases h1
        omega
    | true =>
      have hmn := inSetB_iff hx hm
      have ho := ok_or ih.1 (hb.2.2 m hmn)
      refine ⟨by simpa using ho.1, fun j => ?_⟩
      simp only [if_true]
      rw [ho.2 j, Bool.or_eq_true, ih.2 j]
      constructor
      · rintro (⟨k, hk, h1, h2⟩ | h)
        · exact ⟨k, by omega, h1, h2⟩
        · exact ⟨m, by omega, hm, h⟩
      · rintro ⟨k, hk, h1, h2⟩
        by_cases e : k = m
        · subst e; exact .inr h2
        · exact .inl ⟨k, by omega, h1, h2⟩

/-! Back. -/
theorem backIn_len (i : Nat) (x : Int) (st : List Int) (k : Nat) : (backIn i x st k).length = st.length := by
  induction k with
  | zero => rfl
  | succ k ih => unfold backIn; split <;> simp [ih]
theorem backIn_stop {n : Nat} {x : Int} (h : okB n x = true) (i : Nat) (st : List Int) {m : Nat} (hm : n ≤ m) : backIn i x st m = backIn i x st n := by
  induction m with
  | zero => obtain rfl : n = 0 := by omega
            rfl
  | succ m ih =>
    by_cases he : n = m + 1
    · rw [he]
    · have hf : inSetB x m = false := by
        cases hb : inSetB x m with
        | false => rfl
        | true => have := inSetB_iff h hb; omega
      rw [← ih (by omega)]
      conv => lhs; unfold backIn
      simp [hf]
def backF (i : Nat) (st : List Int) (k : Int) : List Int := st.set k.toNat (gAdd (st.getD k.toNat 0) i)
theorem backIn_fold (i : Nat) (x : Int) (st : List Int) (k : Nat) : (mem x k).foldl (backF i) st = backIn i x st k := by
  induction k with
  | zero => rfl
  | succ k ih =>
    unfold mem backIn
    rw [List.foldl_append, ih]
    cases inSetB x k with
    | false => rfl
    | true => simp [backF]
theorem web_backIn {n i : Nat} {x : Int} {st : List Int} (hx : okB n x = true) (hi : i < n) (hst : Web n st) (m : Nat) :
    Web n (backIn i x st m) ∧ ∀ k j : Nat, k < n → line (backIn i x st m) k j = (line st k j || (decide (k < m) && inSetB x k && decide (i = j))) := by
  induction m with
  | zero => exact ⟨hst, fun k j _ => by simp [backIn]⟩
  | succ m ih =>
    unfold backIn
    cases hm : inSetB x m with
    | false =>
      refine ⟨by simpa using ih.1, fun k j hk => ?_⟩
      simp only [Bool.false_eq_true, if_false]
      rw [ih.2 k j hk]
      by_cases e : k = m
      · subst e; simp [hm]
      · have : (k < m + 1) ↔ k < m := by omega
        simp [this]
    | true =>
      have hmn := inSetB_iff hx hm
      have ha := ok_add (ih.1.2.2 m hmn) hi
      refine ⟨by simpa using ih.1.set ha.1, fun k j hk => ?_⟩
      simp only [if_true]
      have e1 := ih.2 k j hk
      unfold line at e1 ⊢
      rw [getD_set _ _ _ _ (by rw [ih.1.2.1]; exact hmn)]
      by_cases e : m = k
      · subst e; simp only [if_true]; rw [ha.2 j, e1, hm]; simp
      · have : (k < m + 1) ↔ k < m := by omega
        simp only [e, if_false]; rw [e1]; simp [this]
theorem web_backAll {n : Nat} {zs : List Int} (hz : Web n zs) (m : Nat) (hm : m ≤ n) :
    Web n (backAll zs m) ∧ ∀ k j : Nat, k < n → line (backAll zs m) k j = (decide (j < m) && line zs j k) := by
  induction m with
  | zero =>
    have e : backAll zs 0 = List.replicate n 0 := by unfold backAll; rw [hz.2.1]
    rw [e]
    exact ⟨Web.zero hz.1, fun k j _ => by rw [line_zero]; simp⟩
  | succ m ih =>
    have ih := ih (by omega)
    have h1 := web_backIn (hz.2.2 m (by omega)) (show m < n by omega) ih.1 12
    refine ⟨h1.1, fun k j hk => ?_⟩
    show line (backIn m (zs.getD m 0) (backAll zs m) 12) k j = _
    rw [h1.2 k j hk, ih.2 k j hk]
    have hk12 : k < 12 := by have := hz.1; omega
    by_cases e : m = j
    · subst e; simp [hk12, line]
    · have : (j < m + 1) ↔ j < m := by omega
      simp [e, this]

/-! Ways: what is passed stays a web. -/
theorem wayIn_len (k : Nat) (st : List Int) (i : Nat) : (wayIn k st i).length = st.length := by
  induction i with
  | zero => rfl
  | succ i ih => unfold wayIn; split <;> simp [ih]
theorem web_wayIn {n k : Nat} {st : List Int} (hk : k < n) (hst : Web n st) (m : Nat) (hm : m ≤ n) :
    Web n (wayIn k st m) ∧ ∀ i j : Nat, i < n → line (wayIn k st m) i j = (line st i j || (decide (i < m) && line st i k && line st k j)) := by
  induction m with
  | zero => exact ⟨hst, fun i j _ => by simp [wayIn]⟩
  | succ m ih =>
    have ih := ih (by omega)
    have hmn : m < n := by omega
    have hkk : ∀ j, line (wayIn k st m) k j = line st k j := by
      intro j
      rw [ih.2 k j hk]
      cases line st k j <;> simp
    have hmk : line (wayIn k st m) m k = line st m k := by rw [ih.2 m k hmn]; simp
    have hmj : ∀ j, line (wayIn k st m) m j = line st m j := by intro j; rw [ih.2 m j hmn]; simp
    unfold wayIn
    cases hb : inSetB ((wayIn k st m).getD m 0) k with
    | false =>
      have hb' : line st m k = false := by rw [← hmk]; exact hb
      refine ⟨by simpa using ih.1, fun i j hi => ?_⟩
      simp only [Bool.false_eq_true, if_false]
      rw [ih.2 i j hi]
      by_cases e : i = m
      · subst e; simp [hb']
      · have : (i < m + 1) ↔ i < m := by omega
        simp [this]
    | true =>
      have hb' : line st m k = true := by rw [← hmk]; exact hb
      have ho := ok_or (ih.1.2.2 m hmn) (ih.1.2.2 k hk)
      refine ⟨by simpa using ih.1.set ho.1, fun i j hi => ?_⟩
      simp only [if_true]
      have e1 := ih.2 i j hi
      have e2 := hkk j
      have e3 := hmj j
      unfold line at e1 e2 e3 ⊢
      rw [getD_set _ _ _ _ (by rw [ih.1.2.1]; exact hmn)]
      by_cases e : m = i
      · subst e
        simp only [if_true]
        rw [ho.2 j, e2, e3]
        unfold line at hb'
        rw [hb']
        simp
      · have : (i < m + 1) ↔ i < m := by omega
        simp only [e, if_false]; rw [e1]; simp [this]
theorem web_wayAll {n : Nat} {zs : List Int} (hz : Web n zs) (m : Nat) (hm : m ≤ n) : Web n (wayAll zs m) := by
  induction m with
  | zero => exact hz
  | succ m ih =>
    show Web n (wayIn m (wayAll zs m) zs.length)
    rw [hz.2.1]
    exact (web_wayIn (by omega) (ih (by omega)) n (Nat.le_refl _)).1
theorem line_wayAll {n : Nat} {zs : List Int} (hz : Web n zs) (m : Nat) (hm : m < n) {i : Nat} (hi : i < n) (j : Nat) :
    line (wayAll zs (m + 1)) i j = (line (wayAll zs m) i j || (line (wayAll zs m) i m && line (wayAll zs m) m j)) := by
  show line (wayIn m (wayAll zs m) zs.length) i j = _
  rw [hz.2.1, (web_wayIn hm (web_wayAll hz m (by omega)) n (Nat.le_refl _)).2 i j hi]
  simp [hi]
end Go.Proofs.Ytefdhogmjijkgaa

/- Plain mathematics of events: which ones a work has, and what the law on them asks. -/
namespace Go.Proofs.Ytefdhogmjijkgaa

/-- An event: clerk, deed, does it read, place, value, class. -/
abbrev Ev := Int × Int × Bool × Int × Int × Int
def zE : Ev := (0, 0, false, 0, 0, 0)
def csE (e : Ev) : Int := e.2.2.2.2.2
def evBeg : List Ev := [(-1, -1, false, 0, 0, 0), (-1, -1, false, 1, 0, 1), (-1, -1, false, 2, 0, 2)]
/-- The events of one deed (none of a wait). -/
def oneE (i k : Nat) (d : Dd) (c : Int) : List Ev :=
  if d.1 = 4 then [] else if d.1 = 3 then [((i : Int), (k : Int), true, d.2.1, 0, c), ((i : Int), (k : Int), false, d.2.1, d.2.2.1, c)]
  else if d.1 = 2 then [((i : Int), (k : Int), false, d.2.1, d.2.2.1, c)] else [((i : Int), (k : Int), true, d.2.1, 0, c)]
/-- Where a Group began (0: nowhere yet), once one more deed is met. -/
def fstE (g : Int) (at0 : Nat) (f : List Int) : List Int := if 0 < g ∧ f.getD g.toNat 0 = 0 then f.set g.toNat (at0 : Int) else f
def clsE (g : Int) (at0 : Nat) (f : List Int) : Int := if 0 < g then (fstE g at0 f).getD g.toNat 0 else (at0 : Int)
def stepE (i k : Nat) (d : Dd) (s : List Ev × List Int) : List Ev × List Int :=
  if d.1 = 4 then s else (s.1 ++ oneE i k d (clsE d.2.2.2 s.1.length s.2), fstE d.2.2.2 s.1.length s.2)
def clkE (i : Nat) (ds : List Dd) (out : List Ev) : Nat → List Ev × List Int
  | 0 => (out, List.replicate 10 0)
  | k + 1 => stepE i k (ds.getD k zD) (clkE i ds out k)
def evsW (dss : List (List Dd)) : Nat → List Ev
  | 0 => evBeg
  | i + 1 => (clkE i (dss.getD i []) (evsW dss i) (dss.getD i []).length).1
def eventsB (dss : List (List Dd)) : List Ev := if workB dss = true then evsW dss dss.length else []
theorem oneE_len (i k : Nat) (d : Dd) (c : Int) (h : d.1 = 1 ∨ d.1 = 2 ∨ d.1 = 3 ∨ d.1 = 4) : ((oneE i k d c).length : Int) = evD d := by
  unfold oneE evD
  rcases h with h | h | h | h <;> simp [h]
theorem okD_kindE {d : Dd} (h : okD d = true) : d.1 = 1 ∨ d.1 = 2 ∨ d.1 = 3 ∨ d.1 = 4 := by
  simp [okD, deedB] at h
  omega
theorem okD_restE {d : Dd} (h : okD d = true) : 0 ≤ d.2.1 ∧ d.2.1 ≤ 2 ∧ 0 ≤ d.2.2.2 ∧ d.2.2.2 ≤ 9 ∧ (2 < d.1 → d.2.2.2 = 0) := by
  simp [okD, deedB] at h
  omega
theorem clkE_len {i : Nat} {ds : List Dd} {out : List Ev} (hok : ∀ j, j < ds.length → okD (ds.getD j zD) = true) : ∀ k : Nat, k ≤ ds.length → ((clkE i ds out k).1.length : Int) = out.length + evK ds k
  | 0, _ => by simp [clkE, evK]
  | k + 1, h => by
    have ih := clkE_len (i := i) (out := out) hok k (by omega)
    have hk := okD_kindE (hok k (by omega))
    rw [clkE, stepE, evK]
    split
    · rename_i h4
      rw [ih]
      unfold evD
      rw [h4]
      simp
    · have := oneE_len i k (ds.getD k zD) (clsE (ds.getD k zD).2.2.2 (clkE i ds out k).1.length (clkE i ds out k).2) hk
      rw [List.length_append]
      omega
theorem evsW_len {dss : List (List Dd)} (hok : ∀ i, i < dss.length → okL (dss.getD i []) = true) : ∀ n : Nat, n ≤ dss.length → ((evsW dss n).length : Int) = 3 + evW dss n
  | 0, _ => by simp [evsW, evBeg, evW]
  | n + 1, h => by
    have ih := evsW_len hok n (by omega)
    have hn := hok n (by omega)
    simp only [okL, Bool.and_eq_true, decide_eq_true_eq] at hn
    rw [evsW, clkE_len (fun j hj => all_get zD hn.1 j hj) _ (Nat.le_refl _), ih, evW]
    omega
/-- What the law asks of the event number j. -/
def GoodE (dss : List (List Dd)) (out : List Ev) (j : Nat) : Prop :=
  ∃ (i k c : Nat) (rd : Bool) (vl : Int), out[j]? = some ((i : Int), (k : Int), rd, ((dss.getD i []).getD k zD).2.1, vl, (c : Int)) ∧ i < dss.length ∧ k < (dss.getD i []).length ∧
    (rd = true → vl = 0) ∧ (rd = false → vl = ((dss.getD i []).getD k zD).2.2.1) ∧ c ≤ j ∧
    ∃ (k' : Nat) (rd' : Bool) (pl' vl' : Int), out[c]? = some ((i : Int), (k' : Int), rd', pl', vl', (c : Int)) ∧ k' < (dss.getD i []).length ∧
      (c ≠ j → ((dss.getD i []).getD k zD).1 ≠ 3 → ((dss.getD i []).getD k zD).2.2.2 ≠ 0 ∧ ((dss.getD i []).getD k' zD).2.2.2 = ((dss.getD i []).getD k zD).2.2.2)
theorem at_left {α : Type} {l : List α} {j : Nat} {x : α} (t : List α) (h : l[j]? = some x) : (l ++ t)[j]? = some x := by
  rw [List.getElem?_append_left (List.getElem?_eq_some_iff.1 h).1]; exact h
theorem GoodE.more {dss : List (List Dd)} {out : List Ev} {j : Nat} (h : GoodE dss out j) (t : List Ev) : GoodE dss (out ++ t) j := by
  obtain ⟨i, k, c, rd, vl, h1, h2, h3, h4, h5, h6, k', rd', pl', vl', g1, g2, g3⟩ := h
  exact ⟨i, k, c, rd, vl, at_left t h1, h2, h3, h4, h5, h6, k', rd', pl', vl', at_left t g1, g2, g3⟩
/-- Where a Group began, an event of it stands. -/
def FstOk (dss : List (List Dd)) (i : Nat) (out : List Ev) (f : List Int) : Prop :=
  f.length = 10 ∧ ∀ g : Nat, 0 < g → g < 10 → f.getD g 0 = 0 ∨ ∃ (c k' : Nat) (rd' : Bool) (pl' vl' : Int), f.getD g 0 = (c : Int) ∧ out[c]? = some ((i : Int), (k' : Int), rd', pl', vl', (c : Int)) ∧ k' < (dss.getD i []).length ∧ ((dss.getD i []).getD k' zD).2.2.2 = (g : Int)
theorem getD_setE (o : List Int) (g : Nat) (x : Int) (j : Nat) (hg : g < o.length) : (o.set g x).getD j 0 = if g = j then x else o.getD j 0 := by
  rw [List.getD_eq_getElem?_getD, List.getElem?_set]
  by_cases e : g = j
  · subst e; rw [if_pos rfl, if_pos hg, if_pos rfl]; rfl
  · rw [if_neg e, if_neg e, List.getD_eq_getElem?_getD]
/-- The first event of a deed stands at the end of what was there, with its class. -/
theorem oneE_first (i k : Nat) (d : Dd) (c : Int) (h4 : d.1 ≠ 4) : ∃ rd vl, (oneE i k d c)[0]? = some ((i : Int), (k : Int), rd, d.2.1, vl, c) ∧ (rd = true → vl = 0) ∧ (rd = false → vl = d.2.2.1) := by
  unfold oneE
  rw [if_neg h4]
  split
  · exact ⟨true, 0, rfl, by simp, by simp⟩
  · split
    · exact ⟨false, d.2.2.1, rfl, by simp, by simp⟩
    · exact ⟨true, 0, rfl, by simp, by simp⟩
theorem step_good {dss : List (List Dd)} {i k : Nat} {out : List Ev} {f : List Int} (hi : i < dss.length) (hk : k < (dss.getD i []).length) (hok : okD ((dss.getD i []).getD k zD) = true)
    (hG : ∀ j, 3 ≤ j → j < out.length → GoodE dss out j) (hF : FstOk dss i out f) :
    (∀ j, 3 ≤ j → j < (stepE i k ((dss.getD i []).getD k zD) (out, f)).1.length → GoodE dss (stepE i k ((dss.getD i []).getD k zD) (out, f)).1 j) ∧ FstOk dss i (stepE i k ((dss.getD i []).getD k zD) (out, f)).1 (stepE i k ((dss.getD i []).getD k zD) (out, f)).2 := by
  obtain ⟨d, hd⟩ : ∃ d, d = (dss.getD i []).getD k zD := ⟨_, rfl⟩
  rw [← hd] at hok ⊢
  by_cases h4 : d.1 = 4
  · rw [stepE, if_pos h4]; exact ⟨hG, hF⟩
  rw [stepE, if_neg h4]
  dsimp only
  obtain ⟨r0, r1, r2, r3, r4⟩ := okD_restE hok
  obtain ⟨g, hg⟩ := Int.eq_ofNat_of_zero_le r2
  obtain ⟨hl, hf⟩ := hF
  -- the class: an event with it stands there
  have hcls : ∃ (c k' : Nat) (rd' : Bool) (pl' vl' : Int), clsE d.2.2.2 out.length f = (c : Int) ∧ c ≤ out.length ∧ (out ++ oneE i k d (clsE d.2.2.2 out.length f))[c]? = some ((i : Int), (k' : Int), rd', pl', vl', (c : Int)) ∧ k' < (dss.getD i []).length ∧
      (c ≠ out.length → d.2.2.2 ≠ 0 ∧ ((dss.getD i []).getD k' zD).2.2.2 = d.2.2.2) ∧ (c = out.length → k' = k) := by
    obtain ⟨rd, vl, ho, _, _⟩ := oneE_first i k d (clsE d.2.2.2 out.length f) h4
    have new : clsE d.2.2.2 out.length f = (out.length : Int) → (out ++ oneE i k d (clsE d.2.2.2 out.length f))[out.length]? = some ((i : Int), (k : Int), rd, d.2.1, vl, ((out.length : Nat) : Int)) := fun e => by
      rw [List.getElem?_append_right (Nat.le_refl _), Nat.sub_self, ho, e]
    by_cases hg0 : g = 0
    · have e : clsE d.2.2.2 out.length f = (out.length : Int) := by unfold clsE; rw [hg, if_neg (by omega)]
      exact ⟨out.length, k, rd, d.2.1, vl, e, Nat.le_refl _, new e, hk, fun h => absurd rfl h, fun _ => rfl⟩
    · have gp : (0 : Int) < d.2.2.2 := by rw [hg]; omega
      have g10 : g < 10 := by rw [hg] at r3; omega
      rcases hf g (by omega) g10 with h0 | ⟨c, k', rd', pl', vl', e1, e2, e3, e4⟩
      · have e : clsE d.2.2.2 out.length f = (out.length : Int) := by
          unfold clsE fstE
          rw [if_pos gp, hg, Int.toNat_natCast, if_pos ⟨by omega, h0⟩, getD_setE f g _ g (by omega), if_pos rfl]
        exact ⟨out.length, k, rd, d.2.1, vl, e, Nat.le_refl _, new e, hk, fun h => absurd rfl h, fun _ => rfl⟩
      · have cl : c < out.length := (List.getElem?_eq_some_iff.1 e2).1
        by_cases hc0 : (c : Int) = 0
        · have e : clsE d.2.2.2 out.length f = (out.length : Int) := by
            unfold clsE fstE
            rw [if_pos gp, hg, Int.toNat_natCast, if_pos ⟨by omega, by rw [e1]; exact hc0⟩, getD_setE f g _ g (by omega), if_pos rfl]
          exact ⟨out.length, k, rd, d.2.1, vl, e, Nat.le_refl _, new e, hk, fun h => absurd rfl h, fun _ => rfl⟩
        · have e : clsE d.2.2.2 out.length f = (c : Int) := by
            unfold clsE fstE
            rw [if_pos gp, hg, Int.toNat_natCast, if_neg (by rw [e1]; omega), e1]
          exact ⟨c, k', rd', pl', vl', e, by omega, at_left _ e2, e3, fun _ => ⟨by omega, by rw [e4, hg]⟩, fun h => by omega⟩
  obtain ⟨c, k', rd', pl', vl', hc, hcl, hce, hk', hcg, hcn⟩ := hcls
  rw [hc] at hce ⊢
  refine ⟨fun j hj3 hj => ?_, ?_⟩
  · by_cases hold : j < out.length
    · exact (hG j hj3 hold).more _
    · have e1 : (out ++ oneE i k d (c : Int))[j]? = (oneE i k d (c : Int))[j - out.length]? := List.getElem?_append_right (by omega)
      have hjl : j - out.length < (oneE i k d (c : Int)).length := by rw [List.length_append] at hj; omega
      have form : ∃ rd vl, (oneE i k d (c : Int))[j - out.length]? = some ((i : Int), (k : Int), rd, d.2.1, vl, (c : Int)) ∧ (rd = true → vl = 0) ∧ (rd = false → vl = d.2.2.1) ∧ (j ≠ out.length → d.1 = 3) := by
        by_cases hz : j - out.length = 0
        · obtain ⟨rd, vl, ho, h5, h6⟩ := oneE_first i k d (c : Int) h4
          exact ⟨rd, vl, by rw [hz]; exact ho, h5, h6, fun h => by omega⟩
        · unfold oneE at hjl ⊢
          rw [if_neg h4] at hjl ⊢
          split at hjl
          · rename_i h3
            rw [if_pos h3]
            have : j - out.length = 1 := by simp at hjl; omega
            rw [this]
            exact ⟨false, d.2.2.1, rfl, by simp, by simp, fun _ => h3⟩
          · split at hjl
            · simp at hjl; omega
            · simp at hjl; omega
      obtain ⟨rd, vl, h1, h5, h6, h7⟩ := form
      refine ⟨i, k, c, rd, vl, by rw [e1, ← hd]; exact h1, hi, hk, h5, by rw [← hd]; exact h6, by omega, k', rd', pl', vl', hce, hk', fun hcj h3 => ?_⟩
      rw [← hd] at h3 ⊢
      have : j = out.length := by
        apply Classical.byContradiction
        intro hne
        exact h3 (h7 hne)
      exact hcg (by omega)
  · refine ⟨by unfold fstE; split <;> simp [hl], fun q hq0 hq => ?_⟩
    have keepOld : f.getD q 0 = 0 ∨ ∃ (c' k'' : Nat) (rd'' : Bool) (pl'' vl'' : Int), f.getD q 0 = (c' : Int) ∧ (out ++ oneE i k d (c : Int))[c']? = some ((i : Int), (k'' : Int), rd'', pl'', vl'', (c' : Int)) ∧ k'' < (dss.getD i []).length ∧ ((dss.getD i []).getD k'' zD).2.2.2 = (q : Int) := by
      rcases hf q hq0 hq with h0 | ⟨c', k'', rd'', pl'', vl'', e1, e2, e3, e4⟩
      · exact .inl h0
      · exact .inr ⟨c', k'', rd'', pl'', vl'', e1, at_left _ e2, e3, e4⟩
    unfold fstE
    split
    · rename_i hcond
      rw [hg, Int.toNat_natCast] at hcond ⊢
      rw [getD_setE f g _ q (by rw [hg] at r3; omega)]
      by_cases e : g = q
      · subst e
        rw [if_pos rfl]
        right
        have ec : c = out.length := by
          have : clsE d.2.2.2 out.length f = (out.length : Int) := by
            unfold clsE fstE
            rw [if_pos (by rw [hg]; exact hcond.1), hg, Int.toNat_natCast, if_pos hcond, getD_setE f g _ g (by rw [hg] at r3; omega), if_pos rfl]
          omega
        have ek := hcn ec
        subst ek
        refine ⟨out.length, k', rd', pl', vl', rfl, ?_, hk', by rw [← hd, hg]⟩
        rw [ec] at hce
        rw [ec]
        exact hce
      · rw [if_neg e]; exact keepOld
    · exact keepOld
theorem clk_good {dss : List (List Dd)} {i : Nat} {out : List Ev} (hi : i < dss.length) (hok : ∀ j, j < (dss.getD i []).length → okD ((dss.getD i []).getD j zD) = true) (hG : ∀ j, 3 ≤ j → j < out.length → GoodE dss out j) :
    ∀ k : Nat, k ≤ (dss.getD i []).length → (∃ t, (clkE i (dss.getD i []) out k).1 = out ++ t) ∧ (∀ j, 3 ≤ j → j < (clkE i (dss.getD i []) out k).1.length → GoodE dss (clkE i (dss.getD i []) out k).1 j) ∧ FstOk dss i (clkE i (dss.getD i []) out k).1 (clkE i (dss.getD i []) out k).2
  | 0, _ => ⟨⟨[], by simp [clkE]⟩, hG, by simp [clkE], fun g _ hg => .inl (by simp only [clkE]; rw [List.getD_eq_getElem?_getD, List.getElem?_replicate, if_pos hg]; rfl)⟩
  | k + 1, h => by
    obtain ⟨⟨t, ht⟩, h2, h3⟩ := clk_good hi hok hG k (by omega)
    have := step_good (k := k) hi (by omega) (hok k (by omega)) h2 h3
    refine ⟨?_, this⟩
    rw [clkE, stepE]
    split
    · exact ⟨t, ht⟩
    · exact ⟨t ++ oneE i k ((dss.getD i []).getD k zD) (clsE ((dss.getD i []).getD k zD).2.2.2 (clkE i (dss.getD i []) out k).1.length (clkE i (dss.getD i []) out k).2), by simp only; rw [ht, List.append_assoc]⟩
/-- All events are as the law asks. -/
theorem evs_good {dss : List (List Dd)} (hok : ∀ i, i < dss.length → okL (dss.getD i []) = true) : ∀ n : Nat, n ≤ dss.length → (∃ t, evsW dss n = evBeg ++ t) ∧ ∀ j, 3 ≤ j → j < (evsW dss n).length → GoodE dss (evsW dss n) j
  | 0, _ => ⟨⟨[], by simp [evsW]⟩, fun j h1 h2 => by simp [evsW, evBeg] at h2; omega⟩
  | n + 1, h => by
    obtain ⟨⟨t, ht⟩, h2⟩ := evs_good hok n (by omega)
    have hn := hok n (by omega)
    simp only [okL, Bool.and_eq_true, decide_eq_true_eq] at hn
    obtain ⟨⟨t2, ht2⟩, h3, _⟩ := clk_good (i := n) (out := evsW dss n) (by omega) (fun j hj => all_get zD hn.1 j hj) h2 (dss.getD n []).length (Nat.le_refl _)
    rw [evsW]
    exact ⟨⟨t ++ t2, by rw [ht2, ht, List.append_assoc]⟩, h3⟩
end Go.Proofs.Ytefdhogmjijkgaa

/- Plain mathematics of events: their numbers by a test, rising; each one is a read or a write to one of three places. -/
namespace Go.Proofs.Ytefdhogmjijkgaa

def rdE (e : Ev) : Bool := e.2.2.1
def toE (p : Int) (e : Ev) : Bool := !e.2.2.1 && (e.2.2.2.1 == p)
/-- The numbers of those of the first k that pass the test. -/
def idxK (f : Ev → Bool) (l : List Ev) : Nat → List Int
  | 0 => []
  | k + 1 => if f (l.getD k zE) = true then idxK f l k ++ [(k : Int)] else idxK f l k
def idxB (f : Ev → Bool) (l : List Ev) : List Int := if l.length ≤ 12 then idxK f l l.length else []
def clsB (l : List Ev) : List Int := if l.length ≤ 12 then l.map csE else []
theorem idxK_len (f : Ev → Bool) (l : List Ev) : ∀ k : Nat, (idxK f l k).length ≤ k
  | 0 => by simp [idxK]
  | k + 1 => by
    have ih := idxK_len f l k
    rw [idxK]
    split
    · simp; omega
    · omega
theorem idxK_lt (f : Ev → Bool) (l : List Ev) : ∀ (k : Nat) (x : Int), x ∈ idxK f l k → 0 ≤ x ∧ x < (k : Int)
  | 0, x, h => by simp [idxK] at h
  | k + 1, x, h => by
    rw [idxK] at h
    split at h
    · rcases List.mem_append.1 h with h | h
      · have := idxK_lt f l k x h; omega
      · simp at h; omega
    · have := idxK_lt f l k x h; omega
theorem idxK_rises (f : Ev → Bool) (l : List Ev) : ∀ k : Nat, (idxK f l k).Pairwise (· < ·)
  | 0 => by simp [idxK]
  | k + 1 => by
    have ih := idxK_rises f l k
    rw [idxK]
    split
    · rw [List.pairwise_append]
      refine ⟨ih, by simp, fun a ha b hb => ?_⟩
      simp at hb
      have := idxK_lt f l k a ha
      omega
    · exact ih
theorem idxK_pre (f : Ev → Bool) (l : List Ev) (k : Nat) : ∀ n : Nat, k ≤ n → ∃ t, idxK f l n = idxK f l k ++ t
  | 0, h => by
    obtain rfl : k = 0 := by omega
    exact ⟨[], by simp⟩
  | n + 1, h => by
    by_cases e : k = n + 1
    · subst e; exact ⟨[], by simp⟩
    · obtain ⟨t, ht⟩ := idxK_pre f l k n (by omega)
      rw [idxK]
      split
      · exact ⟨t ++ [(n : Int)], by rw [ht, List.append_assoc]⟩
      · exact ⟨t, ht⟩
/-- Each is a read or a write to one of the three places. -/
theorem idx_sum {l : List Ev} : ∀ k : Nat, (∀ j, j < k → 0 ≤ (l.getD j zE).2.2.2.1 ∧ (l.getD j zE).2.2.2.1 ≤ 2) → (idxK rdE l k).length + (idxK (toE 0) l k).length + (idxK (toE 1) l k).length + (idxK (toE 2) l k).length = k
  | 0, _ => by simp [idxK]
  | k + 1, h => by
    have ih := idx_sum (l := l) k (fun j hj => h j (by omega))
    have hp := h k (by omega)
    obtain ⟨e, he⟩ : ∃ e, e = l.getD k zE := ⟨_, rfl⟩
    rw [← he] at hp
    simp only [idxK, ← he]
    clear he
    obtain ⟨a, b, r, p, v, c⟩ := e
    simp only at hp
    cases r
    · have hr : rdE (a, b, false, p, v, c) = false := rfl
      have : p = 0 ∨ p = 1 ∨ p = 2 := by omega
      rcases this with rfl | rfl | rfl
      · have t0 : toE 0 (a, b, false, 0, v, c) = true := rfl
        have t1 : toE 1 (a, b, false, 0, v, c) = false := rfl
        have t2 : toE 2 (a, b, false, 0, v, c) = false := rfl
        simp only [hr, t0, t1, t2, if_true, Bool.false_eq_true, if_false, List.length_append, List.length_cons, List.length_nil]
        omega
      · have t0 : toE 0 (a, b, false, 1, v, c) = false := rfl
        have t1 : toE 1 (a, b, false, 1, v, c) = true := rfl
        have t2 : toE 2 (a, b, false, 1, v, c) = false := rfl
        simp only [hr, t0, t1, t2, if_true, Bool.false_eq_true, if_false, List.length_append, List.length_cons, List.length_nil]
        omega
      · have t0 : toE 0 (a, b, false, 2, v, c) = false := rfl
        have t1 : toE 1 (a, b, false, 2, v, c) = false := rfl
        have t2 : toE 2 (a, b, false, 2, v, c) = true := rfl
        simp only [hr, t0, t1, t2, if_true, Bool.false_eq_true, if_false, List.length_append, List.length_cons, List.length_nil]
        omega
    · have hr : rdE (a, b, true, p, v, c) = true := rfl
      have t : ∀ q, toE q (a, b, true, p, v, c) = false := fun _ => rfl
      simp only [hr, t, if_true, Bool.false_eq_true, if_false, List.length_append, List.length_cons, List.length_nil]
      omega
theorem beg_get {l t : List Ev} (h : l = evBeg ++ t) : l.getD 0 zE = (-1, -1, false, 0, 0, 0) ∧ l.getD 1 zE = (-1, -1, false, 1, 0, 1) ∧ l.getD 2 zE = (-1, -1, false, 2, 0, 2) := by
  subst h
  exact ⟨rfl, rfl, rfl⟩
theorem idx_first {l t : List Ev} (h : l = evBeg ++ t) (p : Nat) (hp : p < 3) : ∃ r, idxK (toE (p : Int)) l l.length = (p : Int) :: r := by
  obtain ⟨h0, h1, h2⟩ := beg_get h
  have hl : 3 ≤ l.length := by rw [h]; simp [evBeg]
  obtain ⟨r, hr⟩ := idxK_pre (toE (p : Int)) l 3 l.length hl
  have e : ∃ q, idxK (toE (p : Int)) l 3 = (p : Int) :: q := by
    have : p = 0 ∨ p = 1 ∨ p = 2 := by omega
    simp only [idxK, h0, h1, h2, toE]
    rcases this with rfl | rfl | rfl
    · exact ⟨[], by simp⟩
    · exact ⟨[], by simp⟩
    · exact ⟨[], by simp⟩
  obtain ⟨q, hq⟩ := e
  exact ⟨q ++ r, by rw [hr, hq]; rfl⟩
theorem good_place {dss : List (List Dd)} {out : List Ev} {j : Nat} (hok : ∀ i, i < dss.length → okL (dss.getD i []) = true) (h : GoodE dss out j) : 0 ≤ (out.getD j zE).2.2.2.1 ∧ (out.getD j zE).2.2.2.1 ≤ 2 := by
  obtain ⟨i, k, c, rd, vl, h1, h2, h3, _⟩ := h
  have hi := hok i h2
  simp only [okL, Bool.and_eq_true, decide_eq_true_eq] at hi
  have := okD_restE (all_get zD hi.1 k h3)
  rw [List.getD_eq_getElem?_getD, h1]
  exact ⟨this.1, this.2.1⟩
/-- All that the law on events asks of a work, in numbers. -/
theorem events_law {dss : List (List Dd)} (h : workB dss = true) : (evsW dss dss.length).length ≤ 12 ∧ ((evsW dss dss.length).length : Int) = 3 + evW dss dss.length ∧
    (idxK rdE (evsW dss dss.length) (evsW dss dss.length).length).length + (idxK (toE 0) (evsW dss dss.length) (evsW dss dss.length).length).length + (idxK (toE 1) (evsW dss dss.length) (evsW dss dss.length).length).length + (idxK (toE 2) (evsW dss dss.length) (evsW dss dss.length).length).length = (evsW dss dss.length).length ∧
    (∀ p : Nat, p < 3 → ∃ r, idxK (toE (p : Int)) (evsW dss dss.length) (evsW dss dss.length).length = (p : Int) :: r) ∧ ∀ j, 3 ≤ j → j < (evsW dss dss.length).length → GoodE dss (evsW dss dss.length) j := by
  simp only [workB, Bool.and_eq_true, decide_eq_true_eq] at h
  obtain ⟨⟨⟨⟨h1, h2⟩, h3⟩, h4⟩, _⟩ := h
  have hok : ∀ i, i < dss.length → okL (dss.getD i []) = true := fun i hi => all_get [] h2 i hi
  have hl := evsW_len hok dss.length (Nat.le_refl _)
  obtain ⟨⟨t, ht⟩, hg⟩ := evs_good hok dss.length (Nat.le_refl _)
  refine ⟨by omega, hl, idx_sum _ (fun j hj => ?_), fun p hp => idx_first ht p hp, hg⟩
  by_cases hj3 : 3 ≤ j
  · exact good_place hok (hg j hj3 hj)
  · obtain ⟨b0, b1, b2⟩ := beg_get ht
    have : j = 0 ∨ j = 1 ∨ j = 2 := by omega
    rcases this with rfl | rfl | rfl
    · rw [b0]; decide
    · rw [b1]; decide
    · rw [b2]; decide
end Go.Proofs.Ytefdhogmjijkgaa

/- Plain mathematics of webs that are filled, or thinned, line by line by a test; the lines behind one another, and those at one place. -/
namespace Go.Proofs.Ytefdhogmjijkgaa
open Go.RowKit

def addIn (p : Nat → Nat → Bool) (i : Nat) (st : List Int) : Nat → List Int
  | 0 => st
  | k + 1 => if p i k = true then (addIn p i st k).set i (gAdd ((addIn p i st k).getD i 0) k) else addIn p i st k
def addAll (p : Nat → Nat → Bool) (n : Nat) : Nat → List Int
  | 0 => List.replicate n 0
  | i + 1 => addIn p i (addAll p n i) n
def bitI (k : Nat) : Int := wrap64 (2 ^ (k : Int).toNat)
def offIn (p : Nat → Nat → Bool) (i : Nat) (st : List Int) : Nat → List Int
  | 0 => st
  | k + 1 => if p i k = true then (offIn p i st k).set i (notI ((offIn p i st k).getD i 0) (bitI k)) else offIn p i st k
def offAll (p : Nat → Nat → Bool) (n : Nat) (st : List Int) : Nat → List Int
  | 0 => st
  | i + 1 => offIn p i (offAll p n st i) n
theorem addIn_hit {p : Nat → Nat → Bool} {i k : Nat} (st : List Int) (h : p i k = true) : addIn p i st (k + 1) = (addIn p i st k).set i (gAdd ((addIn p i st k).getD i 0) k) := if_pos h
theorem addIn_miss {p : Nat → Nat → Bool} {i k : Nat} (st : List Int) (h : p i k = false) : addIn p i st (k + 1) = addIn p i st k := if_neg (by simp [h])
theorem offIn_hit {p : Nat → Nat → Bool} {i k : Nat} (st : List Int) (h : p i k = true) : offIn p i st (k + 1) = (offIn p i st k).set i (notI ((offIn p i st k).getD i 0) (bitI k)) := if_pos h
theorem offIn_miss {p : Nat → Nat → Bool} {i k : Nat} (st : List Int) (h : p i k = false) : offIn p i st (k + 1) = offIn p i st k := if_neg (by simp [h])
/-- As long as the test says no, nothing is filled. -/
theorem addIn_none {p : Nat → Nat → Bool} {i : Nat} (st : List Int) : ∀ k : Nat, (∀ j, j < k → p i j = false) → addIn p i st k = st
  | 0, _ => rfl
  | k + 1, h => by rw [addIn_miss st (h k (by omega))]; exact addIn_none st k (fun j hj => h j (by omega))
theorem offIn_none {p : Nat → Nat → Bool} {i : Nat} (st : List Int) : ∀ k : Nat, (∀ j, j < k → p i j = false) → offIn p i st k = st
  | 0, _ => rfl
  | k + 1, h => by rw [offIn_miss st (h k (by omega))]; exact offIn_none st k (fun j hj => h j (by omega))
theorem bitI_add : ∀ k : Nat, k < 12 → bitI k = gAdd 0 k := by decide +kernel
theorem ok_bit {n k : Nat} (hn : n ≤ 12) (hk : k < n) : okB n (bitI k) = true ∧ ∀ j : Nat, inSetB (bitI k) j = decide (k = j) := by
  rw [bitI_add k (by omega)]
  have h := ok_add (ok_zero hn) hk
  exact ⟨h.1, fun j => by rw [h.2 j, zero_bit]; simp⟩
theorem web_addIn {p : Nat → Nat → Bool} {n i : Nat} {st : List Int} (hi : i < n) (hst : Web n st) : ∀ m : Nat, m ≤ n →
    Web n (addIn p i st m) ∧ ∀ a j : Nat, a < n → line (addIn p i st m) a j = (line st a j || (decide (i = a) && decide (j < m) && p i j))
  | 0, _ => ⟨hst, fun a j _ => by simp [addIn]⟩
  | m + 1, hm => by
    have ih := web_addIn hi hst m (by omega) (p := p)
    cases hp : p i m with
    | false =>
      rw [addIn_miss st hp]
      refine ⟨ih.1, fun a j ha => ?_⟩
      rw [ih.2 a j ha]
      by_cases e : j = m
      · subst e; simp [hp]
      · have d : decide (j < m + 1) = decide (j < m) := decide_eq_decide.2 (by omega)
        rw [d]
    | true =>
      rw [addIn_hit st hp]
      have ha := ok_add (ih.1.2.2 i hi) (show m < n by omega)
      refine ⟨ih.1.set ha.1, fun a j haa => ?_⟩
      have e1 := ih.2 a j haa
      unfold line at e1 ⊢
      rw [getD_set _ _ _ _ (by rw [ih.1.2.1]; exact hi)]
      by_cases e : i = a
      · subst e
        simp only [if_true]
        rw [ha.2 j, e1]
        by_cases e2 : m = j
        · subst e2; simp [hp]
        · have d : decide (j < m + 1) = decide (j < m) := decide_eq_decide.2 (by omega)
          rw [d]; simp [e2]
      · simp only [e, if_false]; rw [e1]; simp [e]
theorem web_addAll {p : Nat → Nat → Bool} {n : Nat} (hn : n ≤ 12) : ∀ m : Nat, m ≤ n →
    Web n (addAll p n m) ∧ ∀ a j : Nat, a < n → line (addAll p n m) a j = (decide (a < m) && decide (j < n) && p a j)
  | 0, _ => ⟨Web.zero hn, fun a j _ => by unfold addAll; rw [line_zero]; simp⟩
  | m + 1, hm => by
    have ih := web_addAll hn m (by omega) (p := p)
    have h1 := web_addIn (p := p) (show m < n by omega) ih.1 n (Nat.le_refl _)
    refine ⟨h1.1, fun a j ha => ?_⟩
    show line (addIn p m (addAll p n m) n) a j = _
    rw [h1.2 a j ha, ih.2 a j ha]
    by_cases e : m = a
    · subst e; simp
    · have d : decide (a < m + 1) = decide (a < m) := decide_eq_decide.2 (by omega)
      rw [d]; simp [e]
theorem web_offIn {p : Nat → Nat → Bool} {n i : Nat} {st : List Int} (hi : i < n) (hst : Web n st) : ∀ m : Nat, m ≤ n →
    Web n (offIn p i st m) ∧ ∀ a j : Nat, a < n → line (offIn p i st m) a j = (line st a j && !(decide (i = a) && decide (j < m) && p i j))
  | 0, _ => ⟨hst, fun a j _ => by simp [offIn]⟩
  | m + 1, hm => by
    have ih := web_offIn hi hst m (by omega) (p := p)
    cases hp : p i m with
    | false =>
      rw [offIn_miss st hp]
      refine ⟨ih.1, fun a j ha => ?_⟩
      rw [ih.2 a j ha]
      by_cases e : j = m
      · subst e; simp [hp]
      · have d : decide (j < m + 1) = decide (j < m) := decide_eq_decide.2 (by omega)
        rw [d]
    | true =>
      rw [offIn_hit st hp]
      have hb := ok_bit hst.1 (show m < n by omega)
      have ha := ok_not (ih.1.2.2 i hi) hb.1
      refine ⟨ih.1.set ha.1, fun a j haa => ?_⟩
      have e1 := ih.2 a j haa
      unfold line at e1 ⊢
      rw [getD_set _ _ _ _ (by rw [ih.1.2.1]; exact hi)]
      by_cases e : i = a
      · subst e
        simp only [if_true]
        rw [ha.2 j, e1, hb.2 j]
        by_cases e2 : m = j
        · subst e2; simp [hp]
        · have d : decide (j < m + 1) = decide (j < m) := decide_eq_decide.2 (by omega)
          rw [d]; simp [e2]
      · simp only [e, if_false]; rw [e1]; simp [e]
theorem web_offAll {p : Nat → Nat → Bool} {n : Nat} {st : List Int} (hst : Web n st) : ∀ m : Nat, m ≤ n →
    Web n (offAll p n st m) ∧ ∀ a j : Nat, a < n → line (offAll p n st m) a j = (line st a j && !(decide (a < m) && decide (j < n) && p a j))
  | 0, _ => ⟨hst, fun a j _ => by simp [offAll]⟩
  | m + 1, hm => by
    have ih := web_offAll hst m (by omega) (p := p)
    have h1 := web_offIn (p := p) (show m < n by omega) ih.1 n (Nat.le_refl _)
    refine ⟨h1.1, fun a j ha => ?_⟩
    show line (offIn p m (offAll p n st m) n) a j = _
    rw [h1.2 a j ha, ih.2 a j ha]
    by_cases e : m = a
    · subst e; simp
    · have d : decide (a < m + 1) = decide (a < m) := decide_eq_decide.2 (by omega)
      rw [d]; simp [e]
/-- Does event k stand behind event i? -/
def behP (es : List Ev) (i k : Nat) : Bool := decide (i < k) && ((decide (i < 3) && decide (3 ≤ k)) || (decide (3 ≤ i) && ((es.getD i zE).1 == (es.getD k zE).1)))
def behL (es : List Ev) : List Int := addAll (behP es) es.length es.length
/-- Are they at two places? -/
def plcP (es : List Ev) (i k : Nat) : Bool := (es.getD i zE).2.2.2.1 != (es.getD k zE).2.2.2.1
def plcL (es : List Ev) : List Int := offAll (plcP es) es.length (behL es) es.length
theorem behP_up {es : List Ev} {i j : Nat} (h : j ≤ i) : behP es i j = false := by unfold behP; simp; omega
theorem beh_line {es : List Ev} (h : es.length ≤ 12) : Web es.length (behL es) ∧ ∀ a j : Nat, a < es.length → line (behL es) a j = (decide (j < es.length) && behP es a j) := by
  have h1 := web_addAll (p := behP es) h es.length (Nat.le_refl _)
  exact ⟨h1.1, fun a j ha => by unfold behL; rw [h1.2 a j ha]; simp [ha]⟩
theorem plc_line {es : List Ev} (h : es.length ≤ 12) : Web es.length (plcL es) ∧ ∀ a j : Nat, a < es.length → line (plcL es) a j = (decide (j < es.length) && behP es a j && !plcP es a j) := by
  have h1 := beh_line h
  have h2 := web_offAll (p := plcP es) h1.1 es.length (Nat.le_refl _)
  refine ⟨h2.1, fun a j ha => ?_⟩
  unfold plcL
  rw [h2.2 a j ha, h1.2 a j ha]
  by_cases hj : j < es.length
  · simp [ha, hj]
  · simp [hj]
end Go.Proofs.Ytefdhogmjijkgaa

/- Plain mathematics: is a deed a swap or of a Group; does a wait stand between two deeds. -/
namespace Go.Proofs.Ytefdhogmjijkgaa

/-- Is that deed a swap or of a Group? -/
def wholeD (d : Dd) : Bool := (d.1 == 3) || decide (0 < d.2.2.2)
/-- Does a wait stand between the deeds lo and hi? -/
def waitsD (ds : List Dd) (lo hi : Nat) : Bool := (List.range hi).any (fun j => decide (lo < j) && ((ds.getD j zD).1 == 4))
theorem waitsD_no {ds : List Dd} {lo hi : Nat} (h : ∀ j, lo < j → j < hi → (ds.getD j zD).1 ≠ 4) : waitsD ds lo hi = false := by
  unfold waitsD
  rw [List.any_eq_false]
  intro j hj
  rw [List.mem_range] at hj
  by_cases hl : lo < j
  · have := h j hl hj
    simp [hl]; simpa using this
  · simp [hl]
theorem waitsD_yes {ds : List Dd} {lo hi j : Nat} (h1 : lo < j) (h2 : j < hi) (h : (ds.getD j zD).1 = 4) : waitsD ds lo hi = true := by
  unfold waitsD
  rw [List.any_eq_true]
  exact ⟨j, List.mem_range.2 h2, by simp only [h]; simp [h1]⟩
end Go.Proofs.Ytefdhogmjijkgaa

/- Plain mathematics of the lines that slow ink keeps. -/
namespace Go.Proofs.Ytefdhogmjijkgaa
open Go.RowKit

def dOf (dss : List (List Dd)) (e : Ev) : Dd := (dss.getD e.1.toNat []).getD e.2.1.toNat zD
/-- What is not kept: a write ahead of a read of another class, with no wait between them, neither of a swap or a Group. -/
def kepQ (dss : List (List Dd)) (a b : Ev) : Bool := !(rdE a) && rdE b && (csE a != csE b) && (!waitsD (dss.getD a.1.toNat []) a.2.1.toNat b.2.1.toNat && !wholeD (dOf dss a) && !wholeD (dOf dss b))
def kepP (dss : List (List Dd)) (es : List Ev) (i k : Nat) : Bool := decide (3 ≤ i) && behP es i k && kepQ dss (es.getD i zE) (es.getD k zE)
def kepL (dss : List (List Dd)) (es : List Ev) : List Int := offAll (kepP dss es) es.length (behL es) es.length
theorem kepP_up {dss : List (List Dd)} {es : List Ev} {i j : Nat} (h : j ≤ i) : kepP dss es i j = false := by unfold kepP; rw [behP_up h]; simp
theorem kep_line {dss : List (List Dd)} {es : List Ev} (h : es.length ≤ 12) : Web es.length (kepL dss es) ∧ ∀ a j : Nat, a < es.length → line (kepL dss es) a j = (decide (j < es.length) && behP es a j && !kepP dss es a j) := by
  have h1 := beh_line h
  have h2 := web_offAll (p := kepP dss es) h1.1 es.length (Nat.le_refl _)
  refine ⟨h2.1, fun a j ha => ?_⟩
  unfold kepL
  rw [h2.2 a j ha, h1.2 a j ha]
  by_cases hj : j < es.length
  · simp [ha, hj]
  · simp [hj]
/-- Nothing is taken from the first three. -/
theorem kep_three {dss : List (List Dd)} {es : List Ev} : ∀ k : Nat, k ≤ 3 → offAll (kepP dss es) es.length (behL es) k = behL es
  | 0, _ => rfl
  | k + 1, h => by
    rw [offAll, kep_three k (by omega)]
    exact offIn_none _ _ (fun j _ => by unfold kepP; simp; omega)
/-- A line that is met has not been taken yet. -/
theorem kep_has {dss : List (List Dd)} {es : List Ev} (hn : es.length ≤ 12) {k m : Nat} (hk : k < es.length) (hm : m < es.length) :
    inSetB ((offIn (kepP dss es) k (offAll (kepP dss es) es.length (behL es) k) m).getD k 0) m = behP es k m := by
  have h1 := beh_line hn
  have h2 := web_offAll (p := kepP dss es) h1.1 k (by omega)
  have h3 := web_offIn (p := kepP dss es) hk h2.1 m (by omega)
  have e3 := h3.2 k m hk
  rw [h2.2 k m hk, h1.2 k m hk] at e3
  unfold line at e3
  rw [e3]
  simp [hm]
end Go.Proofs.Ytefdhogmjijkgaa

/- Plain mathematics: in which order the events of one clerk stand. -/
namespace Go.Proofs.Ytefdhogmjijkgaa
open Go.RowKit

/-- Of two events of one clerk the later one is of a later deed, or both are of one swap. -/
def OrdE (dss : List (List Dd)) (a b : Ev) : Prop := a.1 = b.1 → 0 ≤ a.1 → a.2.1 < b.2.1 ∨ (a.2.1 = b.2.1 ∧ (dOf dss a).1 = 3)
theorem one_ord {dss : List (List Dd)} {i k : Nat} {c : Int} (d : Dd) (hd : d = (dss.getD i []).getD k zD) : (oneE i k d c).Pairwise (OrdE dss) ∧ ∀ e ∈ oneE i k d c, e.1 = (i : Int) ∧ e.2.1 = (k : Int) ∧ (dOf dss e).1 ≠ 4 := by
  have key : ∀ e : Ev, e.1 = (i : Int) → e.2.1 = (k : Int) → dOf dss e = d := fun e h1 h2 => by
    unfold dOf
    rw [h1, h2, Int.toNat_natCast, Int.toNat_natCast]
    exact hd.symm
  have h1 : ∀ e ∈ oneE i k d c, e.1 = (i : Int) ∧ e.2.1 = (k : Int) := by
    intro e he
    unfold oneE at he
    split at he
    · simp at he
    · split at he
      · simp only [List.mem_cons, List.not_mem_nil, or_false] at he
        rcases he with rfl | rfl <;> exact ⟨rfl, rfl⟩
      · split at he
        · simp only [List.mem_cons, List.not_mem_nil, or_false] at he
          subst he; exact ⟨rfl, rfl⟩
        · simp only [List.mem_cons, List.not_mem_nil, or_false] at he
          subst he; exact ⟨rfl, rfl⟩
  refine ⟨?_, fun e he => ⟨(h1 e he).1, (h1 e he).2, ?_⟩⟩
  · have h1' := h1
    unfold oneE at h1' ⊢
    split
    · exact List.Pairwise.nil
    · rename_i h4
      rw [if_neg h4] at h1'
      split
      · rename_i h3
        rw [if_pos h3] at h1'
        rw [List.pairwise_cons]
        refine ⟨fun b hb => ?_, by simp⟩
        simp only [List.mem_cons, List.not_mem_nil, or_false] at hb
        subst hb
        intro _ _
        refine .inr ⟨rfl, ?_⟩
        rw [key _ rfl rfl]
        exact h3
      · split <;> simp
  · rw [key e (h1 e he).1 (h1 e he).2]
    intro h4
    unfold oneE at he
    rw [if_pos h4] at he
    simp at he
theorem clk_ord {dss : List (List Dd)} {i : Nat} {out : List Ev} (ho : out.Pairwise (OrdE dss)) (hl : ∀ e ∈ out, e.1 < (i : Int)) (h4 : ∀ e ∈ out, 0 ≤ e.1 → (dOf dss e).1 ≠ 4) : ∀ k : Nat,
    (clkE i (dss.getD i []) out k).1.Pairwise (OrdE dss) ∧ (∀ e ∈ (clkE i (dss.getD i []) out k).1, e.1 < (i : Int) ∨ (e.1 = (i : Int) ∧ e.2.1 < (k : Int))) ∧ ∀ e ∈ (clkE i (dss.getD i []) out k).1, 0 ≤ e.1 → (dOf dss e).1 ≠ 4
  | 0 => ⟨ho, fun e he => .inl (hl e he), h4⟩
  | k + 1 => by
    obtain ⟨h1, h2, h3⟩ := clk_ord ho hl h4 k
    rw [clkE, stepE]
    split
    · refine ⟨h1, fun e he => ?_, h3⟩
      rcases h2 e he with h | ⟨h, h'⟩
      · exact .inl h
      · exact .inr ⟨h, by omega⟩
    · obtain ⟨g1, g2⟩ := one_ord (dss := dss) (i := i) (k := k) (c := clsE ((dss.getD i []).getD k zD).2.2.2 (clkE i (dss.getD i []) out k).1.length (clkE i (dss.getD i []) out k).2) _ rfl
      refine ⟨?_, fun e he => ?_, fun e he => ?_⟩
      · simp only
        rw [List.pairwise_append]
        refine ⟨h1, g1, fun a ha b hb => ?_⟩
        intro he _
        obtain ⟨b1, b2, _⟩ := g2 b hb
        rcases h2 a ha with h | ⟨h, h'⟩
        · omega
        · left; omega
      · rcases List.mem_append.1 he with he | he
        · rcases h2 e he with h | ⟨h, h'⟩
          · exact .inl h
          · exact .inr ⟨h, by omega⟩
        · obtain ⟨b1, b2, _⟩ := g2 e he
          exact .inr ⟨b1, by omega⟩
      · rcases List.mem_append.1 he with he | he
        · exact h3 e he
        · exact fun _ => (g2 e he).2.2
theorem evs_ord (dss : List (List Dd)) : ∀ n : Nat, (evsW dss n).Pairwise (OrdE dss) ∧ (∀ e ∈ evsW dss n, e.1 < (n : Int)) ∧ ∀ e ∈ evsW dss n, 0 ≤ e.1 → (dOf dss e).1 ≠ 4
  | 0 => by
    have neg : ∀ e ∈ evBeg, e.1 = -1 := by
      intro e he
      simp only [evBeg, List.mem_cons, List.not_mem_nil, or_false] at he
      rcases he with rfl | rfl | rfl <;> rfl
    refine ⟨?_, fun e he => by rw [neg e he]; omega, fun e he h0 => by rw [neg e he] at h0; omega⟩
    refine List.Pairwise.imp_of_mem (R := fun _ _ => True) ?_ (List.pairwise_of_forall (fun _ _ => trivial))
    intro a b ha _ _
    intro _ h0
    rw [neg a ha] at h0
    omega
  | n + 1 => by
    obtain ⟨h1, h2, h3⟩ := evs_ord dss n
    obtain ⟨g1, g2, g3⟩ := clk_ord (i := n) h1 h2 h3 (dss.getD n []).length
    rw [evsW]
    exact ⟨g1, fun e he => by rcases g2 e he with h | ⟨h, _⟩ <;> omega, g3⟩
end Go.Proofs.Ytefdhogmjijkgaa
