/- Several texts in one. -/
import Derived.WalkKit
import Derived.ProofKit
import Derived.Laws.BitsAllLaws
import Derived.Laws.BitsLemmas
import Derived.Test.YtkbkdlaknmgjpaaRows
import Derived.OpenShut
import Derived.Below
import Derived.WalkSmall
import Derived.Laws.Rows
import Derived.Laws.ResultCell
import Derived.Lib.IndexMore
import Derived.Lib.ParseIntB
import Derived.Lib.ItoaNum
import Derived.Deep.Slices
import Derived.Lib.SmallJoins
import Derived.Maps.AppendAt
import Derived.Laws.OwnMore
import Derived.OwnWalk
import Derived.Lib.Hide
namespace Go.Proofs.Ytkbkdlaknmgjpaa
open Go.ChangeShapes Go.WideShapes Go.ChangeAt Go.RowKit
open Go.RowKit
theorem ret_bool {a b : Bool} (h : a = b) : Ending.returned (.bool a) = .returned (.bool b) := by rw [h]
theorem ret_int {k : IntKind} {a b : Int} (h : a = b) : Ending.returned (.int k a) = .returned (.int k b) := by rw [h]
theorem ofInt_i64 (a : Nat) (ha : a < 9223372036854775808) : (BitVec.ofInt 64 (a : Int)).toNat = a := ofInt_u64 a (by omega)
theorem i64_or_nat (a b : Nat) (ha : a < 9223372036854775808) (hb : b < 9223372036854775808) : bits .or .i64 (a : Int) (b : Int) = ((a ||| b : Nat) : Int) := by
 have hx : a ||| b < 2 ^ 63 := Nat.or_lt_two_pow (by omega) (by omega)
 show IntKind.i64.wrap ((BitVec.ofInt 64 (a : Int) ||| BitVec.ofInt 64 (b : Int)).toNat : Int) = _
 rw [BitVec.toNat_or, ofInt_i64 a ha, ofInt_i64 b hb, IntKind.wrap_i64]
 omega
theorem i64_and_nat (a b : Nat) (ha : a < 9223372036854775808) (hb : b < 9223372036854775808) : bits .and .i64 (a : Int) (b : Int) = ((a &&& b : Nat) : Int) := by
 have hx : a &&& b < 2 ^ 63 := Nat.and_lt_two_pow _ (by omega)
 show IntKind.i64.wrap ((BitVec.ofInt 64 (a : Int) &&& BitVec.ofInt 64 (b : Int)).toNat : Int) = _
 rw [BitVec.toNat_and, ofInt_i64 a ha, ofInt_i64 b hb, IntKind.wrap_i64]
 omega
theorem pow_le12 (n : Nat) (h : n ≤ 12) : (2 : Int) ^ n ≤ 4096 ∧ (1 : Int) ≤ 2 ^ n := by
 have : n = 0 ∨ n = 1 ∨ n = 2 ∨ n = 3 ∨ n = 4 ∨ n = 5 ∨ n = 6 ∨ n = 7 ∨ n = 8 ∨ n = 9 ∨ n = 10 ∨ n = 11 ∨ n = 12 := by omega
 rcases this with rfl | rfl | rfl | rfl | rfl | rfl | rfl | rfl | rfl | rfl | rfl | rfl | rfl <;> decide
theorem wrap64_small (x : Int) (h1 : -9223372036854775808 ≤ x) (h2 : x ≤ 9223372036854775807) : wrap64 x = x := by
 simp only [wrap64]; omega
theorem wrap64_pow (n : Int) (h0 : 0 ≤ n) (h : n ≤ 12) : wrap64 (2 ^ n.toNat) = 2 ^ n.toNat := by
 have := pow_le12 n.toNat (by omega)
 exact wrap64_small _ (by omega) (by omega)
def inB (x lo hi : Int) : Bool := decide (lo ≤ x ∧ x ≤ hi)
def okB (n s : Int) : Bool := decide ((0 ≤ n ∧ n ≤ 12) ∧ 0 ≤ s ∧ s < 2 ^ n.toNat)
def bitB (s i : Int) : Bool := bits .and .i64 (s / 2 ^ i.toNat) 1 == 1
def inSetB (s i : Int) : Bool := inB i 0 11 && inB s 0 4095 && bitB s i
def mem (s : Int) : Nat → List Int
 | 0 => []
 | k + 1 => mem s k ++ (if inSetB s k = true then [(k : Int)] else [])
def gAdd (s i : Int) : Int := if s = -1 ∨ inB i 0 11 = false then -1 else bits .or .i64 s (wrap64 (2 ^ i.toNat))
theorem mem_len (s : Int) (k : Nat) : (mem s k).length ≤ k := by
 induction k with
 | zero => simp [mem]
 | succ k ih => unfold mem; split <;> simp <;> omega
theorem gAdd_bad (s i : Int) (h : inB i 0 11 = false) : gAdd s i = -1 := by simp [gAdd, h]
theorem gAdd_none (i : Int) : gAdd (-1) i = -1 := by simp [gAdd]
theorem gAdd_ok (s i : Int) (h0 : 0 ≤ s) (h : inB i 0 11 = true) : gAdd s i = bits .or .i64 s (wrap64 (2 ^ i.toNat)) := by
 have : ¬ s = -1 := by omega
 simp [gAdd, h, this]
theorem take_snoc (l : List Int) (k : Nat) (h : k < l.length) : l.take (k + 1) = l.take k ++ [l.getD k 0] := by
 rw [List.take_succ_eq_append_getElem h, List.getD_eq_getElem?_getD, List.getElem?_eq_getElem h]; rfl
def Keep (w w' : World) : Prop := Below w.heap.size w w'
theorem Keep.refl (w : World) : Keep w w := Below.refl _ _
theorem Keep.size {w w' : World} (h : Keep w w') : w.heap.size ≤ w'.heap.size := Below.size h
theorem Keep.trans {a b c : World} (h : Keep a b) (k : Keep b c) : Keep a c := Below.trans h (Below.mono k h.size)
theorem Keep.drew {a w : World} (h : Keep a w) : Keep a w.drew := Below.drew h
theorem Keep.drewN {a w : World} (h : Keep a w) (n : Nat) : Keep a (w.drewN n) := below_drewN h n
theorem Keep.alloc {a w : World} (h : Keep a w) (o : Obj) : Keep a (w.alloc o) := Below.alloc h h.size o
theorem Keep.grown {a w w' : World} {row : Option Nat} (h : Keep a w) (hg : w.grownBy w' row) (hr : ∀ k, row = some k → a.heap.size ≤ k) : Keep a w' := Below.grown h hg h.size hr
theorem Keep.grownBy {w w' : World} (h : Keep w w') : w.grownBy w' none := ⟨Below.os h, Below.tape h, Below.output h, Below.size h, fun k hk _ => Below.block h k hk⟩
theorem Keep.cell {w w' : World} (h : Keep w w') {b o : Nat} (hb : b < w.heap.size) : w'.cell? ⟨b, o, none⟩ = w.cell? ⟨b, o, none⟩ := Below.cell h hb
theorem grown_trans {a b c : World} {row : Option Nat} (h : a.grownBy b row) (k : b.grownBy c row) : a.grownBy c row :=
 ⟨k.os.trans h.os, k.tape.trans h.tape, k.output.trans h.output, Nat.le_trans h.size k.size, fun i hi hne => (k.block i (Nat.lt_of_lt_of_le hi h.size) hne).trans (h.block i hi hne)⟩
def Rd (w : World) (v : Value) (zs : List Int) : Prop :=
 ∃ (a : Option Addr) (cap : Nat), v = .slice a zs.length cap ∧
  (zs = [] ∨ ∃ b off, a = some ⟨b, off, none⟩ ∧ b < w.heap.size ∧ ∀ i, i < zs.length → w.cell? ⟨b, off + i, none⟩ = some (.int .i64 (zs.getD i 0)))
theorem Rd.keep {w w' : World} {v : Value} {zs : List Int} (h : Rd w v zs) (k : Keep w w') : Rd w' v zs := by
 obtain ⟨a, cap, hv, h⟩ := h
 refine ⟨a, cap, hv, ?_⟩
 rcases h with h | ⟨b, off, ha, hb, hc⟩
 ·
  exact .inl h
 ·
  exact .inr ⟨b, off, ha, Nat.lt_of_lt_of_le hb k.size, fun i hi => (k.cell hb).trans (hc i hi)⟩
def Own (w : World) (base : Nat) (v : Value) (zs : List Int) : Prop := w.ownsRow base 2 1 v zs.length (zs.map (Value.int .i64))
theorem Own.kept {w w' : World} {base : Nat} {v : Value} {zs : List Int} {row : Option Nat} (h : Own w base v zs) (hg : w.grownBy w' row) (hne : v.ownBlock = none ∨ v.ownBlock ≠ row) : Own w' base v zs :=
 World.ownsRow.kept h hg hne
theorem Own.keep {w w' : World} {base : Nat} {v : Value} {zs : List Int} (h : Own w base v zs) (k : Keep w w') : Own w' base v zs :=
 Own.kept h k.grownBy (by cases v.ownBlock <;> simp)
theorem Own.rd {w : World} {base : Nat} {v : Value} {zs : List Int} (h : Own w base v zs) : Rd w v zs := by
 have hlt := World.ownsRow.lt h
 rcases h.2 with ⟨rfl, hn⟩ | ⟨g, cap, cur, rfl, hb, hg, rest⟩
 ·
  have : zs = [] := List.eq_nil_of_length_eq_zero hn
  subst this
  exact ⟨none, 0, rfl, .inl rfl⟩
 ·
  refine ⟨some ⟨g, 0, none⟩, cap, rfl, .inr ⟨g, 0, rfl, (hlt g rfl).2, fun i hi => ?_⟩⟩
  have hc := World.ownsRow.cellAt h i (by simpa using hi)
  rw [Nat.zero_add, hc, List.getElem?_map, List.getElem?_eq_getElem hi, List.getD_eq_getElem?_getD, List.getElem?_eq_getElem hi]
  rfl
theorem Own.base_le {w : World} {base base' : Nat} {v : Value} {zs : List Int} (h : Own w base v zs) (hb : base' ≤ base) : Own w base' v zs := by
 refine ⟨h.1, ?_⟩
 rcases h.2 with h | ⟨g, cap, cur, hv, hg, rest⟩
 ·
  exact .inl h
 ·
  exact .inr ⟨g, cap, cur, hv, Nat.le_trans hb hg, rest⟩
theorem Own.ge {w : World} {base : Nat} {v : Value} {zs : List Int} (h : Own w base v zs) : ∀ k, v.ownBlock = some k → base ≤ k := fun k hk => (World.ownsRow.lt h k hk).1
theorem Own.apart {w w' : World} {base : Nat} {v v' : Value} {zs zs' : List Int} (h : Own w base v zs) (h' : Own w' w.heap.size v' zs') : v.ownBlock = none ∨ v.ownBlock ≠ v'.ownBlock := by
 cases hv : v.ownBlock with
 | none => exact .inl rfl
 | some k =>
  refine .inr fun e => ?_
  have h1 := (World.ownsRow.lt h k hv).2
  have h2 := h'.ge k e.symm
  omega
theorem rd_of_row {w : World} {a : Option Addr} {len cap : Nat} {ys : List Int}
  (h : (a = none ∧ len = 0 ∧ cap = 0 ∧ ys = []) ∨ ∃ x, a = some x ∧ len ≤ cap ∧ cap ≤ maxLen ∧ ys.length = cap ∧ (∀ i, i < ys.length → w.cell? (x.add i) = some (.int .i64 (ys.getD i 0))) ∧ ∀ n ∈ ys, (Lit.int .i64 n).wf = true) :
  ∃ zs : List Int, zs.length = len ∧ Rd w (.slice a len cap) zs := by
 rcases h with ⟨rfl, rfl, rfl, rfl⟩ | ⟨x, rfl, hl, hm, hy, hc, _⟩
 ·
  exact ⟨[], rfl, none, 0, rfl, .inl rfl⟩
 ·
  have hzl : (ys.take len).length = len := by rw [List.length_take]; omega
  refine ⟨ys.take len, hzl, some x, cap, by rw [hzl], ?_⟩
  by_cases h0 : len = 0
  ·
   left; subst h0; simp
  ·
   right
   obtain ⟨b, off, spot⟩ := x
   have hc0 := hc 0 (by omega)
   have hspot : spot = none := by simpa [Addr.add] using World.cell?_spot hc0
   subst hspot
   have hcc : ∀ i, i < (ys.take len).length → w.cell? ⟨b, off + i, none⟩ = some (.int .i64 ((ys.take len).getD i 0)) := by
    intro i hi
    have h1 := hc i (by omega)
    have e1 : (⟨b, off, none⟩ : Addr).add i = ⟨b, off + i, none⟩ := by unfold Addr.add; split <;> simp_all
    rw [e1] at h1
    rw [h1, List.getD_eq_getElem?_getD, List.getD_eq_getElem?_getD, List.getElem?_take, if_pos (by omega)]
   refine ⟨b, off, rfl, ?_, hcc⟩
   have h2 := hcc 0 (by omega)
   apply Classical.byContradiction
   intro hnb
   have h3 : w.heap[b]? = none := by simp; omega
   simp [World.cell?, h3] at h2
theorem own_hit {w : World} {base : Nat} {v : Value} {zs : List Int} {x : Int} (h : w.ownsRow base 2 1 v (zs.length + 1) (zs.map (Value.int .i64) ++ [.int .i64 x])) : Own w base v (zs ++ [x]) := by
 unfold Own; simpa using h
theorem Try.infoI : (Try.prog.info? 2).map (fun i => (i.zero, i.size, i.bytes)) = some (some (.int .i64 0), 1, 8) := by kernel_rfl
theorem heap_at (w : World) (A : Obj) (i : Nat) : (w.alloc A).heap[i]? = if i = w.heap.size then some A else w.heap[i]? := Array.getElem?_push
theorem heap_size (w : World) (A : Obj) : (w.alloc A).heap.size = w.heap.size + 1 := Array.size_push _
theorem heap_drew (w : World) : w.drew.heap = w.heap := rfl
theorem box_size {w w1 : World} {o : Obj} (k : Keep (w.alloc o) w1) : w.heap.size < w1.heap.size := by
 have := k.size
 rw [heap_size] at this
 omega
theorem box_cell {w w1 : World} {cs : Array Value} {t : TypeId} (k : Keep (w.alloc (.cells cs t)) w1) (i : Nat) : w1.cell? ⟨w.heap.size, i, none⟩ = cs[i]? := by
 rw [k.cell (by rw [heap_size]; omega), cell_of_row (w.alloc (.cells cs t)) w.heap.size i cs t (0, 0) (heap_alloc_new w _)]
theorem box_heap {w w1 : World} {o : Obj} (k : Keep (w.alloc o) w1) : w1.heap[w.heap.size]? = some o :=
 (Below.block k w.heap.size (by rw [heap_size]; omega)).trans (heap_alloc_new w o)
theorem results_row {P : Program} {fn : Func} {p : Tmp} {ty : TypeId} (h : fn.results = #[.cell p ty]) (tmps : Array Value) (w : World) (g : Nat) (t : TypeId) (cs : Array Value) (fr : Nat × Nat) (d : TypeDesc)
  (hp : tmps.getD p undef = .pointer (some ⟨g, 0, none⟩)) (hg : w.heap[g]? = some (.cells cs t fr))
  (hu : P.underlying ty = some d) (hd : (match d with | .struct _ | .array _ _ => true | _ => false) = true) (hi : (P.info? ty).map (·.size) = some cs.size) :
  (results fn tmps).run P w = .ok (.agg cs) w := results_cell_row h tmps w g t cs fr d hp hg hu hd hi
theorem results_row2 {P : Program} {fn : Func} {p q : Tmp} {ty : TypeId} (h : fn.results = #[.cell p ty, .cell q ty]) (tmps : Array Value) (w : World) (g g' : Nat) (t t' : TypeId) (cs cs' : Array Value) (fr fr' : Nat × Nat) (d : TypeDesc)
  (hp : tmps.getD p undef = .pointer (some ⟨g, 0, none⟩)) (hg : w.heap[g]? = some (.cells cs t fr))
  (hq : tmps.getD q undef = .pointer (some ⟨g', 0, none⟩)) (hg' : w.heap[g']? = some (.cells cs' t' fr'))
  (hu : P.underlying ty = some d) (hd : (match d with | .struct _ | .array _ _ => true | _ => false) = true) (hi : (P.info? ty).map (·.size) = some cs.size) (hi' : (P.info? ty).map (·.size) = some cs'.size) :
  (results fn tmps).run P w = .ok (.tuple #[.agg cs, .agg cs']) w := by
 have hp' : tmps[p]?.getD undef = .pointer (some ⟨g, 0, none⟩) := by simpa using hp
 have hq' : tmps[q]?.getD undef = .pointer (some ⟨g', 0, none⟩) := by simpa using hq
 simp [results, h, hp', hq', asAddr, run_loadVar_row w g t ty cs fr d hg hu hd hi, run_loadVar_row w g' t' ty cs' fr' d hg' hu hd hi']
theorem l1In_any (x lo hi : Int) (w : World) :
  Calls Try.prog 45 #[.int .i64 x, .int .i64 lo, .int .i64 hi] w fun e w' => e = .returned (.bool (inB x lo hi)) ∧ w' = w := by
 go_enter Try.func45, Try.ntmps45
 go_wp2
 all_goals
  go_ret
  exact ⟨ret_bool (by rw [Bool.eq_iff_iff]; unfold inB; simp; omega), rfl⟩
def deedB (k p v g : Int) : Bool :=
 decide ((1 ≤ k ∧ k ≤ 4) ∧ (0 ≤ p ∧ p ≤ 2) ∧ (0 ≤ g ∧ g ≤ 9) ∧ (k = 4 → p = 0) ∧ (2 < k → g = 0) ∧ ((k = 2 ∨ k = 3) → 1 ≤ v ∧ v ≤ 9) ∧ (¬ (k = 2 ∨ k = 3) → v = 0))
abbrev deedV (k p v g : Int) : Value := .agg #[.int .i64 k, .int .i64 p, .int .i64 v, .int .i64 g]
theorem specDeedOk_any (k p v g : Int) (w : World) :
  Calls Try.prog 46 #[deedV k p v g] w fun e w' => e = .returned (.bool (deedB k p v g)) ∧ Keep w w' := by
 unfold deedV
 go_enter Try.func46, Try.ntmps46
 go_wp2_with (go_at_call 45; refine (l1In_any _ _ _ _).mono ?_; rintro e w' ⟨rfl, rfl⟩)
 all_goals
  go_ret
  refine ⟨ret_bool ?_, (Keep.refl w).alloc _⟩
  simp [inB] at *
  rw [Bool.eq_iff_iff]
  simp [deedB]
  omega
abbrev Dd := Int × Int × Int × Int
def zD : Dd := (0, 0, 0, 0)
def okD (d : Dd) : Bool := deedB d.1 d.2.1 d.2.2.1 d.2.2.2
def evD (d : Dd) : Int := if d.1 = 1 then 1 else if d.1 = 2 then 1 else if d.1 = 3 then 2 else 0
def evK (ds : List Dd) : Nat → Int
 | 0 => 0
 | k + 1 => evK ds k + evD (ds.getD k zD)
def evW (dss : List (List Dd)) : Nat → Int
 | 0 => 0
 | i + 1 => evW dss i + evK (dss.getD i []) (dss.getD i []).length
theorem evD_in (d : Dd) : 0 ≤ evD d ∧ evD d ≤ 2 := by
 unfold evD
 repeat' split
 all_goals omega
theorem evK_in (ds : List Dd) : ∀ k : Nat, 0 ≤ evK ds k ∧ evK ds k ≤ 2 * k
 | 0 => by simp [evK]
 | k + 1 => by have := evK_in ds k; have := evD_in (ds.getD k zD); rw [evK]; omega
def grpK (i : Nat) (own : List Int) (ds : List Dd) : Nat → Option (List Int)
 | 0 => some own
 | k + 1 => match grpK i own ds k with
  | none => none
  | some o =>
   if (ds.getD k zD).2.2.2 = 0 then some o
   else if o.getD (ds.getD k zD).2.2.2.toNat 0 ≠ 0 ∧ (o.getD (ds.getD k zD).2.2.2.toNat 0 ≠ (i : Int) + 1 ∨ k = 0 ∨ (ds.getD (k - 1) zD).2.2.2 ≠ (ds.getD k zD).2.2.2) then none
   else some (o.set (ds.getD k zD).2.2.2.toNat ((i : Int) + 1))
def grpW (dss : List (List Dd)) : Nat → Option (List Int)
 | 0 => some (List.replicate 10 0)
 | i + 1 => match grpW dss i with
  | none => none
  | some o => grpK i o (dss.getD i []) (dss.getD i []).length
def grpB (dss : List (List Dd)) : Bool := (grpW dss dss.length).isSome
def lenW : List (List Dd) → Nat
 | [] => 0
 | d :: r => d.length + lenW r
def okL (ds : List Dd) : Bool := ds.all okD && decide (ds.length ≤ 5)
def workB (dss : List (List Dd)) : Bool :=
 decide (1 ≤ dss.length ∧ dss.length ≤ 3) && dss.all okL && decide (lenW dss ≤ 12) && decide (evW dss dss.length ≤ 6) && grpB dss
theorem grpK_none {i : Nat} {own : List Int} {ds : List Dd} {k : Nat} (h : grpK i own ds k = none) : ∀ n : Nat, k ≤ n → grpK i own ds n = none
 | 0, hn => by
  obtain rfl : k = 0 := by omega
  exact h
 | n + 1, hn => by
  by_cases e : k = n + 1
  ·
   rw [← e]; exact h
  ·
   rw [grpK, grpK_none h n (by omega)]
theorem grpW_none {dss : List (List Dd)} {i : Nat} (h : grpW dss i = none) : ∀ n : Nat, i ≤ n → grpW dss n = none
 | 0, hn => by
  obtain rfl : i = 0 := by omega
  exact h
 | n + 1, hn => by
  by_cases e : i = n + 1
  ·
   rw [← e]; exact h
  ·
   rw [grpW, grpW_none h n (by omega)]
theorem grpK_len {i : Nat} {own : List Int} {ds : List Dd} : ∀ {k : Nat} {o : List Int}, grpK i own ds k = some o → o.length = own.length
 | 0, o, h => by simp only [grpK, Option.some.injEq] at h; rw [← h]
 | k + 1, o, h => by
  rw [grpK] at h
  split at h
  ·
   cases h
  ·
   rename_i o' ho'
   have ih := grpK_len ho'
   split at h
   ·
    simp only [Option.some.injEq] at h; rw [← h]; exact ih
   ·
    split at h
    ·
     cases h
    ·
     simp only [Option.some.injEq] at h; rw [← h, List.length_set]; exact ih
theorem grpW_len {dss : List (List Dd)} : ∀ {i : Nat} {o : List Int}, grpW dss i = some o → o.length = 10
 | 0, o, h => by simp only [grpW, Option.some.injEq] at h; rw [← h]; simp
 | i + 1, o, h => by
  rw [grpW] at h
  split at h
  ·
   cases h
  ·
   rename_i o' ho'
   rw [grpK_len h]
   exact grpW_len ho'
theorem all_get {α : Type} {f : α → Bool} {l : List α} (z : α) (h : l.all f = true) (i : Nat) (hi : i < l.length) : f (l.getD i z) = true := by
 rw [List.getD_eq_getElem?_getD, List.getElem?_eq_getElem hi]
 exact List.all_eq_true.1 h _ (List.getElem_mem hi)
theorem all_of {α : Type} {f : α → Bool} {l : List α} (z : α) (h : ∀ i, i < l.length → f (l.getD i z) = true) : l.all f = true := by
 rw [List.all_eq_true]
 intro x hx
 obtain ⟨i, hi, rfl⟩ := List.getElem_of_mem hx
 have := h i hi
 rwa [List.getD_eq_getElem?_getD, List.getElem?_eq_getElem hi] at this
theorem all_not {α : Type} {f : α → Bool} {l : List α} (z : α) (i : Nat) (hi : i < l.length) (h : f (l.getD i z) = false) : l.all f = false := by
 cases hb : l.all f
 ·
  rfl
 ·
  rw [all_get z hb i hi] at h; cases h
abbrev dV (d : Dd) : Value := deedV d.1 d.2.1 d.2.2.1 d.2.2.2
def AtD (w : World) (b o : Nat) (d : Dd) : Prop :=
 w.cell? ⟨b, o, none⟩ = some (.int .i64 d.1) ∧ w.cell? ⟨b, o + 1, none⟩ = some (.int .i64 d.2.1) ∧ w.cell? ⟨b, o + 2, none⟩ = some (.int .i64 d.2.2.1) ∧ w.cell? ⟨b, o + 3, none⟩ = some (.int .i64 d.2.2.2)
def RdD (w : World) (v : Value) (ds : List Dd) : Prop :=
 ∃ (a : Option Addr) (cap : Nat), v = .slice a ds.length (ds.length + cap) ∧
  (ds = [] ∨ ∃ b off, a = some ⟨b, off, none⟩ ∧ b < w.heap.size ∧ ∀ i, i < ds.length → AtD w b (off + i * 4) (ds.getD i zD))
def RdW (w : World) (v : Value) (dss : List (List Dd)) : Prop :=
 ∃ (a : Option Addr) (cap : Nat), v = .slice a dss.length cap ∧
  (dss = [] ∨ ∃ b off, a = some ⟨b, off, none⟩ ∧ b < w.heap.size ∧ ∀ i, i < dss.length → ∃ vi, w.cell? ⟨b, off + i, none⟩ = some vi ∧ RdD w vi (dss.getD i []))
theorem AtD.keep {w w' : World} {b o : Nat} {d : Dd} (h : AtD w b o d) (hb : b < w.heap.size) (k : Keep w w') : AtD w' b o d :=
 ⟨(k.cell hb).trans h.1, (k.cell hb).trans h.2.1, (k.cell hb).trans h.2.2.1, (k.cell hb).trans h.2.2.2⟩
theorem RdD.keep {w w' : World} {v : Value} {ds : List Dd} (h : RdD w v ds) (k : Keep w w') : RdD w' v ds := by
 obtain ⟨a, cap, hv, h⟩ := h
 refine ⟨a, cap, hv, ?_⟩
 rcases h with h | ⟨b, off, ha, hb, hc⟩
 ·
  exact .inl h
 ·
  exact .inr ⟨b, off, ha, Nat.lt_of_lt_of_le hb k.size, fun i hi => (hc i hi).keep hb k⟩
theorem RdW.keep {w w' : World} {v : Value} {dss : List (List Dd)} (h : RdW w v dss) (k : Keep w w') : RdW w' v dss := by
 obtain ⟨a, cap, hv, h⟩ := h
 refine ⟨a, cap, hv, ?_⟩
 rcases h with h | ⟨b, off, ha, hb, hc⟩
 ·
  exact .inl h
 ·
  refine .inr ⟨b, off, ha, Nat.lt_of_lt_of_le hb k.size, fun i hi => ?_⟩
  obtain ⟨vi, h1, h2⟩ := hc i hi
  exact ⟨vi, (k.cell hb).trans h1, h2.keep k⟩
theorem Keep.set {w wr : World} (h : Keep w wr) {g : Nat} (hg : w.heap.size ≤ g) (i : Nat) (x : Value) : Keep w (wr.setCell ⟨g, i, none⟩ x) :=
 h.grown (row := some g) ⟨rfl, rfl, rfl, by simp, fun k _ hk => heap_setCell_other wr ⟨g, i, none⟩ k x (fun e => hk (by simp [e]))⟩ (fun k hk => by simp at hk; omega)
theorem range_getD {α : Type} (f : Nat → α) (n i : Nat) (z : α) (h : i < n) : ((List.range n).map f).getD i z = f i := by
 rw [List.getD_eq_getElem?_getD, List.getElem?_map, List.getElem?_range h]
 rfl
theorem plain_add {b o i : Nat} : (⟨b, o, none⟩ : Addr).add i = ⟨b, o + i, none⟩ := by unfold Addr.add; split <;> simp_all
theorem block_lt {w : World} {b o : Nat} {v : Value} (h : w.cell? ⟨b, o, none⟩ = some v) : b < w.heap.size := by
 apply Classical.byContradiction
 intro hn
 have h3 : w.heap[b]? = none := by simp; omega
 simp [World.cell?, h3] at h
section
variable {H : Type} {enc : TypeId × Value → H} {w : World} {base : Nat} {held : Bool}
set_option maxRecDepth 100000 in
theorem open_deeds {fuel : Nat} {v : Value} {x : DataW H × List MemPlace} (h : DataW.trod enc Try.prog w base (fun _ => true) held fuel 35 [v] = some x) : ∃ ds, RdD w v ds ∧ ds.length ≤ maxLen := by
 have c4 : Try.prog.cellsOf 64 = 4 := by kernel_rfl
 have c2 : Try.prog.cellsOf 2 = 1 := by kernel_rfl
 rcases Deep.open_slice Try.underlying35 h with ⟨hcs, _⟩ | ⟨a, len, cap, m, n, D, Pl, hcs, hb, hl, hm, hmm, _, hx⟩
 ·
  simp only [List.cons.injEq, and_true] at hcs
  subst hcs
  exact ⟨[], ⟨none, 0, rfl, .inl rfl⟩, by simp⟩
 ·
  simp only [List.cons.injEq, and_true] at hcs
  subst hcs
  have hlm : len ≤ m := by rw [hmm]; split <;> omega
  have each : ∀ i, i < len → ∃ d : Dd, w.cell? (a.add (i * 4)) = some (.int .i64 d.1) ∧ w.cell? (a.add (i * 4 + 1)) = some (.int .i64 d.2.1) ∧ w.cell? (a.add (i * 4 + 2)) = some (.int .i64 d.2.2.1) ∧ w.cell? (a.add (i * 4 + 3)) = some (.int .i64 d.2.2.2) := by
   intro i hi
   obtain ⟨cs', h1, h2⟩ := hx i (by omega)
   rw [c4] at h1
   obtain ⟨_, hlen, hcell⟩ := World.cells?_some h1
   obtain ⟨xs, k, hk, hxy, _, hxl, hf⟩ := DataW.trod_struct Try.underlying64 h2
   match xs, hxl, cs', hlen with
   | [y0, y1, y2, y3], _, [v0, v1, v2, v3], _ =>
    have g0 := hf 0 _ rfl
    have g1 := hf 1 _ rfl
    have g2 := hf 2 _ rfl
    have g3 := hf 3 _ rfl
    simp [c2] at g0 g1 g2 g3
    obtain ⟨k0, e0, _, _⟩ := DataW.trod_int Try.underlying2 g0
    obtain ⟨k1, e1, _, _⟩ := DataW.trod_int Try.underlying2 g1
    obtain ⟨k2, e2, _, _⟩ := DataW.trod_int Try.underlying2 g2
    obtain ⟨k3, e3, _, _⟩ := DataW.trod_int Try.underlying2 g3
    simp only [List.cons.injEq, and_true] at e0 e1 e2 e3
    subst e0 e1 e2 e3
    have f0 := hcell 0 (by omega)
    have f1 := hcell 1 (by omega)
    have f2 := hcell 2 (by omega)
    have f3 := hcell 3 (by omega)
    rw [Deep.add_add] at f0 f1 f2 f3
    exact ⟨(k0, k1, k2, k3), by simpa using f0, by simpa using f1, by simpa using f2, by simpa using f3⟩
  obtain ⟨f, hf⟩ := Deep.choose_lt each
  refine ⟨(List.range len).map f, ⟨some a, cap - len, by simp; omega, ?_⟩, by simp; omega⟩
  by_cases h0 : len = 0
  ·
   left; subst h0; rfl
  ·
   right
   obtain ⟨b, off, spot⟩ := a
   have hc0 := (hf 0 (by omega)).1
   have hspot : spot = none := by simpa [Addr.add] using World.cell?_spot hc0
   subst hspot
   have hbl : b < w.heap.size := by
    rw [plain_add] at hc0
    exact block_lt hc0
   refine ⟨b, off, rfl, hbl, fun i hi => ?_⟩
   have hi' : i < len := by simpa using hi
   rw [range_getD f len i zD hi']
   obtain ⟨q0, q1, q2, q3⟩ := hf i hi'
   rw [plain_add] at q0 q1 q2 q3
   exact ⟨q0, q1, q2, q3⟩
set_option maxRecDepth 100000 in
theorem open_work {r : Reach} {b0 : Nat} {v : Value} {d : DataW H} {p : List MemPlace} (hv : Value.okWide Try.prog w r b0 22 v) (h : DataW.Trod enc Try.prog w base (fun _ => true) held 22 v d p) : ∃ dss, RdW w v dss ∧ dss.length ≤ maxLen ∧ ∀ i, i < dss.length → (dss.getD i []).length ≤ maxLen := by
 obtain ⟨a0, len0, cap0, rfl⟩ := okWide_slice Try.underlying22 hv
 obtain ⟨fuel, hf⟩ := h
 rcases Deep.open_slice1 Try.underlying22 (by kernel_rfl) hf with ⟨hcs, _⟩ | ⟨a, len, cap, m, n, V, D, Pl, hcs, hb, hl, hm, hmm, _, hx⟩
 ·
  simp [Value.cells] at hcs
  obtain ⟨rfl, rfl, rfl⟩ := hcs
  exact ⟨[], ⟨none, 0, rfl, .inl rfl⟩, by simp, by simp⟩
 ·
  simp [Value.cells] at hcs
  obtain ⟨rfl, rfl, rfl⟩ := hcs
  have hlm : len0 ≤ m := by rw [hmm]; split <;> omega
  have each : ∀ i, i < len0 → ∃ ds : List Dd, w.cell? (a.add i) = some (V i) ∧ RdD w (V i) ds ∧ ds.length ≤ maxLen := by
   intro i hi
   obtain ⟨h1, h2⟩ := hx i (by omega)
   obtain ⟨ds, h3, h4⟩ := open_deeds h2
   exact ⟨ds, h1, h3, h4⟩
  obtain ⟨f, hf⟩ := Deep.choose_lt each
  refine ⟨(List.range len0).map f, ⟨some a, cap0, by simp, ?_⟩, by simp; omega, fun i hi => by rw [range_getD f len0 i [] (by simpa using hi)]; exact (hf i (by simpa using hi)).2.2⟩
  by_cases h0 : len0 = 0
  ·
   left; subst h0; rfl
  ·
   right
   obtain ⟨b, off, spot⟩ := a
   have hc0 := (hf 0 (by omega)).1
   have hspot : spot = none := by simpa [Addr.add] using World.cell?_spot hc0
   subst hspot
   have hbl : b < w.heap.size := by
    rw [plain_add] at hc0
    exact block_lt hc0
   refine ⟨b, off, rfl, hbl, fun i hi => ?_⟩
   have hi' : i < len0 := by simpa using hi
   rw [range_getD f len0 i [] hi']
   obtain ⟨q0, q1, _⟩ := hf i hi'
   rw [plain_add] at q0
   exact ⟨V i, q0, q1⟩
end
section
variable {H : Type} {enc : TypeId × Value → H} {w : World} {base : Nat} {held : Bool}
set_option maxRecDepth 100000 in
set_option maxHeartbeats 1000000 in
theorem open_nums {r : Reach} {b0 : Nat} {v : Value} {d : DataW H} {p : List MemPlace} (hv : Value.okWide Try.prog w r b0 23 v) (h : DataW.Trod enc Try.prog w base (fun _ => true) held 23 v d p) : ∃ f : List Int, Rd w v f ∧ f.length ≤ maxLen := by
 obtain ⟨a0, len0, cap0, rfl⟩ := okWide_slice Try.underlying23 hv
 obtain ⟨fuel, hf⟩ := h
 rcases open_ints Try.underlying23 Try.underlying2 (by kernel_rfl) hf with ⟨hcs, _⟩ | ⟨x, l, c, zs, hcs, _, hl, hm, hz, _, hcell, hwz⟩
 ·
  simp [Value.cells] at hcs
  obtain ⟨rfl, rfl, rfl⟩ := hcs
  exact ⟨[], ⟨none, 0, rfl, .inl rfl⟩, by simp⟩
 ·
  simp [Value.cells] at hcs
  obtain ⟨rfl, rfl, rfl⟩ := hcs
  obtain ⟨f, hfl, hr⟩ := rd_of_row (w := w) (a := some x) (len := len0) (cap := cap0) (ys := zs) (.inr ⟨x, rfl, hl, hm, by simpa using hz, hcell, hwz⟩)
  exact ⟨f, hr, by omega⟩
end
section
variable {α : Type} {cf : α → List Value} {n : Nat}
def AtT (cf : α → List Value) (w : World) (b o : Nat) (x : α) : Prop := ∀ m u, (cf x)[m]? = some u → w.cell? ⟨b, o + m, none⟩ = some u
def RdT (cf : α → List Value) (n : Nat) (w : World) (v : Value) (xs : List α) : Prop :=
 ∃ (a : Option Addr) (cap : Nat), v = .slice a xs.length (xs.length + cap) ∧
  (xs = [] ∨ ∃ b off, a = some ⟨b, off, none⟩ ∧ b < w.heap.size ∧ ∀ i x, xs[i]? = some x → AtT cf w b (off + i * n) x)
theorem AtT.same {w w' : World} {b o : Nat} {x : α} (h : AtT cf w b o x) (hh : w'.heap[b]? = w.heap[b]?) : AtT cf w' b o x :=
 fun m u hm => by
  have := h m u hm
  simp only [World.cell?, hh] at this ⊢
  exact this
theorem AtT.keep {w w' : World} {b o : Nat} {x : α} (h : AtT cf w b o x) (hb : b < w.heap.size) (k : Keep w w') : AtT cf w' b o x := h.same (Below.block k b hb)
theorem RdT.keep {w w' : World} {v : Value} {xs : List α} (h : RdT cf n w v xs) (k : Keep w w') : RdT cf n w' v xs := by
 obtain ⟨a, cap, hv, h⟩ := h
 refine ⟨a, cap, hv, ?_⟩
 rcases h with h | ⟨b, off, ha, hb, hc⟩
 ·
  exact .inl h
 ·
  exact .inr ⟨b, off, ha, Nat.lt_of_lt_of_le hb k.size, fun i x hx => (hc i x hx).keep hb k⟩
def AppT (cf : α → List Value) (e : TypeId) (n : Nat) (w : World) (base : Nat) (v : Value) (xs : List α) : Prop := w.ownsRow base e n v xs.length (xs.flatMap cf)
variable {e : TypeId}
theorem AppT.keep {w w' : World} {base : Nat} {v : Value} {xs : List α} (h : AppT cf e n w base v xs) (k : Keep w w') : AppT cf e n w' base v xs :=
 World.ownsRow.kept h k.grownBy (by cases v.ownBlock <;> simp)
theorem AppT.kept {w w' : World} {base : Nat} {v : Value} {xs : List α} {row : Option Nat} (h : AppT cf e n w base v xs) (hg : w.grownBy w' row) (hne : v.ownBlock = none ∨ v.ownBlock ≠ row) : AppT cf e n w' base v xs :=
 World.ownsRow.kept h hg hne
theorem AppT.lt {w : World} {base : Nat} {v : Value} {xs : List α} (h : AppT cf e n w base v xs) : ∀ k, v.ownBlock = some k → base ≤ k ∧ k < w.heap.size := World.ownsRow.lt h
theorem AppT.ge {w : World} {base : Nat} {v : Value} {xs : List α} (h : AppT cf e n w base v xs) : ∀ k, v.ownBlock = some k → base ≤ k := fun k hk => (h.lt k hk).1
theorem appT_hit {w : World} {base : Nat} {v : Value} {xs : List α} {x : α} (h : w.ownsRow base e n v (xs.length + 1) (xs.flatMap cf ++ cf x)) : AppT cf e n w base v (xs ++ [x]) := by
 unfold AppT; rw [List.flatMap_append]; simpa using h
theorem appT_empty (w : World) : AppT cf e n (w.alloc (.cells #[] e)) w.heap.size (.slice (some ⟨w.heap.size, 0, none⟩) 0 0) [] :=
 World.ownsRow_lit w #[] 0 (Nat.le_refl _) (by decide) (by simp)
theorem flat_at (hn : ∀ x, (cf x).length = n) : ∀ (xs : List α) (i : Nat) (x : α) (m : Nat), xs[i]? = some x → m < n → (xs.flatMap cf)[i * n + m]? = (cf x)[m]?
 | [], i, x, m, h, _ => by simp at h
 | y :: r, 0, x, m, h, hm => by
  simp at h
  subst h
  rw [List.flatMap_cons, List.getElem?_append_left (by rw [hn]; omega)]
  simp
 | y :: r, i + 1, x, m, h, hm => by
  have ih := flat_at hn r i x m (by simpa using h) hm
  have e1 : (i + 1) * n + m = n + (i * n + m) := by rw [Nat.add_mul]; omega
  rw [List.flatMap_cons, List.getElem?_append_right (by rw [hn]; omega), hn, e1, Nat.add_sub_cancel_left, ih]
theorem AppT.shape {w : World} {base : Nat} {v : Value} {xs : List α} (h : AppT cf e n w base v xs) : ∃ a c, v = .slice a xs.length c := by
 rcases h.2 with ⟨rfl, hz⟩ | ⟨g, cap, cur, rfl, _⟩
 ·
  exact ⟨none, 0, by rw [hz]⟩
 ·
  exact ⟨_, _, rfl⟩
theorem AppT.rd (hn : ∀ x, (cf x).length = n) {w : World} {base : Nat} {v : Value} {xs : List α} (h : AppT cf e n w base v xs) : RdT cf n w v xs := by
 have h2 := h
 have hlt := h.lt
 rcases h.2 with ⟨rfl, hz⟩ | ⟨g, cap, cur, rfl, hb, hg, hcap, _, hs, _⟩
 ·
  have : xs = [] := List.eq_nil_of_length_eq_zero hz
  subst this
  exact ⟨none, 0, rfl, .inl rfl⟩
 ·
  obtain ⟨x, rfl⟩ : ∃ x, cap = xs.length + x := ⟨cap - xs.length, by omega⟩
  refine ⟨_, x, rfl, .inr ⟨g, 0, rfl, (hlt g rfl).2, fun i y hy m u hm => ?_⟩⟩
  have hi : i < xs.length := (List.getElem?_eq_some_iff.1 hy).1
  have hmn : m < n := by have := (List.getElem?_eq_some_iff.1 hm).1; rw [hn] at this; exact this
  have hb2 : i * n + m < xs.length * n := by
   have h3 : (i + 1) * n ≤ xs.length * n := Nat.mul_le_mul_right n hi
   rw [Nat.add_mul] at h3
   omega
  rw [Nat.zero_add, World.ownsRow.cellAt h2 (i * n + m) hb2, flat_at hn xs i y m hy hmn]
  exact hm
end
def cLn (x : Int × Int) : List Value := [.int .i64 x.1, .int .i64 x.2]
theorem cLn_len (x : Int × Int) : (cLn x).length = 2 := rfl
theorem Try.infoLn : (Try.prog.info? 47).map (fun i => (i.zero, i.size, i.bytes)) = some (some (.agg #[.int .i64 0, .int .i64 0]), 2, 16) := by kernel_rfl
abbrev RdLn (w : World) (v : Value) (l : List (Int × Int)) : Prop := RdT cLn 2 w v l
abbrev AppLn (w : World) (base : Nat) (v : Value) (l : List (Int × Int)) : Prop := AppT cLn 47 2 w base v l
theorem atLn {w : World} {b o : Nat} {x y : Int} (h : AtT cLn w b o (x, y)) : w.cell? ⟨b, o, none⟩ = some (.int .i64 x) ∧ w.cell? ⟨b, o + 1, none⟩ = some (.int .i64 y) := ⟨h 0 _ rfl, h 1 _ rfl⟩
theorem AppLn.rd {w : World} {base : Nat} {v : Value} {l : List (Int × Int)} (h : AppLn w base v l) : RdLn w v l := AppT.rd cLn_len h
theorem ln_get {l : List (Int × Int)} {i : Nat} (h : i < l.length) : l[i]? = some (l.getD i (0, 0)) := by
 rw [List.getD_eq_getElem?_getD, List.getElem?_eq_getElem h]; rfl
abbrev lnO (x y : Int) : Obj := .cells #[.int .i64 x, .int .i64 y] 47
theorem cLn_one (x : Int × Int) : ∀ u ∈ cLn x, u.oneCell' = true := by
 intro u hu
 simp only [cLn, List.mem_cons, List.not_mem_nil, or_false] at hu
 rcases hu with rfl | rfl <;> rfl
theorem cLn_new (w : World) (n : Nat) (hn : w.heap.size = n) (x y : Int) : ∀ j u, (cLn (x, y))[j]? = some u → (w.alloc (lnO x y)).cell? ((⟨n, 0, none⟩ : Addr).add j) = some u := by
 subst hn
 intro j u hj
 match j, hj with
 | 0, hj => simp [cLn] at hj; subst hj; simp [Addr.add]
 | 1, hj => simp [cLn] at hj; subst hj; simp [Addr.add]
abbrev Ev := Int × Int × Bool × Int × Int × Int
def zE : Ev := (0, 0, false, 0, 0, 0)
def csE (e : Ev) : Int := e.2.2.2.2.2
def evBeg : List Ev := [(-1, -1, false, 0, 0, 0), (-1, -1, false, 1, 0, 1), (-1, -1, false, 2, 0, 2)]
def oneE (i k : Nat) (d : Dd) (c : Int) : List Ev :=
 if d.1 = 4 then [] else if d.1 = 3 then [((i : Int), (k : Int), true, d.2.1, 0, c), ((i : Int), (k : Int), false, d.2.1, d.2.2.1, c)]
 else if d.1 = 2 then [((i : Int), (k : Int), false, d.2.1, d.2.2.1, c)] else [((i : Int), (k : Int), true, d.2.1, 0, c)]
def fstE (g : Int) (at0 : Nat) (f : List Int) : List Int := if 0 < g ∧ f.getD g.toNat 0 = 0 then f.set g.toNat (at0 : Int) else f
def clsE (g : Int) (at0 : Nat) (f : List Int) : Int := if 0 < g then (fstE g at0 f).getD g.toNat 0 else (at0 : Int)
def stepE (i k : Nat) (d : Dd) (s : List Ev × List Int) : List Ev × List Int :=
 if d.1 = 4 then s else (s.1 ++ oneE i k d (clsE d.2.2.2 s.1.length s.2), fstE d.2.2.2 s.1.length s.2)
def clkE (i : Nat) (ds : List Dd) (out : List Ev) : Nat → List Ev × List Int
 | 0 => (out, List.replicate 10 0)
 | k + 1 => stepE i k (ds.getD k zD) (clkE i ds out k)
def evsW (dss : List (List Dd)) : Nat → List Ev
 | 0 => evBeg
 | i + 1 => (clkE i (dss.getD i []) (evsW dss i) (dss.getD i []).length).1
def eventsB (dss : List (List Dd)) : List Ev := if workB dss = true then evsW dss dss.length else []
theorem oneE_len (i k : Nat) (d : Dd) (c : Int) (h : d.1 = 1 ∨ d.1 = 2 ∨ d.1 = 3 ∨ d.1 = 4) : ((oneE i k d c).length : Int) = evD d := by
 unfold oneE evD
 rcases h with h | h | h | h <;> simp [h]
theorem okD_kindE {d : Dd} (h : okD d = true) : d.1 = 1 ∨ d.1 = 2 ∨ d.1 = 3 ∨ d.1 = 4 := by
 simp [okD, deedB] at h
 omega
theorem okD_restE {d : Dd} (h : okD d = true) : 0 ≤ d.2.1 ∧ d.2.1 ≤ 2 ∧ 0 ≤ d.2.2.2 ∧ d.2.2.2 ≤ 9 ∧ (2 < d.1 → d.2.2.2 = 0) := by
 simp [okD, deedB] at h
 omega
theorem clkE_len {i : Nat} {ds : List Dd} {out : List Ev} (hok : ∀ j, j < ds.length → okD (ds.getD j zD) = true) : ∀ k : Nat, k ≤ ds.length → ((clkE i ds out k).1.length : Int) = out.length + evK ds k
 | 0, _ => by simp [clkE, evK]
 | k + 1, h => by
  have ih := clkE_len (i := i) (out := out) hok k (by omega)
  have hk := okD_kindE (hok k (by omega))
  rw [clkE, stepE, evK]
  split
  ·
   rename_i h4
   rw [ih]
   unfold evD
   rw [h4]
   simp
  ·
   have := oneE_len i k (ds.getD k zD) (clsE (ds.getD k zD).2.2.2 (clkE i ds out k).1.length (clkE i ds out k).2) hk
   rw [List.length_append]
   omega
theorem evsW_len {dss : List (List Dd)} (hok : ∀ i, i < dss.length → okL (dss.getD i []) = true) : ∀ n : Nat, n ≤ dss.length → ((evsW dss n).length : Int) = 3 + evW dss n
 | 0, _ => by simp [evsW, evBeg, evW]
 | n + 1, h => by
  have ih := evsW_len hok n (by omega)
  have hn := hok n (by omega)
  simp only [okL, Bool.and_eq_true, decide_eq_true_eq] at hn
  rw [evsW, clkE_len (fun j hj => all_get zD hn.1 j hj) _ (Nat.le_refl _), ih, evW]
  omega
def GoodE (dss : List (List Dd)) (out : List Ev) (j : Nat) : Prop :=
 ∃ (i k c : Nat) (rd : Bool) (vl : Int), out[j]? = some ((i : Int), (k : Int), rd, ((dss.getD i []).getD k zD).2.1, vl, (c : Int)) ∧ i < dss.length ∧ k < (dss.getD i []).length ∧
  (rd = true → vl = 0) ∧ (rd = false → vl = ((dss.getD i []).getD k zD).2.2.1) ∧ c ≤ j ∧
  ∃ (k' : Nat) (rd' : Bool) (pl' vl' : Int), out[c]? = some ((i : Int), (k' : Int), rd', pl', vl', (c : Int)) ∧ k' < (dss.getD i []).length ∧
   (c ≠ j → ((dss.getD i []).getD k zD).1 ≠ 3 → ((dss.getD i []).getD k zD).2.2.2 ≠ 0 ∧ ((dss.getD i []).getD k' zD).2.2.2 = ((dss.getD i []).getD k zD).2.2.2)
theorem at_left {α : Type} {l : List α} {j : Nat} {x : α} (t : List α) (h : l[j]? = some x) : (l ++ t)[j]? = some x := by
 rw [List.getElem?_append_left (List.getElem?_eq_some_iff.1 h).1]; exact h
theorem GoodE.more {dss : List (List Dd)} {out : List Ev} {j : Nat} (h : GoodE dss out j) (t : List Ev) : GoodE dss (out ++ t) j := by
 obtain ⟨i, k, c, rd, vl, h1, h2, h3, h4, h5, h6, k', rd', pl', vl', g1, g2, g3⟩ := h
 exact ⟨i, k, c, rd, vl, at_left t h1, h2, h3, h4, h5, h6, k', rd', pl', vl', at_left t g1, g2, g3⟩
def FstOk (dss : List (List Dd)) (i : Nat) (out : List Ev) (f : List Int) : Prop :=
 f.length = 10 ∧ ∀ g : Nat, 0 < g → g < 10 → f.getD g 0 = 0 ∨ ∃ (c k' : Nat) (rd' : Bool) (pl' vl' : Int), f.getD g 0 = (c : Int) ∧ out[c]? = some ((i : Int), (k' : Int), rd', pl', vl', (c : Int)) ∧ k' < (dss.getD i []).length ∧ ((dss.getD i []).getD k' zD).2.2.2 = (g : Int)
theorem getD_setE (o : List Int) (g : Nat) (x : Int) (j : Nat) (hg : g < o.length) : (o.set g x).getD j 0 = if g = j then x else o.getD j 0 := by
 rw [List.getD_eq_getElem?_getD, List.getElem?_set]
 by_cases e : g = j
 ·
  subst e; rw [if_pos rfl, if_pos hg, if_pos rfl]; rfl
 ·
  rw [if_neg e, if_neg e, List.getD_eq_getElem?_getD]
theorem oneE_first (i k : Nat) (d : Dd) (c : Int) (h4 : d.1 ≠ 4) : ∃ rd vl, (oneE i k d c)[0]? = some ((i : Int), (k : Int), rd, d.2.1, vl, c) ∧ (rd = true → vl = 0) ∧ (rd = false → vl = d.2.2.1) := by
 unfold oneE
 rw [if_neg h4]
 split
 ·
  exact ⟨true, 0, rfl, by simp, by simp⟩
 ·
  split
  ·
   exact ⟨false, d.2.2.1, rfl, by simp, by simp⟩
  ·
   exact ⟨true, 0, rfl, by simp, by simp⟩
theorem step_good {dss : List (List Dd)} {i k : Nat} {out : List Ev} {f : List Int} (hi : i < dss.length) (hk : k < (dss.getD i []).length) (hok : okD ((dss.getD i []).getD k zD) = true)
  (hG : ∀ j, 3 ≤ j → j < out.length → GoodE dss out j) (hF : FstOk dss i out f) :
  (∀ j, 3 ≤ j → j < (stepE i k ((dss.getD i []).getD k zD) (out, f)).1.length → GoodE dss (stepE i k ((dss.getD i []).getD k zD) (out, f)).1 j) ∧ FstOk dss i (stepE i k ((dss.getD i []).getD k zD) (out, f)).1 (stepE i k ((dss.getD i []).getD k zD) (out, f)).2 := by
 obtain ⟨d, hd⟩ : ∃ d, d = (dss.getD i []).getD k zD := ⟨_, rfl⟩
 rw [← hd] at hok ⊢
 by_cases h4 : d.1 = 4
 ·
  rw [stepE, if_pos h4]; exact ⟨hG, hF⟩
 rw [stepE, if_neg h4]
 dsimp only
 obtain ⟨r0, r1, r2, r3, r4⟩ := okD_restE hok
 obtain ⟨g, hg⟩ := Int.eq_ofNat_of_zero_le r2
 obtain ⟨hl, hf⟩ := hF
 have hcls : ∃ (c k' : Nat) (rd' : Bool) (pl' vl' : Int), clsE d.2.2.2 out.length f = (c : Int) ∧ c ≤ out.length ∧ (out ++ oneE i k d (clsE d.2.2.2 out.length f))[c]? = some ((i : Int), (k' : Int), rd', pl', vl', (c : Int)) ∧ k' < (dss.getD i []).length ∧
   (c ≠ out.length → d.2.2.2 ≠ 0 ∧ ((dss.getD i []).getD k' zD).2.2.2 = d.2.2.2) ∧ (c = out.length → k' = k) := by
  obtain ⟨rd, vl, ho, _, _⟩ := oneE_first i k d (clsE d.2.2.2 out.length f) h4
  have new : clsE d.2.2.2 out.length f = (out.length : Int) → (out ++ oneE i k d (clsE d.2.2.2 out.length f))[out.length]? = some ((i : Int), (k : Int), rd, d.2.1, vl, ((out.length : Nat) : Int)) := fun e => by
   rw [List.getElem?_append_right (Nat.le_refl _), Nat.sub_self, ho, e]
  by_cases hg0 : g = 0
  ·
   have e : clsE d.2.2.2 out.length f = (out.length : Int) := by unfold clsE; rw [hg, if_neg (by omega)]
   exact ⟨out.length, k, rd, d.2.1, vl, e, Nat.le_refl _, new e, hk, fun h => absurd rfl h, fun _ => rfl⟩
  ·
   have gp : (0 : Int) < d.2.2.2 := by rw [hg]; omega
   have g10 : g < 10 := by rw [hg] at r3; omega
   rcases hf g (by omega) g10 with h0 | ⟨c, k', rd', pl', vl', e1, e2, e3, e4⟩
   ·
    have e : clsE d.2.2.2 out.length f = (out.length : Int) := by
     unfold clsE fstE
     rw [if_pos gp, hg, Int.toNat_natCast, if_pos ⟨by omega, h0⟩, getD_setE f g _ g (by omega), if_pos rfl]
    exact ⟨out.length, k, rd, d.2.1, vl, e, Nat.le_refl _, new e, hk, fun h => absurd rfl h, fun _ => rfl⟩
   ·
    have cl : c < out.length := (List.getElem?_eq_some_iff.1 e2).1
    by_cases hc0 : (c : Int) = 0
    ·
     have e : clsE d.2.2.2 out.length f = (out.length : Int) := by
      unfold clsE fstE
      rw [if_pos gp, hg, Int.toNat_natCast, if_pos ⟨by omega, by rw [e1]; exact hc0⟩, getD_setE f g _ g (by omega), if_pos rfl]
     exact ⟨out.length, k, rd, d.2.1, vl, e, Nat.le_refl _, new e, hk, fun h => absurd rfl h, fun _ => rfl⟩
    ·
     have e : clsE d.2.2.2 out.length f = (c : Int) := by
      unfold clsE fstE
      rw [if_pos gp, hg, Int.toNat_natCast, if_neg (by rw [e1]; omega), e1]
     exact ⟨c, k', rd', pl', vl', e, by omega, at_left _ e2, e3, fun _ => ⟨by omega, by rw [e4, hg]⟩, fun h => by omega⟩
 obtain ⟨c, k', rd', pl', vl', hc, hcl, hce, hk', hcg, hcn⟩ := hcls
 rw [hc] at hce ⊢
 refine ⟨fun j hj3 hj => ?_, ?_⟩
 ·
  by_cases hold : j < out.length
  ·
   exact (hG j hj3 hold).more _
  ·
   have e1 : (out ++ oneE i k d (c : Int))[j]? = (oneE i k d (c : Int))[j - out.length]? := List.getElem?_append_right (by omega)
   have hjl : j - out.length < (oneE i k d (c : Int)).length := by rw [List.length_append] at hj; omega
   have form : ∃ rd vl, (oneE i k d (c : Int))[j - out.length]? = some ((i : Int), (k : Int), rd, d.2.1, vl, (c : Int)) ∧ (rd = true → vl = 0) ∧ (rd = false → vl = d.2.2.1) ∧ (j ≠ out.length → d.1 = 3) := by
    by_cases hz : j - out.length = 0
    ·
     obtain ⟨rd, vl, ho, h5, h6⟩ := oneE_first i k d (c : Int) h4
     exact ⟨rd, vl, by rw [hz]; exact ho, h5, h6, fun h => by omega⟩
    ·
     unfold oneE at hjl ⊢
     rw [if_neg h4] at hjl ⊢
     split at hjl
     ·
      rename_i h3
      rw [if_pos h3]
      have : j - out.length = 1 := by simp at hjl; omega
      rw [this]
      exact ⟨false, d.2.2.1, rfl, by simp, by simp, fun _ => h3⟩
     ·
      split at hjl
      ·
       simp at hjl; omega
      ·
       simp at hjl; omega
   obtain ⟨rd, vl, h1, h5, h6, h7⟩ := form
   refine ⟨i, k, c, rd, vl, by rw [e1, ← hd]; exact h1, hi, hk, h5, by rw [← hd]; exact h6, by omega, k', rd', pl', vl', hce, hk', fun hcj h3 => ?_⟩
   rw [← hd] at h3 ⊢
   have : j = out.length := by
    apply Classical.byContradiction
    intro hne
    exact h3 (h7 hne)
   exact hcg (by omega)
 ·
  refine ⟨by unfold fstE; split <;> simp [hl], fun q hq0 hq => ?_⟩
  have keepOld : f.getD q 0 = 0 ∨ ∃ (c' k'' : Nat) (rd'' : Bool) (pl'' vl'' : Int), f.getD q 0 = (c' : Int) ∧ (out ++ oneE i k d (c : Int))[c']? = some ((i : Int), (k'' : Int), rd'', pl'', vl'', (c' : Int)) ∧ k'' < (dss.getD i []).length ∧ ((dss.getD i []).getD k'' zD).2.2.2 = (q : Int) := by
   rcases hf q hq0 hq with h0 | ⟨c', k'', rd'', pl'', vl'', e1, e2, e3, e4⟩
   ·
    exact .inl h0
   ·
    exact .inr ⟨c', k'', rd'', pl'', vl'', e1, at_left _ e2, e3, e4⟩
  unfold fstE
  split
  ·
   rename_i hcond
   rw [hg, Int.toNat_natCast] at hcond ⊢
   rw [getD_setE f g _ q (by rw [hg] at r3; omega)]
   by_cases e : g = q
   ·
    subst e
    rw [if_pos rfl]
    right
    have ec : c = out.length := by
     have : clsE d.2.2.2 out.length f = (out.length : Int) := by
      unfold clsE fstE
      rw [if_pos (by rw [hg]; exact hcond.1), hg, Int.toNat_natCast, if_pos hcond, getD_setE f g _ g (by rw [hg] at r3; omega), if_pos rfl]
     omega
    have ek := hcn ec
    subst ek
    refine ⟨out.length, k', rd', pl', vl', rfl, ?_, hk', by rw [← hd, hg]⟩
    rw [ec] at hce
    rw [ec]
    exact hce
   ·
    rw [if_neg e]; exact keepOld
  ·
   exact keepOld
theorem clk_good {dss : List (List Dd)} {i : Nat} {out : List Ev} (hi : i < dss.length) (hok : ∀ j, j < (dss.getD i []).length → okD ((dss.getD i []).getD j zD) = true) (hG : ∀ j, 3 ≤ j → j < out.length → GoodE dss out j) :
  ∀ k : Nat, k ≤ (dss.getD i []).length → (∃ t, (clkE i (dss.getD i []) out k).1 = out ++ t) ∧ (∀ j, 3 ≤ j → j < (clkE i (dss.getD i []) out k).1.length → GoodE dss (clkE i (dss.getD i []) out k).1 j) ∧ FstOk dss i (clkE i (dss.getD i []) out k).1 (clkE i (dss.getD i []) out k).2
 | 0, _ => ⟨⟨[], by simp [clkE]⟩, hG, by simp [clkE], fun g _ hg => .inl (by simp only [clkE]; rw [List.getD_eq_getElem?_getD, List.getElem?_replicate, if_pos hg]; rfl)⟩
 | k + 1, h => by
  obtain ⟨⟨t, ht⟩, h2, h3⟩ := clk_good hi hok hG k (by omega)
  have := step_good (k := k) hi (by omega) (hok k (by omega)) h2 h3
  refine ⟨?_, this⟩
  rw [clkE, stepE]
  split
  ·
   exact ⟨t, ht⟩
  ·
   exact ⟨t ++ oneE i k ((dss.getD i []).getD k zD) (clsE ((dss.getD i []).getD k zD).2.2.2 (clkE i (dss.getD i []) out k).1.length (clkE i (dss.getD i []) out k).2), by simp only; rw [ht, List.append_assoc]⟩
theorem evs_good {dss : List (List Dd)} (hok : ∀ i, i < dss.length → okL (dss.getD i []) = true) : ∀ n : Nat, n ≤ dss.length → (∃ t, evsW dss n = evBeg ++ t) ∧ ∀ j, 3 ≤ j → j < (evsW dss n).length → GoodE dss (evsW dss n) j
 | 0, _ => ⟨⟨[], by simp [evsW]⟩, fun j h1 h2 => by simp [evsW, evBeg] at h2; omega⟩
 | n + 1, h => by
  obtain ⟨⟨t, ht⟩, h2⟩ := evs_good hok n (by omega)
  have hn := hok n (by omega)
  simp only [okL, Bool.and_eq_true, decide_eq_true_eq] at hn
  obtain ⟨⟨t2, ht2⟩, h3, _⟩ := clk_good (i := n) (out := evsW dss n) (by omega) (fun j hj => all_get zD hn.1 j hj) h2 (dss.getD n []).length (Nat.le_refl _)
  rw [evsW]
  exact ⟨⟨t ++ t2, by rw [ht2, ht, List.append_assoc]⟩, h3⟩
def rdE (e : Ev) : Bool := e.2.2.1
def toE (p : Int) (e : Ev) : Bool := !e.2.2.1 && (e.2.2.2.1 == p)
def idxK (f : Ev → Bool) (l : List Ev) : Nat → List Int
 | 0 => []
 | k + 1 => if f (l.getD k zE) = true then idxK f l k ++ [(k : Int)] else idxK f l k
def idxB (f : Ev → Bool) (l : List Ev) : List Int := if l.length ≤ 12 then idxK f l l.length else []
theorem idxK_len (f : Ev → Bool) (l : List Ev) : ∀ k : Nat, (idxK f l k).length ≤ k
 | 0 => by simp [idxK]
 | k + 1 => by
  have ih := idxK_len f l k
  rw [idxK]
  split
  ·
   simp; omega
  ·
   omega
theorem idxK_lt (f : Ev → Bool) (l : List Ev) : ∀ (k : Nat) (x : Int), x ∈ idxK f l k → 0 ≤ x ∧ x < (k : Int)
 | 0, x, h => by simp [idxK] at h
 | k + 1, x, h => by
  rw [idxK] at h
  split at h
  ·
   rcases List.mem_append.1 h with h | h
   ·
    have := idxK_lt f l k x h; omega
   ·
    simp at h; omega
  ·
   have := idxK_lt f l k x h; omega
theorem idxK_pre (f : Ev → Bool) (l : List Ev) (k : Nat) : ∀ n : Nat, k ≤ n → ∃ t, idxK f l n = idxK f l k ++ t
 | 0, h => by
  obtain rfl : k = 0 := by omega
  exact ⟨[], by simp⟩
 | n + 1, h => by
  by_cases e : k = n + 1
  ·
   subst e; exact ⟨[], by simp⟩
  ·
   obtain ⟨t, ht⟩ := idxK_pre f l k n (by omega)
   rw [idxK]
   split
   ·
    exact ⟨t ++ [(n : Int)], by rw [ht, List.append_assoc]⟩
   ·
    exact ⟨t, ht⟩
theorem idx_sum {l : List Ev} : ∀ k : Nat, (∀ j, j < k → 0 ≤ (l.getD j zE).2.2.2.1 ∧ (l.getD j zE).2.2.2.1 ≤ 2) → (idxK rdE l k).length + (idxK (toE 0) l k).length + (idxK (toE 1) l k).length + (idxK (toE 2) l k).length = k
 | 0, _ => by simp [idxK]
 | k + 1, h => by
  have ih := idx_sum (l := l) k (fun j hj => h j (by omega))
  have hp := h k (by omega)
  obtain ⟨e, he⟩ : ∃ e, e = l.getD k zE := ⟨_, rfl⟩
  rw [← he] at hp
  simp only [idxK, ← he]
  clear he
  obtain ⟨a, b, r, p, v, c⟩ := e
  simp only at hp
  cases r
  ·
   have hr : rdE (a, b, false, p, v, c) = false := rfl
   have : p = 0 ∨ p = 1 ∨ p = 2 := by omega
   rcases this with rfl | rfl | rfl
   ·
    have t0 : toE 0 (a, b, false, 0, v, c) = true := rfl
    have t1 : toE 1 (a, b, false, 0, v, c) = false := rfl
    have t2 : toE 2 (a, b, false, 0, v, c) = false := rfl
    simp only [hr, t0, t1, t2, if_true, Bool.false_eq_true, if_false, List.length_append, List.length_cons, List.length_nil]
    omega
   ·
    have t0 : toE 0 (a, b, false, 1, v, c) = false := rfl
    have t1 : toE 1 (a, b, false, 1, v, c) = true := rfl
    have t2 : toE 2 (a, b, false, 1, v, c) = false := rfl
    simp only [hr, t0, t1, t2, if_true, Bool.false_eq_true, if_false, List.length_append, List.length_cons, List.length_nil]
    omega
   ·
    have t0 : toE 0 (a, b, false, 2, v, c) = false := rfl
    have t1 : toE 1 (a, b, false, 2, v, c) = false := rfl
    have t2 : toE 2 (a, b, false, 2, v, c) = true := rfl
    simp only [hr, t0, t1, t2, if_true, Bool.false_eq_true, if_false, List.length_append, List.length_cons, List.length_nil]
    omega
  ·
   have hr : rdE (a, b, true, p, v, c) = true := rfl
   have t : ∀ q, toE q (a, b, true, p, v, c) = false := fun _ => rfl
   simp only [hr, t, if_true, Bool.false_eq_true, if_false, List.length_append, List.length_cons, List.length_nil]
   omega
theorem beg_get {l t : List Ev} (h : l = evBeg ++ t) : l.getD 0 zE = (-1, -1, false, 0, 0, 0) ∧ l.getD 1 zE = (-1, -1, false, 1, 0, 1) ∧ l.getD 2 zE = (-1, -1, false, 2, 0, 2) := by
 subst h
 exact ⟨rfl, rfl, rfl⟩
theorem idx_first {l t : List Ev} (h : l = evBeg ++ t) (p : Nat) (hp : p < 3) : ∃ r, idxK (toE (p : Int)) l l.length = (p : Int) :: r := by
 obtain ⟨h0, h1, h2⟩ := beg_get h
 have hl : 3 ≤ l.length := by rw [h]; simp [evBeg]
 obtain ⟨r, hr⟩ := idxK_pre (toE (p : Int)) l 3 l.length hl
 have e : ∃ q, idxK (toE (p : Int)) l 3 = (p : Int) :: q := by
  have : p = 0 ∨ p = 1 ∨ p = 2 := by omega
  simp only [idxK, h0, h1, h2, toE]
  rcases this with rfl | rfl | rfl
  ·
   exact ⟨[], by simp⟩
  ·
   exact ⟨[], by simp⟩
  ·
   exact ⟨[], by simp⟩
 obtain ⟨q, hq⟩ := e
 exact ⟨q ++ r, by rw [hr, hq]; rfl⟩
theorem good_place {dss : List (List Dd)} {out : List Ev} {j : Nat} (hok : ∀ i, i < dss.length → okL (dss.getD i []) = true) (h : GoodE dss out j) : 0 ≤ (out.getD j zE).2.2.2.1 ∧ (out.getD j zE).2.2.2.1 ≤ 2 := by
 obtain ⟨i, k, c, rd, vl, h1, h2, h3, _⟩ := h
 have hi := hok i h2
 simp only [okL, Bool.and_eq_true, decide_eq_true_eq] at hi
 have := okD_restE (all_get zD hi.1 k h3)
 rw [List.getD_eq_getElem?_getD, h1]
 exact ⟨this.1, this.2.1⟩
theorem events_law {dss : List (List Dd)} (h : workB dss = true) : (evsW dss dss.length).length ≤ 12 ∧ ((evsW dss dss.length).length : Int) = 3 + evW dss dss.length ∧
  (idxK rdE (evsW dss dss.length) (evsW dss dss.length).length).length + (idxK (toE 0) (evsW dss dss.length) (evsW dss dss.length).length).length + (idxK (toE 1) (evsW dss dss.length) (evsW dss dss.length).length).length + (idxK (toE 2) (evsW dss dss.length) (evsW dss dss.length).length).length = (evsW dss dss.length).length ∧
  (∀ p : Nat, p < 3 → ∃ r, idxK (toE (p : Int)) (evsW dss dss.length) (evsW dss dss.length).length = (p : Int) :: r) ∧ ∀ j, 3 ≤ j → j < (evsW dss dss.length).length → GoodE dss (evsW dss dss.length) j := by
 simp only [workB, Bool.and_eq_true, decide_eq_true_eq] at h
 obtain ⟨⟨⟨⟨h1, h2⟩, h3⟩, h4⟩, _⟩ := h
 have hok : ∀ i, i < dss.length → okL (dss.getD i []) = true := fun i hi => all_get [] h2 i hi
 have hl := evsW_len hok dss.length (Nat.le_refl _)
 obtain ⟨⟨t, ht⟩, hg⟩ := evs_good hok dss.length (Nat.le_refl _)
 refine ⟨by omega, hl, idx_sum _ (fun j hj => ?_), fun p hp => idx_first ht p hp, hg⟩
 by_cases hj3 : 3 ≤ j
 ·
  exact good_place hok (hg j hj3 hj)
 ·
  obtain ⟨b0, b1, b2⟩ := beg_get ht
  have : j = 0 ∨ j = 1 ∨ j = 2 := by omega
  rcases this with rfl | rfl | rfl
  ·
   rw [b0]; decide
  ·
   rw [b1]; decide
  ·
   rw [b2]; decide
def plE (es : List Ev) (r : Int) : Int := (es.getD r.toNat zE).2.2.2.1
def chcK (es : List Ev) (rs : List Int) : Nat → List (List Int)
 | 0 => []
 | k + 1 => chcK es rs k ++ [idxB (toE (plE es (rs.getD k 0))) es]
def chcL (es : List Ev) : List (List Int) := chcK es (idxB rdE es) (idxB rdE es).length
theorem chcK_len (es : List Ev) (rs : List Int) : ∀ k : Nat, (chcK es rs k).length = k
 | 0 => rfl
 | k + 1 => by rw [chcK, List.length_append, chcK_len es rs k]; rfl
theorem chcK_get (es : List Ev) (rs : List Int) : ∀ (k i : Nat), i < k → (chcK es rs k).getD i [] = idxB (toE (plE es (rs.getD i 0))) es
 | 0, i, h => by omega
 | k + 1, i, h => by
  rw [chcK]
  by_cases hi : i < k
  ·
   rw [List.getD_eq_getElem?_getD, List.getElem?_append_left (by rw [chcK_len]; exact hi), ← List.getD_eq_getElem?_getD, chcK_get es rs k i hi]
  ·
   obtain rfl : i = k := by omega
   rw [List.getD_eq_getElem?_getD, List.getElem?_append_right (by rw [chcK_len]; exact Nat.le_refl _), chcK_len]
   simp
def isB (l : List Int) (n : Int) : Bool := l.any (· == n)
def srcK (c : List (List Int)) (from' : List Int) : Nat → Bool
 | 0 => true
 | k + 1 => srcK c from' k && isB (c.getD k []) (from'.getD k 0)
def srcB (c : List (List Int)) (from' : List Int) : Bool := decide (c.length = from'.length) && srcK c from' c.length
def sourceB (dss : List (List Dd)) (from' : List Int) : Bool := workB dss && srcB (chcL (eventsB dss)) from'
theorem srcK_false {c : List (List Int)} {f : List Int} {k : Nat} (h : srcK c f k = false) : ∀ n : Nat, k ≤ n → srcK c f n = false
 | 0, hn => by
  obtain rfl : k = 0 := by omega
  exact h
 | n + 1, hn => by
  by_cases e : k = n + 1
  ·
   rw [← e]; exact h
  ·
   rw [srcK, srcK_false h n (by omega)]; rfl
theorem srcK_iff {c : List (List Int)} {f : List Int} : ∀ k : Nat, srcK c f k = true ↔ ∀ i, i < k → isB (c.getD i []) (f.getD i 0) = true
 | 0 => by simp [srcK]
 | k + 1 => by
  rw [srcK, Bool.and_eq_true, srcK_iff k]
  constructor
  ·
   rintro ⟨h1, h2⟩ i hi
   by_cases e : i = k
   ·
    subst e; exact h2
   ·
    exact h1 i (by omega)
  ·
   intro h
   exact ⟨fun i hi => h i (by omega), h k (by omega)⟩
theorem bitB_nat (a i : Nat) (ha : a < 4096) : bitB (a : Int) (i : Int) = a.testBit i := by
 unfold bitB
 have hd : a / 2 ^ i ≤ a := Nat.div_le_self _ _
 have e : ((a : Int) / 2 ^ (i : Int).toNat) = ((a / 2 ^ i : Nat) : Int) := by simp
 rw [e, show (1 : Int) = ((1 : Nat) : Int) from rfl, i64_and_nat _ _ (by omega) (by omega), Nat.and_one_is_mod, Nat.testBit_eq_decide_div_mod_eq]
 generalize a / 2 ^ i % 2 = r
 rw [Bool.eq_iff_iff, beq_iff_eq, decide_eq_true_eq]
 omega
theorem inSetB_nat (a i : Nat) (ha : a < 4096) (hi : i < 12) : inSetB (a : Int) (i : Int) = a.testBit i := by
 have h1 : inB (i : Int) 0 11 = true := by unfold inB; simp; omega
 have h2 : inB (a : Int) 0 4095 = true := by unfold inB; simp; omega
 simp [inSetB, h1, h2, bitB_nat a i ha]
theorem gAdd_nat (a i : Nat) (ha : a < 4096) (hi : i < 12) : gAdd (a : Int) (i : Int) = ((a ||| 2 ^ i : Nat) : Int) := by
 have h1 : inB (i : Int) 0 11 = true := by unfold inB; simp; omega
 rw [gAdd_ok _ _ (by omega) h1, wrap64_pow _ (by omega) (by omega)]
 have hq : (2 : Nat) ^ i < 2 ^ 12 := Nat.pow_lt_pow_right (by omega) hi
 have e : ((2 : Int) ^ (i : Int).toNat) = ((2 ^ i : Nat) : Int) := by simp
 rw [e, i64_or_nat a _ (by omega) (by omega)]
theorem or_lt (a i : Nat) (ha : a < 4096) (hi : i < 12) : a ||| 2 ^ i < 4096 := by
 have hq : (2 : Nat) ^ i < 2 ^ 12 := Nat.pow_lt_pow_right (by omega) hi
 exact Nat.or_lt_two_pow (n := 12) ha hq
theorem mem_iff (s : Int) (n : Nat) (x : Int) : x ∈ mem s n ↔ ∃ k : Nat, k < n ∧ x = k ∧ inSetB s k = true := by
 induction n with
 | zero => simp [mem]
 | succ n ih =>
  unfold mem
  rw [List.mem_append, ih]
  constructor
  ·
   rintro (⟨k, hk, rfl, h⟩ | h)
   ·
    exact ⟨k, by omega, rfl, h⟩
   ·
    split at h
    ·
     rename_i hs
     simp at h
     exact ⟨n, by omega, h, hs⟩
    ·
     simp at h
  ·
   rintro ⟨k, hk, rfl, h⟩
   by_cases hkn : k = n
   ·
    subst hkn; right; simp [h]
   ·
    exact .inl ⟨k, by omega, rfl, h⟩
def webB (zs : List Int) : Bool := zs.all (okB zs.length)
def notI (a b : Int) : Int := bits .andNot .i64 a b
theorem getD_mem {zs : List Int} {i : Nat} (h : i < zs.length) : zs.getD i 0 ∈ zs := by
 rw [List.getD_eq_getElem?_getD, List.getElem?_eq_getElem h]; exact List.getElem_mem h
theorem webB_all {zs : List Int} (h : ∀ i, i < zs.length → okB zs.length (zs.getD i 0) = true) : webB zs = true := by
 unfold webB
 rw [List.all_eq_true]
 intro x hx
 obtain ⟨i, hi, rfl⟩ := List.getElem_of_mem hx
 have := h i hi
 rwa [List.getD_eq_getElem?_getD, List.getElem?_eq_getElem hi] at this
theorem webB_get {zs : List Int} (h : webB zs = true) {i : Nat} (hi : i < zs.length) : okB zs.length (zs.getD i 0) = true := by
 unfold webB at h
 rw [List.all_eq_true] at h
 exact h _ (getD_mem hi)
theorem okB_iff {n s : Int} : okB n s = true ↔ (0 ≤ n ∧ n ≤ 12) ∧ 0 ≤ s ∧ s < 2 ^ n.toNat := by unfold okB; rw [decide_eq_true_eq]
theorem webB_len {zs : List Int} (h : webB zs = true) : zs.length ≤ 12 := by
 by_cases h0 : zs.length = 0
 ·
  omega
 ·
  have := okB_iff.1 (webB_get h (i := 0) (by omega)); omega
theorem okB_range {n s : Int} (h : okB n s = true) : 0 ≤ s ∧ s ≤ 4095 := by
 have h1 := okB_iff.1 h
 have := pow_le12 n.toNat (by omega)
 omega
theorem okB_nat {n : Nat} {s : Int} (h : okB n s = true) : n ≤ 12 ∧ ∃ a : Nat, s = a ∧ a < 2 ^ n ∧ a < 4096 := by
 have h1 := okB_iff.1 h
 have h2 := okB_range h
 obtain ⟨a, rfl⟩ := Int.eq_ofNat_of_zero_le h2.1
 refine ⟨by omega, a, rfl, ?_, by omega⟩
 have := h1.2.2
 simp at this
 exact_mod_cast this
theorem okB_of_nat {n a : Nat} (hn : n ≤ 12) (ha : a < 2 ^ n) : okB n a = true := by
 rw [okB_iff]
 refine ⟨by omega, by omega, ?_⟩
 simp
 exact_mod_cast ha
theorem inSetB_iff {n : Nat} {s : Int} (h : okB n s = true) {j : Nat} (hj : inSetB s j = true) : j < n := by
 obtain ⟨hn, a, rfl, ha, h12⟩ := okB_nat h
 have hj12 : j < 12 := by
  have : inB (j : Int) 0 11 = true := by unfold inSetB at hj; simp at hj; exact hj.1.1
  unfold inB at this; simp at this; omega
 rw [inSetB_nat a j h12 hj12] at hj
 apply Classical.byContradiction
 intro hnj
 have hp : (2 : Nat) ^ n ≤ 2 ^ j := Nat.pow_le_pow_right (by omega) (by omega)
 rw [Nat.testBit_lt_two_pow (by omega)] at hj
 cases hj
theorem inSetB_far (s : Int) {j : Nat} (hj : 12 ≤ j) : inSetB s j = false := by
 have : inB (j : Int) 0 11 = false := by unfold inB; simp; omega
 simp [inSetB, this]
theorem ok_ext {n : Nat} {s t : Int} (hs : okB n s = true) (ht : okB n t = true) (h : ∀ j : Nat, j < n → inSetB s j = inSetB t j) : s = t := by
 obtain ⟨hn, a, rfl, ha, ha'⟩ := okB_nat hs
 obtain ⟨_, b, rfl, hb, hb'⟩ := okB_nat ht
 congr 1
 apply Nat.eq_of_testBit_eq
 intro j
 by_cases hj : j < n
 ·
  have := h j hj
  rwa [inSetB_nat a j ha' (by omega), inSetB_nat b j hb' (by omega)] at this
 ·
  have hp : (2 : Nat) ^ n ≤ 2 ^ j := Nat.pow_le_pow_right (by omega) (by omega)
  rw [Nat.testBit_lt_two_pow (by omega), Nat.testBit_lt_two_pow (by omega)]
theorem ok_zero {n : Nat} (hn : n ≤ 12) : okB n 0 = true := okB_of_nat (a := 0) hn (Nat.two_pow_pos n)
theorem zero_bit (j : Nat) : inSetB 0 j = false := by
 by_cases hj : j < 12
 ·
  rw [show (0 : Int) = ((0 : Nat) : Int) from rfl, inSetB_nat 0 j (by omega) hj, Nat.zero_testBit]
 ·
  exact inSetB_far _ (by omega)
theorem i64_andNot_nat (a b : Nat) (ha : a < 9223372036854775808) (hb : b < 9223372036854775808) : bits .andNot .i64 (a : Int) (b : Int) = ((a &&& (18446744073709551615 - b) : Nat) : Int) := by
 have hx : a &&& (18446744073709551615 - b) ≤ a := Nat.and_le_left
 show IntKind.i64.wrap ((BitVec.ofInt 64 (a : Int) &&& ~~~ BitVec.ofInt 64 (b : Int)).toNat : Int) = _
 rw [BitVec.toNat_and, BitVec.toNat_not, ofInt_i64 a ha, ofInt_i64 b hb, IntKind.wrap_i64, show (2 : Nat) ^ 64 - 1 - b = 18446744073709551615 - b from rfl]
 omega
theorem ok_not {n : Nat} {s t : Int} (hs : okB n s = true) (ht : okB n t = true) : okB n (notI s t) = true ∧ ∀ j : Nat, inSetB (notI s t) j = (inSetB s j && !inSetB t j) := by
 obtain ⟨hn, a, rfl, ha, ha'⟩ := okB_nat hs
 obtain ⟨_, b, rfl, hb, hb'⟩ := okB_nat ht
 have e : notI (a : Int) (b : Int) = ((a &&& (18446744073709551615 - b) : Nat) : Int) := i64_andNot_nat a b (by omega) (by omega)
 have hl : a &&& (18446744073709551615 - b) ≤ a := Nat.and_le_left
 rw [e]
 refine ⟨okB_of_nat hn (by omega), fun j => ?_⟩
 by_cases hj : j < 12
 ·
  have h2 : (18446744073709551615 - b).testBit j = !b.testBit j := by
   have e2 : 18446744073709551615 - b = 2 ^ 64 - (b + 1) := by omega
   rw [e2, Nat.testBit_two_pow_sub_succ (by omega)]
   have : j < 64 := by omega
   simp [this]
  rw [inSetB_nat _ j (by omega) hj, inSetB_nat _ j ha' hj, inSetB_nat _ j hb' hj, Nat.testBit_and, h2]
 ·
  rw [inSetB_far _ (by omega), inSetB_far _ (by omega), inSetB_far _ (by omega)]; rfl
theorem ok_add {n : Nat} {s : Int} (hs : okB n s = true) {i : Nat} (hi : i < n) : okB n (gAdd s i) = true ∧ ∀ j : Nat, inSetB (gAdd s i) j = (inSetB s j || decide (i = j)) := by
 obtain ⟨hn, a, rfl, ha, ha'⟩ := okB_nat hs
 rw [gAdd_nat a i ha' (by omega)]
 have hp : (2 : Nat) ^ i < 2 ^ n := Nat.pow_lt_pow_right (by omega) hi
 have hl : a ||| 2 ^ i < 2 ^ n := Nat.or_lt_two_pow ha hp
 refine ⟨okB_of_nat hn hl, fun j => ?_⟩
 by_cases hj : j < 12
 ·
  rw [inSetB_nat _ j (or_lt a i ha' (by omega)) hj, inSetB_nat _ j ha' hj, Nat.testBit_or, Nat.testBit_two_pow]
 ·
  have : ¬ i = j := by omega
  rw [inSetB_far _ (by omega), inSetB_far _ (by omega)]; simp [this]
def Web (n : Nat) (zs : List Int) : Prop := n ≤ 12 ∧ zs.length = n ∧ ∀ i, i < n → okB n (zs.getD i 0) = true
theorem web_iff {zs : List Int} : webB zs = true ↔ Web zs.length zs := by
 constructor
 ·
  intro h; exact ⟨webB_len h, rfl, fun i hi => webB_get h hi⟩
 ·
  intro h; exact webB_all h.2.2
theorem Web.b {n : Nat} {zs : List Int} (h : Web n zs) : webB zs = true := by
 obtain ⟨h1, rfl, h2⟩ := h; exact web_iff.2 ⟨h1, rfl, h2⟩
theorem list_ext {n : Nat} {a b : List Int} (ha : a.length = n) (hb : b.length = n) (h : ∀ i, i < n → a.getD i 0 = b.getD i 0) : a = b := by
 apply List.ext_getElem (by omega)
 intro i h1 h2
 have := h i (by omega)
 rw [List.getD_eq_getElem?_getD, List.getD_eq_getElem?_getD, List.getElem?_eq_getElem h1, List.getElem?_eq_getElem h2] at this
 exact this
def line (zs : List Int) (i j : Nat) : Bool := inSetB (zs.getD i 0) j
theorem Web.ext {n : Nat} {a b : List Int} (ha : Web n a) (hb : Web n b) (h : ∀ i j, i < n → j < n → line a i j = line b i j) : a = b :=
 list_ext ha.2.1 hb.2.1 fun i hi => ok_ext (ha.2.2 i hi) (hb.2.2 i hi) fun j hj => h i j hi hj
theorem Web.lt {n : Nat} {a : List Int} (ha : Web n a) {i j : Nat} (hi : i < n) (h : line a i j = true) : j < n := inSetB_iff (ha.2.2 i hi) h
theorem getD_set (zs : List Int) (i j : Nat) (x : Int) (hi : i < zs.length) : (zs.set i x).getD j 0 = if i = j then x else zs.getD j 0 := by
 rw [List.getD_eq_getElem?_getD, List.getD_eq_getElem?_getD, List.getElem?_set]
 by_cases h : i = j
 ·
  subst h; simp [hi]
 ·
  simp [h]
theorem Web.set {n : Nat} {a : List Int} (ha : Web n a) {i : Nat} {x : Int} (hx : okB n x = true) : Web n (a.set i x) := by
 obtain ⟨h1, h2, h3⟩ := ha
 refine ⟨h1, by simp [h2], fun j hj => ?_⟩
 by_cases hi : i < a.length
 ·
  rw [getD_set a i j x hi]; split
  ·
   exact hx
  ·
   exact h3 j hj
 ·
  rw [List.set_eq_of_length_le (by omega)]; exact h3 j hj
theorem Web.zero {n : Nat} (hn : n ≤ 12) : Web n (List.replicate n 0) := by
 refine ⟨hn, by simp, fun i hi => ?_⟩
 rw [List.getD_eq_getElem?_getD, List.getElem?_replicate, if_pos hi]
 exact ok_zero hn
theorem line_zero (n i j : Nat) : line (List.replicate n 0) i j = false := by
 unfold line
 rw [List.getD_eq_getElem?_getD, List.getElem?_replicate]
 split <;> exact zero_bit j
def fwK (n : Nat) (rs f : List Int) : Nat → List Int
 | 0 => List.replicate n 0
 | k + 1 => (fwK n rs f k).set (f.getD k 0).toNat (gAdd ((fwK n rs f k).getD (f.getD k 0).toNat 0) (rs.getD k 0))
def fwL (es : List Ev) (f : List Int) : List Int := fwK es.length (idxB rdE es) f (idxB rdE es).length
theorem fw_line {n : Nat} {rs f : List Int} (hn : n ≤ 12) : ∀ k : Nat, (∀ i, i < k → 0 ≤ rs.getD i 0 ∧ rs.getD i 0 < (n : Int)) → (∀ i, i < k → 0 ≤ f.getD i 0 ∧ f.getD i 0 < (n : Int)) →
  Web n (fwK n rs f k) ∧ ∀ a j : Nat, a < n → (line (fwK n rs f k) a j = true ↔ ∃ i, i < k ∧ f.getD i 0 = (a : Int) ∧ rs.getD i 0 = (j : Int))
 | 0, _, _ => ⟨Web.zero hn, fun a j _ => by rw [fwK, line_zero]; simp⟩
 | k + 1, hr, hf => by
  obtain ⟨h1, h2⟩ := fw_line hn k (fun i hi => hr i (by omega)) (fun i hi => hf i (by omega))
  obtain ⟨a0, ha0⟩ := Int.eq_ofNat_of_zero_le (hf k (by omega)).1
  obtain ⟨j0, hj0⟩ := Int.eq_ofNat_of_zero_le (hr k (by omega)).1
  have ha : a0 < n := by have := (hf k (by omega)).2; omega
  have hj : j0 < n := by have := (hr k (by omega)).2; omega
  rw [fwK, ha0, hj0, Int.toNat_natCast]
  have hg := ok_add (h1.2.2 a0 ha) hj
  refine ⟨h1.set hg.1, fun a j haa => ?_⟩
  unfold line
  rw [getD_set _ _ _ _ (by rw [h1.2.1]; exact ha)]
  by_cases e : a0 = a
  ·
   subst e
   rw [if_pos rfl, hg.2 j, Bool.or_eq_true, decide_eq_true_eq]
   have := h2 a0 j haa
   unfold line at this
   rw [this]
   constructor
   ·
    rintro (⟨i, hi, h⟩ | rfl)
    ·
     exact ⟨i, by omega, h⟩
    ·
     exact ⟨k, by omega, ha0, hj0⟩
   ·
    rintro ⟨i, hi, h3, h4⟩
    by_cases e2 : i = k
    ·
     subst e2; right; rw [hj0] at h4; omega
    ·
     exact .inl ⟨i, by omega, h3, h4⟩
  ·
   rw [if_neg e]
   have := h2 a j haa
   unfold line at this
   rw [this]
   constructor
   ·
    rintro ⟨i, hi, h⟩
    exact ⟨i, by omega, h⟩
   ·
    rintro ⟨i, hi, h3, h4⟩
    by_cases e2 : i = k
    ·
     subst e2; rw [ha0] at h3; omega
    ·
     exact ⟨i, by omega, h3, h4⟩
theorem isB_mem {l : List Int} {n : Int} (h : isB l n = true) : n ∈ l := by
 unfold isB at h
 rw [List.any_eq_true] at h
 obtain ⟨x, hx, e⟩ := h
 rw [beq_iff_eq] at e
 rw [← e]; exact hx
theorem idxK_mem (f : Ev → Bool) (l : List Ev) : ∀ (k : Nat) (x : Int), x ∈ idxK f l k → f (l.getD x.toNat zE) = true
 | 0, x, h => by simp [idxK] at h
 | k + 1, x, h => by
  rw [idxK] at h
  split at h
  ·
   rename_i hf
   rcases List.mem_append.1 h with h | h
   ·
    exact idxK_mem f l k x h
   ·
    simp only [List.mem_cons, List.not_mem_nil, or_false] at h
    rw [h, Int.toNat_natCast]; exact hf
  ·
   exact idxK_mem f l k x h
theorem src_use {es : List Ev} {f : List Int} (hx : es.length ≤ 12) (h : srcB (chcL es) f = true) : (idxB rdE es).length = f.length ∧
  ∀ i, i < (idxB rdE es).length → (0 ≤ f.getD i 0 ∧ f.getD i 0 < (es.length : Int)) ∧ (es.getD (f.getD i 0).toNat zE).2.2.2.1 = plE es ((idxB rdE es).getD i 0) := by
 unfold srcB at h
 rw [Bool.and_eq_true, decide_eq_true_eq] at h
 obtain ⟨h1, h2⟩ := h
 have hc : (chcL es).length = (idxB rdE es).length := chcK_len _ _ _
 refine ⟨by omega, fun i hi => ?_⟩
 have h3 := (srcK_iff (chcL es).length).1 h2 i (by omega)
 unfold chcL at h3
 rw [chcK_get _ _ _ _ hi] at h3
 have h4 := isB_mem h3
 unfold idxB at h4
 rw [if_pos hx] at h4
 have h5 := idxK_lt _ _ _ _ h4
 have h6 := idxK_mem _ _ _ _ h4
 refine ⟨h5, ?_⟩
 unfold toE at h6
 simp only [Bool.and_eq_true, beq_iff_eq] at h6
 rw [h6.2]
 unfold idxB
 rw [if_pos hx]
def fwB (dss : List (List Dd)) (f : List Int) : List Int := if sourceB dss f = true then fwL (eventsB dss) f else []
theorem eventsB_12 (dss : List (List Dd)) : (eventsB dss).length ≤ 12 := by
 unfold eventsB
 split
 ·
  rename_i hb
  exact (events_law hb).1
 ·
  simp
inductive Way (zs : List Int) : Nat → Nat → Prop
 | one {i j : Nat} (h : line zs i j = true) : Way zs i j
 | more {i k j : Nat} (h : Way zs i k) (g : line zs k j = true) : Way zs i j
theorem Way.trans {zs : List Int} {i k j : Nat} (h : Way zs i k) (g : Way zs k j) : Way zs i j := by
 induction g with
 | one g => exact .more h g
 | more _ g ih => exact .more ih g
theorem Way.lt {n : Nat} {zs : List Int} (hz : Web n zs) {i j : Nat} (hi : i < n) (h : Way zs i j) : j < n := by
 induction h with
 | one g => exact hz.lt hi g
 | more _ g ih => exact hz.lt ih g
end Go.Proofs.Ytkbkdlaknmgjpaa
