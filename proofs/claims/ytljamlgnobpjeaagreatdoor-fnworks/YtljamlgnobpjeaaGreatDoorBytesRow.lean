/- Bytes in memory of the call's own: 'RowB': a slice of bytes that can be read and written, at the beginning of a block from B on. -/
import Derived.Test.YtljamlgnobpjeaaGreatDoorDeedDraw
import Derived.Lib.ConvBytes
import Derived.Laws.BytesArg
import Derived.Shelf.Bytes.SlSmallAll
import Derived.Deep.RegionLaw
namespace Go.Proofs.YtljamlgnobpjeaaGreatDoor
open Go.ChangeShapes Go.WideShapes Go.ChangeAt Go.RowKit

def RowB (w : World) (B : Nat) (v : Value) (xs : List Int) : Prop :=
  ∃ (a : Option Addr) (cap : Nat), v = .slice a xs.length cap ∧ xs.length ≤ cap ∧
    (xs = [] ∨ ∃ g, a = some ⟨g, 0, none⟩ ∧ B ≤ g ∧ g < w.heap.size ∧ ∀ i, i < xs.length → w.cell? ⟨g, i, none⟩ = some (.int .u8 (xs.getD i 0)) ∧ w.frozen? ⟨g, i, none⟩ = false)
theorem frozen_of_block {w w' : World} {g i : Nat} (h : w'.heap[g]? = w.heap[g]?) : w'.frozen? ⟨g, i, none⟩ = w.frozen? ⟨g, i, none⟩ := by simp [World.frozen?, h]
theorem RowB.kept {w w' : World} {B : Nat} {v : Value} {xs : List Int} {row : Option Nat} (h : RowB w B v xs) (hg : w.grownBy w' row) (hr : ∀ k, row = some k → k < B) : RowB w' B v xs := by
  obtain ⟨a, cap, hv, hl, h⟩ := h
  refine ⟨a, cap, hv, hl, ?_⟩
  rcases h with h | ⟨g, ha, hB, hs, hc⟩
  · exact .inl h
  · have hb := hg.block g hs (fun e => by have := hr g e.symm; omega)
    exact .inr ⟨g, ha, hB, Nat.lt_of_lt_of_le hs hg.size, fun i hi => ⟨(World.cell?_of_block (w := w) hb).trans (hc i hi).1, (frozen_of_block hb).trans (hc i hi).2⟩⟩
theorem RowB.ofOwn {w : World} {B : Nat} {v : Value} {xs : List Int} (h : w.ownsRow B 5 1 v xs.length (xs.map (Value.int .u8))) : RowB w B v xs := by
  have hlt := World.ownsRow.lt h
  rcases h.2 with ⟨rfl, hn⟩ | ⟨g, cap, cur, rfl, hb, hg, hcap, rest⟩
  · have : xs = [] := List.eq_nil_of_length_eq_zero hn
    subst this
    exact ⟨none, 0, rfl, Nat.le_refl _, .inl rfl⟩
  · refine ⟨some ⟨g, 0, none⟩, cap, rfl, hcap, .inr ⟨g, rfl, hb, (hlt g rfl).2, fun i hi => ⟨?_, World.ownsRow.frozenAt h i⟩⟩⟩
    have hc := World.ownsRow.cellAt h i (by simpa using hi)
    rw [hc, List.getElem?_map, List.getElem?_eq_getElem hi, List.getD_eq_getElem?_getD, List.getElem?_eq_getElem hi]
    rfl
def numsOf (l : List UInt8) : List Int := l.map fun b => (b.toNat : Int)
theorem RowB.ofString (w : World) (l : List UInt8) (cap : Nat) (hcap : l.length ≤ cap) : RowB (Lib.bytesWorld w 5 ⟨l.toArray⟩) w.heap.size (.slice (some ⟨w.heap.size, 0, none⟩) l.length cap) (numsOf l) := by
  have hl : (numsOf l).length = l.length := by simp [numsOf]
  have hsz : (⟨l.toArray⟩ : ByteArray).size = l.length := by simp [ByteArray.size]
  refine ⟨some ⟨w.heap.size, 0, none⟩, cap, by rw [hl], by omega, ?_⟩
  by_cases h0 : l = []
  · left; subst h0; rfl
  · refine .inr ⟨w.heap.size, rfl, Nat.le_refl _, by rw [Lib.bytesWorld_size]; omega, fun i hi => ⟨?_, ?_⟩⟩
    · rw [Lib.bytesWorld_cell _ _ _ i (by rw [hsz]; omega)]
      congr 2
      simp [numsOf, List.getD_eq_getElem?_getD, List.getElem?_map]
      cases h : l[i]? <;> simp
    · have hn := Lib.bytesWorld_at_new w 5 ⟨l.toArray⟩
      have hcs : l.length ≤ (Lib.bytesCells w 5 ⟨l.toArray⟩).size := by
        simp [Lib.bytesCells]
      simp only [World.frozen?, hn]
      simp
      omega
theorem RowB.take {w : World} {B g cap k : Nat} {xs : List Int} (hB : B ≤ g) (hs : g < w.heap.size) (hcap : xs.length ≤ cap) (hc : ∀ i, i < xs.length → w.cell? ⟨g, i, none⟩ = some (.int .u8 (xs.getD i 0)) ∧ w.frozen? ⟨g, i, none⟩ = false) (hk : k ≤ xs.length) :
    RowB w B (.slice (some ⟨g, 0, none⟩) k cap) (xs.take k) := by
  have hl : (xs.take k).length = k := by rw [List.length_take]; omega
  refine ⟨some ⟨g, 0, none⟩, cap, by rw [hl], by omega, .inr ⟨g, rfl, hB, hs, fun i hi => ?_⟩⟩
  have e : (xs.take k).getD i 0 = xs.getD i 0 := by rw [List.getD_eq_getElem?_getD, List.getD_eq_getElem?_getD, List.getElem?_take, if_pos (by omega)]
  rw [e]
  exact hc i (by omega)
theorem RowB.set {w : World} {B g cap k : Nat} {xs : List Int} (hB : B ≤ g) (hs : g < w.heap.size) (hcap : xs.length ≤ cap) (hc : ∀ i, i < xs.length → w.cell? ⟨g, i, none⟩ = some (.int .u8 (xs.getD i 0)) ∧ w.frozen? ⟨g, i, none⟩ = false) (hk : k < xs.length) (y : Int) :
    RowB (w.setCell ⟨g, k, none⟩ (.int .u8 y)) B (.slice (some ⟨g, 0, none⟩) xs.length cap) (xs.set k y) := by
  refine ⟨some ⟨g, 0, none⟩, cap, by simp, by simpa using hcap, .inr ⟨g, rfl, hB, by simpa using hs, fun i hi => ?_⟩⟩
  have hi' : i < xs.length := by simpa using hi
  have hf : (w.setCell ⟨g, k, none⟩ (.int .u8 y)).frozen? ⟨g, i, none⟩ = w.frozen? ⟨g, i, none⟩ := by simp
  rw [hf]
  refine ⟨?_, (hc i hi').2⟩
  by_cases e : i = k
  · subst e
    rw [World.cell?_setCell_same _ _ _ (hc i hi').1]
    simp [List.getD_eq_getElem?_getD, hi']
  · rw [World.cell?_setCell_other _ _ _ _ (by simp), (hc i hi').1]
    simp [List.getD_eq_getElem?_getD, Ne.symm e]
theorem RowB.open {w : World} {B g cap : Nat} {xs : List Int} (h : RowB w B (.slice (some ⟨g, 0, none⟩) xs.length cap) xs) (h1 : 1 ≤ xs.length) :
    g < w.heap.size ∧ ∀ i, i < xs.length → w.cell? ⟨g, i, none⟩ = some (.int .u8 (xs.getD i 0)) ∧ w.frozen? ⟨g, i, none⟩ = false := by
  obtain ⟨a, cap', hv, _, h⟩ := h
  simp only [Value.slice.injEq] at hv
  obtain ⟨rfl, _, rfl⟩ := hv
  rcases h with h | ⟨g', hg, _, hs, hc⟩
  · rw [h] at h1; simp at h1
  · simp only [Option.some.injEq, Addr.mk.injEq, and_true] at hg
    subst hg
    exact ⟨hs, hc⟩
/-- The cells that an append takes out of a row of bytes. -/
theorem news_of {W : World} {g o n : Nat} {xs : List Int} (hc : ∀ i, i < xs.length → W.cell? ⟨g, i, none⟩ = some (.int .u8 (xs.getD i 0))) :
    ∀ j u, (((xs.drop o).take n).map (Value.int .u8))[j]? = some u → W.cell? ((⟨g, o, none⟩ : Addr).add j) = some u := by
  intro j u hj
  have hadd : (⟨g, o, none⟩ : Addr).add j = ⟨g, o + j, none⟩ := by unfold Addr.add; split <;> simp_all
  rw [List.getElem?_map, Option.map_eq_some_iff] at hj
  obtain ⟨y, hy, rfl⟩ := hj
  rw [List.getElem?_take] at hy
  split at hy
  · rw [List.getElem?_drop] at hy
    have hl : o + j < xs.length := by
      rw [List.getElem?_eq_some_iff] at hy
      exact hy.1
    rw [hadd, hc (o + j) hl, List.getD_eq_getElem?_getD, hy]
    rfl
  · cases hy
theorem one_of {xs : List Int} : ∀ u ∈ xs.map (Value.int .u8), u.oneCell' = true := by
  intro u hu
  obtain ⟨y, _, rfl⟩ := List.mem_map.1 hu
  rfl
theorem RowB.ofTwo {w : World} {B n : Nat} {v : Value} {a b : List Int} (h : w.ownsRow B 5 1 v n (([] ++ a.map (Value.int .u8)) ++ b.map (Value.int .u8))) (hn : n = (a ++ b).length) : RowB w B v (a ++ b) := by
  subst hn
  refine RowB.ofOwn ?_
  simpa using h
theorem RowB.ofThree {w : World} {B n : Nat} {v : Value} {a b d : List Int} (h : w.ownsRow B 5 1 v n ((([] ++ a.map (Value.int .u8)) ++ b.map (Value.int .u8)) ++ d.map (Value.int .u8))) (hn : n = (a ++ b ++ d).length) : RowB w B v (a ++ b ++ d) := by
  subst hn
  refine RowB.ofOwn ?_
  simpa using h
theorem cell_far {w w' : World} {row : Option Nat} {g i : Nat} (hg : w.grownBy w' row) (hs : g < w.heap.size) (hne : row ≠ some g) : w'.cell? ⟨g, i, none⟩ = w.cell? ⟨g, i, none⟩ :=
  World.cell?_of_block (w := w) (hg.block g hs (fun e => hne e.symm))
theorem wrap_k1 (k : Nat) (h : k ≤ 2000) : IntKind.i64.wrap ((k : Int) + 1) = (k : Int) + 1 := by
  rw [IntKind.wrap_i64]
  omega
theorem RowB.mono {w : World} {B B' : Nat} {v : Value} {xs : List Int} (h : RowB w B v xs) (hB : B' ≤ B) : RowB w B' v xs := by
  obtain ⟨a, cap, hv, hl, h⟩ := h
  refine ⟨a, cap, hv, hl, ?_⟩
  rcases h with h | ⟨g, ha, hg, rest⟩
  · exact .inl h
  · exact .inr ⟨g, ha, Nat.le_trans hB hg, rest⟩
theorem news_one (W : World) (x : Int) : ∀ j u, ([x].map (Value.int .u8))[j]? = some u → (W.alloc (.cells #[.int .u8 x] 5)).cell? ((⟨W.heap.size, 0, none⟩ : Addr).add j) = some u := by
  intro j u hj
  match j, hj with
  | 0, hj =>
    simp at hj
    subst hj
    simp [Addr.add]
theorem Dr.kept {w wr wr' : World} {B c : Nat} {row : Option Nat} (h : Dr w wr B c) (hg : wr.grownBy wr' row) (hr : ∀ k, row = some k → w.heap.size ≤ k) (hc : c < w.heap.size) (hB : B ≤ c) : Dr w wr' B c := by
  refine ⟨h.1.kept hg (fun e => by have := hr c e; omega) (fun k hk => by have := hr k hk; omega), ?_⟩
  exact ⟨hg.os.trans h.2.os, hg.tape.trans h.2.tape, hg.output.trans h.2.output, Nat.le_trans h.2.size hg.size, fun i hi hne => (hg.block i (Nat.lt_of_lt_of_le hi h.2.size) (fun e => by have := hr i e.symm; omega)).trans (h.2.block i hi hne)⟩
theorem Dr.keep {w wr wr' : World} {B c : Nat} (h : Dr w wr B c) (k : Keep wr wr') : Dr w wr' B c := ⟨h.1.keep k, grown_trans h.2 ⟨Below.os k, Below.tape k, Below.output k, Below.size k, fun i hi _ => Below.block k i hi⟩⟩
theorem toStr {w : World} {B : Nat} {v : Value} {xs : List Int} (h : RowB w B v xs) : ∃ l : List UInt8, l.length = xs.length ∧ (convert 22 9 v).run Tryz.prog w = .ok (strV l) w := by
  obtain ⟨a, cap, rfl, hcap, h⟩ := h
  rcases h with h | ⟨g, rfl, hB, hs, hc⟩
  · subst h
    exact ⟨[], rfl, run_convert_bytes_zero w 22 5 Tryz.underlying22 Tryz.underlying5 a cap 9 Tryz.underlying9⟩
  · refine ⟨xs.map fun n => UInt8.ofNat n.toNat, by simp, ?_⟩
    exact run_convert_bytes_arg (P := Tryz.prog) w 22 5 Tryz.underlying22 Tryz.underlying5 g 0 xs.length cap xs rfl (fun i hi => by rw [Nat.zero_add]; exact (hc i hi).1) 9 Tryz.underlying9
theorem step_append_own {P : Program} {w : World} {ops : Array Oper} {o : Oper} {a : Act} {K : Act → World → Prop} {Q : Exit → Act → World → Prop} {E : Prop} (hgd : o.guard = none) (s x : Operand) (t : TypeId)
    (ho : o.op = .call { callee := .builtin .append, args := #[s, x], argTypes := #[t, t] })
    (base : Nat) (e : TypeId) (i : TypeInfo) (z : Value) (size bytes : Nat) (ht : P.underlying t = some (.slice e)) (hi : P.info? e = some i) (hz : i.zero = some z)
    (hsize : i.size = size) (hby : i.bytes = bytes) (hzs : z.cells.size = size) (hsz : 0 < size)
    (v : Value) (n : Nat) (xs : List Value) (hs : a.eval s = v) (hown : w.ownsRow base e size v n xs)
    (ad : Addr) (m c : Nat) (news : List Value) (hx : a.eval x = .slice (some ad) m c) (hl : news.length = m * size) (hnews : ∀ j u, news[j]? = some u → w.cell? (ad.add j) = some u) (h1 : ∀ u ∈ news, u.oneCell' = true)
    (h63 : n + m ≤ maxLen) (hbytes : (n + m) * bytes ≤ 140737488355328) (hbase : base ≤ w.heap.size)
    (h : ∀ v' w', w'.ownsRow base e size v' (n + m) (xs ++ news) → w.grownBy w' v.ownBlock → K (a.put o.dst v') w') :
    if Region.wanted o (yielded ops a.tmps) = true then Oper.wp P o a w K Q else E := by
  have hw : Region.wanted o (yielded ops a.tmps) = true := by simp [Region.wanted, hgd]
  rw [if_pos hw]
  exact wp_append_own w s x t ho base e i z size bytes ht hi hz hsize hby hzs hsz v n xs hs hown ad m c news hx hl hnews h1 h63 hbytes hbase fun v' w' h2 h3 _ => h v' w' h2 h3
theorem Tryz.infoB : (Tryz.prog.info? 5).map (fun i => (i.zero, i.size, i.bytes)) = some (some (.int .u8 0), 1, 1) := by kernel_rfl
end Go.Proofs.YtljamlgnobpjeaaGreatDoor
