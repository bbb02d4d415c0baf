/- Several texts in one. -/
import Derived.Test.YtljamlgnobpjeaaGreatDoorMB
import Derived.Test.YtljamlgnobpjeaaGreatDoorDeedOkS
import Derived.Test.YtljamlgnobpjeaaGreatDoorMA
import Derived.Deep.Slices
import Derived.Lib.SmallJoins
/- A deed in a block of the call's own, while it is filled: what it holds, and that all else stands. -/
namespace Go.Proofs.YtljamlgnobpjeaaGreatDoor
open Go.ChangeShapes Go.WideShapes Go.ChangeAt Go.RowKit

/-- What ReadDeed answers of a guess. -/
def readV (b : Bool) (k p v g : Int) : Value := if b = true then .tuple #[deedV k p v g, .bool true] else .tuple #[deedV 0 0 0 0, .bool false]
abbrev deedC (k p v g : Int) : Obj := .cells #[.int .i64 k, .int .i64 p, .int .i64 v, .int .i64 g] 53
/-- Block D of the world wr is a deed; all else that was in w1 stands as it stood. -/
def St (w1 wr : World) (D : Nat) (k p v g : Int) : Prop := wr.heap[D]? = some (deedC k p v g) ∧ w1.grownBy wr (some D)
theorem St.start {w1 : World} (k p v g : Int) : St w1 (w1.alloc (deedC k p v g)) w1.heap.size k p v g :=
  ⟨heap_alloc_new w1 _, World.grownBy_alloc w1 _ (some w1.heap.size)⟩
theorem St.size {w1 wr : World} {D : Nat} {k p v g : Int} (h : St w1 wr D k p v g) : D < wr.heap.size := (Array.getElem?_eq_some_iff.1 h.1).1
theorem St.keep {w1 wr wr' : World} {D : Nat} {k p v g : Int} (h : St w1 wr D k p v g) (hk : Keep wr wr') : St w1 wr' D k p v g :=
  ⟨(Below.block hk D h.size).trans h.1, grown_trans h.2 ⟨Below.os hk, Below.tape hk, Below.output hk, Below.size hk, fun i hi _ => Below.block hk i hi⟩⟩
theorem St.cells {w1 wr : World} {D : Nat} {k p v g : Int} (h : St w1 wr D k p v g) :
    wr.cell? ⟨D, 0, none⟩ = some (.int .i64 k) ∧ wr.cell? ⟨D, 1, none⟩ = some (.int .i64 p) ∧ wr.cell? ⟨D, 2, none⟩ = some (.int .i64 v) ∧ wr.cell? ⟨D, 3, none⟩ = some (.int .i64 g) :=
  ⟨cell_of_row wr D 0 _ _ (0, 0) h.1, cell_of_row wr D 1 _ _ (0, 0) h.1, cell_of_row wr D 2 _ _ (0, 0) h.1, cell_of_row wr D 3 _ _ (0, 0) h.1⟩
theorem St.free {w1 wr : World} {D : Nat} {k p v g : Int} (h : St w1 wr D k p v g) (i : Nat) : wr.frozen? ⟨D, i, none⟩ = false := frozen_of_row wr D i _ _ h.1
theorem St.set0 {w1 wr : World} {D : Nat} {k p v g : Int} (h : St w1 wr D k p v g) (x : Int) : St w1 (wr.setCell ⟨D, 0, none⟩ (.int .i64 x)) D x p v g :=
  ⟨by rw [heap_setCell_same wr D 0 _ _ _ h.1]; rfl, grown_trans h.2 ⟨rfl, rfl, rfl, by simp, fun i _ hi => heap_setCell_other wr ⟨D, 0, none⟩ i _ (fun e => hi (by simp [e]))⟩⟩
theorem St.set1 {w1 wr : World} {D : Nat} {k p v g : Int} (h : St w1 wr D k p v g) (x : Int) : St w1 (wr.setCell ⟨D, 1, none⟩ (.int .i64 x)) D k x v g :=
  ⟨by rw [heap_setCell_same wr D 1 _ _ _ h.1]; rfl, grown_trans h.2 ⟨rfl, rfl, rfl, by simp, fun i _ hi => heap_setCell_other wr ⟨D, 1, none⟩ i _ (fun e => hi (by simp [e]))⟩⟩
theorem St.set2 {w1 wr : World} {D : Nat} {k p v g : Int} (h : St w1 wr D k p v g) (x : Int) : St w1 (wr.setCell ⟨D, 2, none⟩ (.int .i64 x)) D k p x g :=
  ⟨by rw [heap_setCell_same wr D 2 _ _ _ h.1]; rfl, grown_trans h.2 ⟨rfl, rfl, rfl, by simp, fun i _ hi => heap_setCell_other wr ⟨D, 2, none⟩ i _ (fun e => hi (by simp [e]))⟩⟩
theorem St.set3 {w1 wr : World} {D : Nat} {k p v g : Int} (h : St w1 wr D k p v g) (x : Int) : St w1 (wr.setCell ⟨D, 3, none⟩ (.int .i64 x)) D k p v x :=
  ⟨by rw [heap_setCell_same wr D 3 _ _ _ h.1]; rfl, grown_trans h.2 ⟨rfl, rfl, rfl, by simp, fun i _ hi => heap_setCell_other wr ⟨D, 3, none⟩ i _ (fun e => hi (by simp [e]))⟩⟩
/-- What was there ahead of the deed's block stands. -/
theorem St.keep1 {w1 wr : World} {k p v g : Int} (h : St w1 wr w1.heap.size k p v g) : Keep w1 wr :=
  (Keep.refl w1).grown h.2 (fun k hk => by simp at hk; omega)
end Go.Proofs.YtljamlgnobpjeaaGreatDoor

/- Works in memory: lists of deeds, and lists of such lists, that can be read. -/
namespace Go.Proofs.YtljamlgnobpjeaaGreatDoor
open Go.ChangeShapes Go.WideShapes Go.ChangeAt Go.RowKit

abbrev dV (d : Dd) : Value := deedV d.1 d.2.1 d.2.2.1 d.2.2.2
/-- A deed that lies at a place. -/
def AtD (w : World) (b o : Nat) (d : Dd) : Prop :=
  w.cell? ⟨b, o, none⟩ = some (.int .i64 d.1) ∧ w.cell? ⟨b, o + 1, none⟩ = some (.int .i64 d.2.1) ∧ w.cell? ⟨b, o + 2, none⟩ = some (.int .i64 d.2.2.1) ∧ w.cell? ⟨b, o + 3, none⟩ = some (.int .i64 d.2.2.2)
def RdD (w : World) (v : Value) (ds : List Dd) : Prop :=
  ∃ (a : Option Addr) (cap : Nat), v = .slice a ds.length (ds.length + cap) ∧
    (ds = [] ∨ ∃ b off, a = some ⟨b, off, none⟩ ∧ b < w.heap.size ∧ ∀ i, i < ds.length → AtD w b (off + i * 4) (ds.getD i zD))
def RdW (w : World) (v : Value) (dss : List (List Dd)) : Prop :=
  ∃ (a : Option Addr) (cap : Nat), v = .slice a dss.length cap ∧
    (dss = [] ∨ ∃ b off, a = some ⟨b, off, none⟩ ∧ b < w.heap.size ∧ ∀ i, i < dss.length → ∃ vi, w.cell? ⟨b, off + i, none⟩ = some vi ∧ RdD w vi (dss.getD i []))
theorem AtD.keep {w w' : World} {b o : Nat} {d : Dd} (h : AtD w b o d) (hb : b < w.heap.size) (k : Keep w w') : AtD w' b o d :=
  ⟨(k.cell hb).trans h.1, (k.cell hb).trans h.2.1, (k.cell hb).trans h.2.2.1, (k.cell hb).trans h.2.2.2⟩
theorem RdD.keep {w w' : World} {v : Value} {ds : List Dd} (h : RdD w v ds) (k : Keep w w') : RdD w' v ds := by
  obtain ⟨a, cap, hv, h⟩ := h
  refine ⟨a, cap, hv, ?_⟩
  rcases h with h | ⟨b, off, ha, hb, hc⟩
  · exact .inl h
  · exact .inr ⟨b, off, ha, Nat.lt_of_lt_of_le hb k.size, fun i hi => (hc i hi).keep hb k⟩
theorem RdW.keep {w w' : World} {v : Value} {dss : List (List Dd)} (h : RdW w v dss) (k : Keep w w') : RdW w' v dss := by
  obtain ⟨a, cap, hv, h⟩ := h
  refine ⟨a, cap, hv, ?_⟩
  rcases h with h | ⟨b, off, ha, hb, hc⟩
  · exact .inl h
  · refine .inr ⟨b, off, ha, Nat.lt_of_lt_of_le hb k.size, fun i hi => ?_⟩
    obtain ⟨vi, h1, h2⟩ := hc i hi
    exact ⟨vi, (k.cell hb).trans h1, h2.keep k⟩
theorem Keep.set {w wr : World} (h : Keep w wr) {g : Nat} (hg : w.heap.size ≤ g) (i : Nat) (x : Value) : Keep w (wr.setCell ⟨g, i, none⟩ x) :=
  h.grown (row := some g) ⟨rfl, rfl, rfl, by simp, fun k _ hk => heap_setCell_other wr ⟨g, i, none⟩ k x (fun e => hk (by simp [e]))⟩ (fun k hk => by simp at hk; omega)
theorem range_getD {α : Type} (f : Nat → α) (n i : Nat) (z : α) (h : i < n) : ((List.range n).map f).getD i z = f i := by
  rw [List.getD_eq_getElem?_getD, List.getElem?_map, List.getElem?_range h]
  rfl
theorem plain_add {b o i : Nat} : (⟨b, o, none⟩ : Addr).add i = ⟨b, o + i, none⟩ := by unfold Addr.add; split <;> simp_all
theorem block_lt {w : World} {b o : Nat} {v : Value} (h : w.cell? ⟨b, o, none⟩ = some v) : b < w.heap.size := by
  apply Classical.byContradiction
  intro hn
  have h3 : w.heap[b]? = none := by simp; omega
  simp [World.cell?, h3] at h
end Go.Proofs.YtljamlgnobpjeaaGreatDoor

/- Plain facts for reading works: how many pieces, how long; what a deed's reading answers. -/
namespace Go.Proofs.YtljamlgnobpjeaaGreatDoor
open Go.ChangeShapes Go.WideShapes Go.ChangeAt Go.RowKit

theorem cutK_count (b s : List UInt8) : ∀ i : Nat, (cutK b s i).1.length ≤ i
  | 0 => by simp [cutK]
  | i + 1 => by
    have ih := cutK_count b s i
    rw [cutK]
    split
    · simp only [List.length_append, List.length_cons, List.length_nil]; omega
    · omega
theorem cutL_len (b s : List UInt8) (hb : 2 ≤ b.length) : (cutL b s).length ≤ 1 ∨ (cutL b s).length ≤ s.length := by
  have := cutK_count b s (s.length + 1 - b.length)
  rw [cutL, List.length_append, List.length_cons, List.length_nil]
  omega
theorem join_part (b : List UInt8) : ∀ (ts : List (List UInt8)) (t : List UInt8), t ∈ ts → t.length ≤ (joinL b ts).length
  | [], t, h => by simp at h
  | [u], t, h => by simp at h; subst h; exact Nat.le_refl _
  | u :: v :: r, t, h => by
    rw [joinL_cons b u (by simp)]
    rcases List.mem_cons.1 h with rfl | h
    · simp only [List.length_append]; omega
    · have := join_part b (v :: r) t h
      simp only [List.length_append]; omega
theorem cutL_part (b s t : List UInt8) (h : t ∈ cutL b s) : t.length ≤ s.length := by
  have := join_part b (cutL b s) t h
  rwa [join_cut] at this
theorem getD_mem {α : Type} {l : List α} {i : Nat} (z : α) (h : i < l.length) : l.getD i z ∈ l := by
  rw [List.getD_eq_getElem?_getD, List.getElem?_eq_getElem h]
  exact List.getElem_mem h
theorem readC_len {t : List UInt8} {ds : List Dd} (h : readC t = some ds) : ds.length ≤ 1 ∨ ds.length ≤ t.length := by
  unfold readC at h
  split at h
  · simp only [Option.some.injEq] at h; subst h; simp
  · rw [seqO_len h]; exact cutL_len _ _ (by simp)
theorem seqO_getD {α β : Type} {f : α → Option β} (z : α) (y : β) : ∀ {l : List α} {ys : List β}, seqO f l = some ys → ∀ i, i < l.length → f (l.getD i z) = some (ys.getD i y)
  | [], ys, h, i, hi => by simp at hi
  | x :: r, ys, h, i, hi => by
    rw [seqO] at h
    split at h
    · cases h
    · rename_i y0 h0
      split at h
      · cases h
      · rename_i ys0 h1
        simp only [Option.some.injEq] at h
        subst h
        cases i with
        | zero => simpa using h0
        | succ i => simpa using seqO_getD z y h1 i (by simpa using hi)
theorem readV_S (l : List UInt8) : readV (fitS l) (gSk (splitL 32 l)) (gSp (splitL 32 l)) (gSv (splitL 32 l)) (gSg (splitL 32 l)) = .tuple #[dV (rdZ l), .bool (rdD l).isSome] := by
  unfold readV rdZ rdD
  cases fitS l <;> rfl
theorem readV_I (l : List UInt8) : readV (fitI l) (gIk l) (gIp l) (gIv l) (gIg l) = .tuple #[dV (rdZ l), .bool (rdD l).isSome] := by
  rw [← readV_S, fit_same]
  cases hf : fitI l
  · rfl
  · obtain ⟨a, b, c, d⟩ := guess_same hf
    rw [a, b, c, d]
theorem rdD_some {t : List UInt8} {b : Bool} (h : (rdD t).isSome = b) : if b = true then rdD t = some (rdZ t) else rdD t = none := by
  cases hq : rdD t with
  | none => rw [hq] at h; subst h; simp
  | some d => rw [hq] at h; subst h; simp [rdZ, hq]
theorem readW_bad {s : List UInt8} (h : readWo s = none) : readW s = none := by rw [readW, h]
theorem readWo_stop {s t : List UInt8} (h : t ∈ cutL [32, 124, 32] s) (hn : readC t = none) : readWo s = none := seqO_none hn h
theorem readC_stop {t p : List UInt8} (h0 : t ≠ [45]) (h : p ∈ cutL [59, 32] t) (hn : rdD p = none) : readC t = none := by
  rw [readC, if_neg h0]; exact seqO_none hn h
end Go.Proofs.YtljamlgnobpjeaaGreatDoor
