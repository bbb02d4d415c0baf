/- Gathered texts. -/
import Derived.Test.YtgakfkjjkobpiaaMH
set_option maxRecDepth 100000
set_option maxHeartbeats 8000000
namespace Go.Proofs.Ytgakfkjjkobpiaa
open Go.ChangeShapes Go.WideShapes Go.ChangeAt Go.RowKit
section
def HdM (v : Value) (n m : Nat) : Prop := ∀ b o l c, v = .slice (some ⟨b, o, none⟩) l c → 0 < n → m ≤ b
structure FreeBd (w : World) (m M : Nat) (v : BV) (dss : List (List Dd)) (b : Bd) : Prop where
  rd : RdBd w v dss b
  ex : ∃ Vw Vn Vr : Nat → Value, HdBd w v Vw Vn Vr dss b ∧ Loose w (bdR7 v Vw Vn Vr dss b) ∧ ∀ x, rowsS (bdR7 v Vw Vn Vr dss b) x → m ≤ x.block ∧ x.block < M
  hd : HdM v.W dss.length m ∧ HdM v.N b.nts.length m ∧ HdM v.R b.rws.length m
theorem FreeBd.keep {w w' : World} {m M : Nat} {v : BV} {dss : List (List Dd)} {b : Bd} (h : FreeBd w m M v dss b) (k : Keep w w') : FreeBd w' m M v dss b := by
  obtain ⟨Vw, Vn, Vr, h1, h2, h3⟩ := h.ex
  exact ⟨h.rd.keep k, ⟨Vw, Vn, Vr, h1.keep k, h2.keep k, h3⟩, h.hd⟩
theorem rowsV_map (s : Nat) (V : Nat → Value) (ln : Nat → Nat) : ∀ n, rowsV s V ln n = (List.range n).map (fun i => (V i, s * ln i))
  | 0 => rfl
  | n + 1 => by rw [rowsV, rowsV_map s V ln n, List.range_succ, List.map_append]; rfl
def bdJ (nw nn nr : Nat) : List BJ := (((((((List.range nw).map BJ.wd ++ [.b .plc]) ++ [.b .lst]) ++ (List.range nn).map (fun c => BJ.b (.nt c))) ++ [.b .nxt]) ++ [.b .sn]) ++ [.b .fr]) ++ (List.range nr).map (fun p => BJ.b (.rw p))
def rowJ (v : BV) (Vw Vn Vr : Nat → Value) (dss : List (List Dd)) (b : Bd) : BJ → Value × Nat
  | .wd c => (Vw c, 4 * (dss.getD c []).length)
  | .b .plc => (v.P, b.plc.length)
  | .b .lst => (v.L, b.lst.length)
  | .b (.nt c) => (Vn c, 3 * (b.nts.getD c []).length)
  | .b .nxt => (v.X, b.nxt.length)
  | .b .sn => (v.S, b.sn.length)
  | .b .fr => (v.F, b.fr.length)
  | .b (.rw p) => (Vr p, 1 * (b.rws.getD p []).length)
  | _ => (v.W, 0)
theorem bdR7_map (v : BV) (Vw Vn Vr : Nat → Value) (dss : List (List Dd)) (b : Bd) : bdR7 v Vw Vn Vr dss b = (bdJ dss.length b.nts.length b.rws.length).map (rowJ v Vw Vn Vr dss b) := by
  unfold bdR7 bdR6 bdR5 bdR4 bdR3 bdR2 bdR1 bdR0 bdJ
  simp only [rowsV_map, List.map_append, List.map_map, List.map_cons, List.map_nil]
  rfl
theorem bdJ_mem {nw nn nr : Nat} {j : BJ} (h : j ∈ bdJ nw nn nr) : (∃ c, c < nw ∧ j = .wd c) ∨ j = .b .plc ∨ j = .b .lst ∨ (∃ c, c < nn ∧ j = .b (.nt c)) ∨ j = .b .nxt ∨ j = .b .sn ∨ j = .b .fr ∨ ∃ p, p < nr ∧ j = .b (.rw p) := by
  unfold bdJ at h
  simp only [List.mem_append, List.mem_map, List.mem_range, List.mem_singleton] at h
  rcases h with ((((((⟨c, hc, rfl⟩ | h) | h) | ⟨c, hc, rfl⟩) | h) | h) | h) | ⟨c, hc, rfl⟩
  · exact .inl ⟨c, hc, rfl⟩
  · exact .inr (.inl h)
  · exact .inr (.inr (.inl h))
  · exact .inr (.inr (.inr (.inl ⟨c, hc, rfl⟩)))
  · exact .inr (.inr (.inr (.inr (.inl h))))
  · exact .inr (.inr (.inr (.inr (.inr (.inl h)))))
  · exact .inr (.inr (.inr (.inr (.inr (.inr (.inl h))))))
  · exact .inr (.inr (.inr (.inr (.inr (.inr (.inr ⟨c, hc, rfl⟩))))))
theorem nodup_map_inj {α β : Type} {f : α → β} {l : List α} (h : l.Nodup) (hf : ∀ a b, f a = f b → a = b) : (l.map f).Nodup := by
  unfold List.Nodup
  rw [List.pairwise_map]
  exact h.imp (fun {a b} hne e => hne (hf a b e))
theorem bdJ_nodup (nw nn nr : Nat) : (bdJ nw nn nr).Nodup := by
  have h1 := nodup_map_inj (f := BJ.wd) (List.nodup_range (n := nw)) (fun a b e => by injection e)
  have h2 := nodup_map_inj (f := fun c => BJ.b (.nt c)) (List.nodup_range (n := nn)) (fun a b e => by injection e with e; injection e)
  have h3 := nodup_map_inj (f := fun c => BJ.b (.rw c)) (List.nodup_range (n := nr)) (fun a b e => by injection e with e; injection e)
  unfold bdJ
  have one : ∀ j : BJ, [j].Nodup := fun j => by simp
  refine List.nodup_append.2 ⟨List.nodup_append.2 ⟨List.nodup_append.2 ⟨List.nodup_append.2 ⟨List.nodup_append.2 ⟨List.nodup_append.2 ⟨List.nodup_append.2 ⟨h1, one _, ?_⟩, one _, ?_⟩, h2, ?_⟩, one _, ?_⟩, one _, ?_⟩, one _, ?_⟩, h3, ?_⟩
  all_goals
    intro x hx y hy e
    subst e
    simp only [List.mem_append, List.mem_map, List.mem_range, List.mem_singleton] at hx hy
    first
      | (subst hy; simp at hx; done)
      | (obtain ⟨q, _, rfl⟩ := hy; simp at hx; done)
theorem Rw.wb {w : World} {m : Nat} {r : Rw} (h : r.own w m) {n : Nat} (hn : n ≤ r.n * r.size) {x : Addr} (hx : rowS r.v n x) : Wb w x ∧ m ≤ x.block ∧ r.v.ownBlock = some x.block := by
  obtain ⟨b, o, l, c, i, e, hi, rfl⟩ := hx
  unfold Rw.own at h
  rcases h.2 with ⟨h1, _⟩ | ⟨g, cap, cur, h1, hb, hg, hc, _, hs, _⟩
  · rw [h1] at e; simp at e
  · rw [h1] at e
    simp only [Value.slice.injEq, Option.some.injEq, Addr.mk.injEq, and_true] at e
    obtain ⟨⟨rfl, rfl⟩, rfl, rfl⟩ := e
    refine ⟨⟨cur, r.e, hg, ?_⟩, hb, by rw [h1]; rfl⟩
    rw [hs]
    have : r.n * r.size ≤ cap * r.size := Nat.mul_le_mul_right _ hc
    show 0 + i < cap * r.size
    omega
theorem Rw.slv {w : World} {m : Nat} {r : Rw} (h : r.own w m) : SlV r.v r.n := by
  unfold Rw.own at h
  rcases h.2 with ⟨h1, h2⟩ | ⟨g, cap, cur, h1, _⟩
  · exact ⟨none, 0, by rw [h1, h2], .inl h2⟩
  · exact ⟨_, cap, h1, .inr ⟨g, 0, rfl⟩⟩
section
variable {w : World} {m : Nat} {v : BV} {nv rv wv : List Value} {dss : List (List Dd)} {b : Bd}
theorem OwnA.row (h : OwnA w m v nv rv wv dss b) {j : BJ} (hj : j ∈ bdJ dss.length b.nts.length b.rws.length) :
    liveA nv rv wv j ∧ (rowJ v (fun i => wv.getD i nilS) (fun i => nv.getD i nilS) (fun i => rv.getD i nilS) dss b j).1 = (famA v nv rv wv dss b j).v ∧
    (rowJ v (fun i => wv.getD i nilS) (fun i => nv.getD i nilS) (fun i => rv.getD i nilS) dss b j).2 ≤ (famA v nv rv wv dss b j).n * (famA v nv rv wv dss b j).size := by
  rcases bdJ_mem hj with ⟨c, hc, rfl⟩ | rfl | rfl | ⟨c, hc, rfl⟩ | rfl | rfl | rfl | ⟨c, hc, rfl⟩
  · exact ⟨by show c < wv.length; rw [h.lw]; exact hc, rfl, by show 4 * (dss.getD c []).length ≤ (dss.getD c []).length * 4; omega⟩
  · exact ⟨⟨trivial, by simp⟩, rfl, by show b.plc.length ≤ b.plc.length * 1; omega⟩
  · exact ⟨⟨trivial, by simp⟩, rfl, by show b.lst.length ≤ b.lst.length * 1; omega⟩
  · exact ⟨⟨by show c < nv.length; rw [h.ln]; exact hc, by simp⟩, rfl, by show 3 * (b.nts.getD c []).length ≤ (b.nts.getD c []).length * 3; omega⟩
  · exact ⟨⟨trivial, by simp⟩, rfl, by show b.nxt.length ≤ b.nxt.length * 1; omega⟩
  · exact ⟨⟨trivial, by simp⟩, rfl, by show b.sn.length ≤ b.sn.length * 1; omega⟩
  · exact ⟨⟨trivial, by simp⟩, rfl, by show b.fr.length ≤ b.fr.length * 1; omega⟩
  · exact ⟨⟨by show c < rv.length; rw [h.lr]; exact hc, by simp⟩, rfl, by show 1 * (b.rws.getD c []).length ≤ (b.rws.getD c []).length * 1; omega⟩
theorem OwnA.heads (h : OwnA w m v nv rv wv dss b) {j : BJ} {t : TypeId} {vs : List Value} {u : Value} (hl : liveA nv rv wv j) (e : famA v nv rv wv dss b j = hdR t vs u) (hj : j ∉ bdJ dss.length b.nts.length b.rws.length) :
    HdL w u (fun i => vs.getD i nilS) vs.length (rowsS (bdR7 v (fun i => wv.getD i nilS) (fun i => nv.getD i nilS) (fun i => rv.getD i nilS) dss b)) := by
  have ho := h.fam.own j hl
  rw [e] at ho
  obtain ⟨a, c, ea, h1⟩ := own_head ho
  refine ⟨a, c, ea, ?_⟩
  rcases h1 with h1 | ⟨g, e1, e2, e3⟩
  · exact .inl (by rw [h1]; rfl)
  · refine .inr ⟨g, 0, e1, e2, fun i hi => ⟨by rw [Nat.zero_add]; exact e3 i hi, ?_⟩⟩
    rintro ⟨r, hr, hx⟩
    rw [bdR7_map, List.mem_map] at hr
    obtain ⟨q, hq, rfl⟩ := hr
    obtain ⟨l1, l2, l3⟩ := h.row hq
    rw [l2] at hx
    obtain ⟨-, -, hb⟩ := Rw.wb (h.fam.own q l1) l3 hx
    have ap := h.fam.apart q j l1 hl (fun e => hj (e ▸ hq))
    rw [hb, e] at ap
    rcases ap with ap | ap
    · cases ap
    · apply ap
      show _ = u.ownBlock
      rw [ea, e1]
      rfl
theorem OwnA.head_ge (h : OwnA w m v nv rv wv dss b) {j : BJ} (hl : liveA nv rv wv j) (n : Nat) : HdM (famA v nv rv wv dss b j).v n m := by
  intro q o l c e _
  exact (h.fam.lt hl q (by rw [e]; rfl)).1
theorem OwnA.free (h : OwnA w m v nv rv wv dss b) : FreeBd w m w.heap.size v dss b := by
  refine ⟨h.rd, ⟨fun i => wv.getD i nilS, fun i => nv.getD i nilS, fun i => rv.getD i nilS, ?_, ⟨?_, ?_⟩, ?_⟩, h.head_ge (j := .wk) trivial _, h.head_ge (j := .b .nts) ⟨trivial, by simp⟩ _, h.head_ge (j := .b .rws) ⟨trivial, by simp⟩ _⟩
  · have hw := h.heads (j := .wk) (t := 72) (vs := wv) (u := v.W) trivial rfl (fun hq => by have := bdJ_mem hq; simp at this)
    have hn := h.heads (j := .b .nts) (t := 36) (vs := nv) (u := v.N) ⟨trivial, by simp⟩ rfl (fun hq => by have := bdJ_mem hq; simp at this)
    have hr := h.heads (j := .b .rws) (t := 25) (vs := rv) (u := v.R) ⟨trivial, by simp⟩ rfl (fun hq => by have := bdJ_mem hq; simp at this)
    rw [h.lw] at hw
    rw [h.ln] at hn
    rw [h.lr] at hr
    exact ⟨hw, fun i hi => Rw.slv (h.fam.own (.wd i) (by show i < wv.length; rw [h.lw]; exact hi)), Rw.slv (h.fam.own (.b .plc) ⟨trivial, by simp⟩), Rw.slv (h.fam.own (.b .lst) ⟨trivial, by simp⟩), hn,
      fun i hi => Rw.slv (h.fam.own (.b (.nt i)) ⟨by show i < nv.length; rw [h.ln]; exact hi, by simp⟩), Rw.slv (h.fam.own (.b .nxt) ⟨trivial, by simp⟩), Rw.slv (h.fam.own (.b .sn) ⟨trivial, by simp⟩), Rw.slv (h.fam.own (.b .fr) ⟨trivial, by simp⟩), hr,
      fun i hi => Rw.slv (h.fam.own (.b (.rw i)) ⟨by show i < rv.length; rw [h.lr]; exact hi, by simp⟩)⟩
  · rintro x ⟨r, hr, hx⟩
    rw [bdR7_map, List.mem_map] at hr
    obtain ⟨q, hq, rfl⟩ := hr
    obtain ⟨l1, l2, l3⟩ := h.row hq
    rw [l2] at hx
    exact (Rw.wb (h.fam.own q l1) l3 hx).1
  · rw [bdR7_map, List.pairwise_map]
    refine List.Pairwise.imp_of_mem (R := fun a b => a ≠ b) (fun {p q} hp hq hne x hx hy => ?_) (bdJ_nodup _ _ _)
    obtain ⟨l1, l2, l3⟩ := h.row hp
    obtain ⟨k1, k2, k3⟩ := h.row hq
    rw [l2] at hx
    rw [k2] at hy
    have a1 := (Rw.wb (h.fam.own p l1) l3 hx).2.2
    have a2 := (Rw.wb (h.fam.own q k1) k3 hy).2.2
    rcases h.fam.apart p q l1 k1 hne with ap | ap
    · rw [a1] at ap; cases ap
    · rw [a1, a2] at ap; exact ap rfl
  · rintro x ⟨r, hr, hx⟩
    rw [bdR7_map, List.mem_map] at hr
    obtain ⟨q, hq, rfl⟩ := hr
    obtain ⟨l1, l2, l3⟩ := h.row hq
    rw [l2] at hx
    have := Rw.wb (h.fam.own q l1) l3 hx
    exact ⟨this.2.1, this.1.lt⟩
end
theorem rd_above {w w' : World} {m : Nat} (hh : ∀ q, m ≤ q → q < w.heap.size → w'.heap[q]? = w.heap[q]?) (hs : w.heap.size ≤ w'.heap.size) {v : Value} {zs : List Int} (h : Rd w v zs) (hr : ∀ x, rowS v zs.length x → m ≤ x.block) : Rd w' v zs := by
  obtain ⟨a, c, rfl, h⟩ := h
  refine ⟨a, c, rfl, ?_⟩
  rcases h with h | ⟨b, o, rfl, hb, hc⟩
  · exact .inl h
  · by_cases hz : zs.length = 0
    · exact .inl (List.eq_nil_of_length_eq_zero hz)
    have hm := hr ⟨b, o + 0, none⟩ ⟨b, o, _, c, 0, rfl, by omega, rfl⟩
    exact .inr ⟨b, o, rfl, Nat.lt_of_lt_of_le hb hs, fun i hi => (World.cell?_of_block (a := ⟨b, o + i, none⟩) (hh b hm hb)).trans (hc i hi)⟩
theorem rdN_above {w w' : World} {m : Nat} (hh : ∀ q, m ≤ q → q < w.heap.size → w'.heap[q]? = w.heap[q]?) (hs : w.heap.size ≤ w'.heap.size) {v : Value} {zs : List Nt} (h : RdN w v zs) (hr : ∀ x, rowS v (3 * zs.length) x → m ≤ x.block) : RdN w' v zs := by
  obtain ⟨a, c, rfl, h⟩ := h
  refine ⟨a, c, rfl, ?_⟩
  rcases h with h | ⟨b, o, rfl, hb, hc⟩
  · exact .inl h
  · by_cases hz : zs.length = 0
    · exact .inl (List.eq_nil_of_length_eq_zero hz)
    have hm := hr ⟨b, o + 0, none⟩ ⟨b, o, _, _, 0, rfl, by omega, rfl⟩
    exact .inr ⟨b, o, rfl, Nat.lt_of_lt_of_le hb hs, fun i x hx => (hc i x hx).same (hh b hm hb)⟩
theorem rdD_above {w w' : World} {m : Nat} (hh : ∀ q, m ≤ q → q < w.heap.size → w'.heap[q]? = w.heap[q]?) (hs : w.heap.size ≤ w'.heap.size) {v : Value} {zs : List Dd} (h : RdD w v zs) (hr : ∀ x, rowS v (4 * zs.length) x → m ≤ x.block) : RdD w' v zs := by
  obtain ⟨a, c, rfl, h⟩ := h
  refine ⟨a, c, rfl, ?_⟩
  rcases h with h | ⟨b, o, rfl, hb, hc⟩
  · exact .inl h
  · by_cases hz : zs.length = 0
    · exact .inl (List.eq_nil_of_length_eq_zero hz)
    have hm := hr ⟨b, o + 0, none⟩ ⟨b, o, _, _, 0, rfl, by omega, rfl⟩
    refine .inr ⟨b, o, rfl, Nat.lt_of_lt_of_le hb hs, fun i hi => ?_⟩
    obtain ⟨c0, c1, c2, c3⟩ := hc i hi
    have e := hh b hm hb
    exact ⟨(World.cell?_of_block (a := ⟨b, _, none⟩) e).trans c0, (World.cell?_of_block (a := ⟨b, _, none⟩) e).trans c1, (World.cell?_of_block (a := ⟨b, _, none⟩) e).trans c2, (World.cell?_of_block (a := ⟨b, _, none⟩) e).trans c3⟩
theorem hd_above {w w' : World} {m : Nat} (hh : ∀ q, m ≤ q → q < w.heap.size → w'.heap[q]? = w.heap[q]?) (hs : w.heap.size ≤ w'.heap.size) {v : Value} {V : Nat → Value} {n : Nat} {S : Addr → Prop} (h : HdL w v V n S) (hm : HdM v n m) : HdL w' v V n S := by
  obtain ⟨a, c, rfl, h⟩ := h
  refine ⟨a, c, rfl, ?_⟩
  rcases h with h | ⟨b, o, rfl, hb, hc⟩
  · exact .inl h
  · by_cases hz : n = 0
    · exact .inl hz
    · exact .inr ⟨b, o, rfl, Nat.lt_of_lt_of_le hb hs, fun i hi => ⟨(World.cell?_of_block (a := ⟨b, o + i, none⟩) (hh b (hm b o n c rfl (by omega)) hb)).trans (hc i hi).1, (hc i hi).2⟩⟩
theorem row_in {v : BV} {Vw Vn Vr : Nat → Value} {dss : List (List Dd)} {b : Bd} {j : BJ} (hj : j ∈ bdJ dss.length b.nts.length b.rws.length) {x : Addr} (hx : rowS (rowJ v Vw Vn Vr dss b j).1 (rowJ v Vw Vn Vr dss b j).2 x) : rowsS (bdR7 v Vw Vn Vr dss b) x :=
  ⟨_, by rw [bdR7_map]; exact List.mem_map.2 ⟨j, hj, rfl⟩, hx⟩
theorem bdJ_w {nw nn nr c : Nat} (h : c < nw) : BJ.wd c ∈ bdJ nw nn nr := by simp [bdJ, h]
theorem bdJ_n {nw nn nr c : Nat} (h : c < nn) : BJ.b (.nt c) ∈ bdJ nw nn nr := by simp [bdJ, h]
theorem bdJ_r {nw nn nr c : Nat} (h : c < nr) : BJ.b (.rw c) ∈ bdJ nw nn nr := by simp [bdJ, h]
theorem FreeBd.above {w w' : World} {m M : Nat} {v : BV} {dss : List (List Dd)} {b : Bd} (h : FreeBd w m M v dss b) (hh : ∀ q, m ≤ q → q < w.heap.size → w'.heap[q]? = w.heap[q]?) (hs : w.heap.size ≤ w'.heap.size) : FreeBd w' m M v dss b := by
  obtain ⟨Vw, Vn, Vr, H, L, G⟩ := h.ex
  obtain ⟨d1, d2, d3⟩ := h.hd
  have gr : ∀ j, j ∈ bdJ dss.length b.nts.length b.rws.length → ∀ x, rowS (rowJ v Vw Vn Vr dss b j).1 (rowJ v Vw Vn Vr dss b j).2 x → m ≤ x.block := fun j hj x hx => (G x (row_in hj hx)).1
  refine ⟨⟨?_, rd_above hh hs h.rd.P (gr (.b .plc) (by simp [bdJ])), rd_above hh hs h.rd.L (gr (.b .lst) (by simp [bdJ])), ?_, rd_above hh hs h.rd.X (gr (.b .nxt) (by simp [bdJ])), rd_above hh hs h.rd.S (gr (.b .sn) (by simp [bdJ])), rd_above hh hs h.rd.F (gr (.b .fr) (by simp [bdJ])), ?_⟩, ⟨Vw, Vn, Vr, ⟨hd_above hh hs H.hW d1, H.sW, H.sP, H.sL, hd_above hh hs H.hN d2, H.sN, H.sX, H.sS, H.sF, hd_above hh hs H.hR d3, H.sR⟩, ⟨fun x hx => ?_, L.ap⟩, G⟩, h.hd⟩
  · obtain ⟨a, c, e, hw⟩ := h.rd.W
    refine ⟨a, c, e, ?_⟩
    rcases hw with hw | ⟨q, o, rfl, hq, hc⟩
    · exact .inl hw
    · by_cases hz : dss.length = 0
      · exact .inl (List.eq_nil_of_length_eq_zero hz)
      obtain ⟨a', c', e', H1⟩ := H.hW
      rw [e] at e'
      simp only [Value.slice.injEq, true_and] at e'
      obtain ⟨rfl, rfl⟩ := e'
      rcases H1 with H1 | ⟨q', o', e2, _, H2⟩
      · exact absurd H1 hz
      simp only [Option.some.injEq, Addr.mk.injEq, and_true] at e2
      obtain ⟨rfl, rfl⟩ := e2
      refine .inr ⟨q, o, rfl, Nat.lt_of_lt_of_le hq hs, fun i hi => ?_⟩
      obtain ⟨vi, h1, h2⟩ := hc i hi
      have ev : vi = Vw i := by have := h1.symm.trans (H2 i hi).1; exact Option.some.inj this
      subst ev
      exact ⟨_, (World.cell?_of_block (a := ⟨q, o + i, none⟩) (hh q (d1 q o _ _ e (by omega)) hq)).trans h1, rdD_above hh hs h2 (gr (.wd i) (bdJ_w hi))⟩
  · obtain ⟨a, c, e, hw⟩ := h.rd.N
    refine ⟨a, c, e, ?_⟩
    rcases hw with hw | ⟨q, o, rfl, hq, hc⟩
    · exact .inl hw
    · by_cases hz : b.nts.length = 0
      · exact .inl (List.eq_nil_of_length_eq_zero hz)
      obtain ⟨a', c', e', H1⟩ := H.hN
      rw [e] at e'
      simp only [Value.slice.injEq, true_and] at e'
      obtain ⟨rfl, rfl⟩ := e'
      rcases H1 with H1 | ⟨q', o', e2, _, H2⟩
      · exact absurd H1 hz
      simp only [Option.some.injEq, Addr.mk.injEq, and_true] at e2
      obtain ⟨rfl, rfl⟩ := e2
      refine .inr ⟨q, o, rfl, Nat.lt_of_lt_of_le hq hs, fun i hi => ?_⟩
      obtain ⟨vi, h1, h2⟩ := hc i hi
      have ev : vi = Vn i := by have := h1.symm.trans (H2 i hi).1; exact Option.some.inj this
      subst ev
      exact ⟨_, (World.cell?_of_block (a := ⟨q, o + i, none⟩) (hh q (d2 q o _ _ e (by omega)) hq)).trans h1, rdN_above hh hs h2 (gr (.b (.nt i)) (bdJ_n hi))⟩
  · obtain ⟨a, c, e, hw⟩ := h.rd.R
    refine ⟨a, c, e, ?_⟩
    rcases hw with hw | ⟨q, o, rfl, hq, hc⟩
    · exact .inl hw
    · by_cases hz : b.rws.length = 0
      · exact .inl (List.eq_nil_of_length_eq_zero hz)
      obtain ⟨a', c', e', H1⟩ := H.hR
      rw [e] at e'
      simp only [Value.slice.injEq, true_and] at e'
      obtain ⟨rfl, rfl⟩ := e'
      rcases H1 with H1 | ⟨q', o', e2, _, H2⟩
      · exact absurd H1 hz
      simp only [Option.some.injEq, Addr.mk.injEq, and_true] at e2
      obtain ⟨rfl, rfl⟩ := e2
      refine .inr ⟨q, o, rfl, Nat.lt_of_lt_of_le hq hs, fun i hi => ?_⟩
      obtain ⟨vi, h1, h2⟩ := hc i hi
      have ev : vi = Vr i := by have := h1.symm.trans (H2 i hi).1; exact Option.some.inj this
      subst ev
      exact ⟨_, (World.cell?_of_block (a := ⟨q, o + i, none⟩) (hh q (d3 q o _ _ e (by omega)) hq)).trans h1, rd_above hh hs h2 (fun x hx => gr (.b (.rw i)) (bdJ_r hi) x (by show rowS _ (1 * _) x; rw [Nat.one_mul]; exact hx))⟩
  · obtain ⟨cur, t, h1, h2⟩ := L.wb x hx
    exact ⟨cur, t, (hh _ (G x hx).1 (L.wb x hx).lt).trans h1, h2⟩
end
end Go.Proofs.Ytgakfkjjkobpiaa
