/- Gathered texts. -/
import Derived.Test.YtgakfkjjkobpiaaGreatMR
import Derived.BigRegion
import Derived.RegionTactic
import Derived.Defers
import Derived.Recover
import Derived.Lib.Hide
import Derived.Laws.Rows
import Derived.Deep.Cut
set_option maxRecDepth 100000
set_option maxHeartbeats 8000000
namespace Go.Proofs.YtgakfkjjkobpiaaGreat
open Go.ChangeShapes Go.WideShapes Go.ChangeAt Go.RowKit
abbrev noteO (p x l : Int) : Obj := .cells #[.int .i64 p, .int .i64 x, .int .i64 l] 44
theorem note_info : (Tryz.prog.info? 44).map (·.size) = some 3 := by kernel_rfl
abbrev put3W (w : World) (B : Nat) (a0 a1 a2 : Value) : World := ((w.setCell ⟨B, 0, none⟩ a0).setCell ⟨B, 1, none⟩ a1).setCell ⟨B, 2, none⟩ a2
theorem set3 {w : World} {B : Nat} {T : TypeId} {b0 b1 b2 : Value} (h : w.heap[B]? = some (.cells #[b0, b1, b2] T)) (a0 a1 a2 : Value) :
    (put3W w B a0 a1 a2).heap[B]? = some (.cells #[a0, a1, a2] T) := by
  have h0 := heap_setCell_same w B 0 _ _ a0 h
  have h1 := heap_setCell_same _ B 1 _ _ a1 h0
  exact heap_setCell_same _ B 2 _ _ a2 h1
theorem keepS {w wr : World} (h : Keep w wr) {g : Nat} (hg : w.heap.size ≤ g) (i : Nat) (x : Value) : Keep w (wr.setCell ⟨g, i, none⟩ x) :=
  h.grown (row := some g) ⟨rfl, rfl, rfl, by simp, fun k _ hk => heap_setCell_other wr ⟨g, i, none⟩ k x (fun e => hk (by simp [e]))⟩ (fun k hk => by simp at hk; omega)
theorem keep3 {w wr : World} (h : Keep w wr) {g : Nat} (hg : w.heap.size ≤ g) (a0 a1 a2 : Value) : Keep w (put3W wr g a0 a1 a2) := keepS (keepS (keepS h hg 0 a0) hg 1 a1) hg 2 a2
theorem standingAt_any (w : World) (v : BV) (dss : List (List Dd)) (b : Bd) (p : Nat) (h : RdBd w v dss b) (hp : p < b.plc.length) (hq : p < b.lst.length) :
    Calls Tryz.prog 79 #[v.agg, .int .i64 p] w fun e w' => e = .returned (.agg #[.int .i64 p, .int .i64 (b.plc.getD p 0), .int .i64 (b.lst.getD p 0)]) ∧ Keep w w' := by
  obtain ⟨aW, aP, aL, aN, aX, aS, aF, aR, cW, cP, cL, cN, cX, cS, cF, cR, rfl⟩ := h.shapes
  obtain ⟨w1, hw1⟩ : ∃ W : World, W = (w.alloc (.cells #[.slice aW dss.length cW, .slice aP b.plc.length cP, .slice aL b.lst.length cL, .slice aN b.nts.length cN, .slice aX b.nxt.length cX, .slice aS b.sn.length cS, .slice aF b.fr.length cF, .slice aR b.rws.length cR] 30)).alloc (noteO 0 0 0) := ⟨_, rfl⟩
  have K1 : Keep w w1 := by rw [hw1]; exact ((Keep.refl w).alloc _).alloc _
  have s1 : w1.heap.size = w.heap.size + 2 := by rw [hw1, heap_size, heap_size]
  have hR1 : w1.heap[w.heap.size + 1]? = some (.cells #[.int .i64 0, .int .i64 0, .int .i64 0] 44 (0, 0)) := by
    rw [hw1, ← heap_size w (.cells #[.slice aW dss.length cW, .slice aP b.plc.length cP, .slice aL b.lst.length cL, .slice aN b.nts.length cN, .slice aX b.nxt.length cX, .slice aS b.sn.length cS, .slice aF b.fr.length cF, .slice aR b.rws.length cR] 30)]; exact heap_alloc_new _ _
  have hB1 : w1.heap[w.heap.size]? = some (.cells #[.slice aW dss.length cW, .slice aP b.plc.length cP, .slice aL b.lst.length cL, .slice aN b.nts.length cN, .slice aX b.nxt.length cX, .slice aS b.sn.length cS, .slice aF b.fr.length cF, .slice aR b.rws.length cR] 30 (0, 0)) := by rw [hw1]; exact (Below.block ((Keep.refl _).alloc _) _ (by rw [heap_size]; omega)).trans (heap_alloc_new _ _)
  have h' := h.keep K1
  obtain ⟨a', c', he', hP⟩ := h'.P
  simp only [Value.slice.injEq, true_and] at he'
  obtain ⟨rfl, rfl⟩ := he'
  rcases hP with h0 | ⟨bp, op, rfl, hbp, hcp⟩
  · exfalso; rw [h0] at hp; simp at hp
  obtain ⟨a', c', he', hL⟩ := h'.L
  simp only [Value.slice.injEq, true_and] at he'
  obtain ⟨rfl, rfl⟩ := he'
  rcases hL with h0 | ⟨bl, ol, rfl, hbl, hcl⟩
  · exfalso; rw [h0] at hq; simp at hq
  have d1 := hcp p hp
  have d2 := hcl p hq
  have f1 : w1.cell? ⟨w.heap.size, 1, none⟩ = some (.slice (some ⟨bp, op, none⟩) b.plc.length cP) := by rw [cell_of_row w1 _ 1 _ _ _ hB1]; rfl
  have f2 : w1.cell? ⟨w.heap.size, 2, none⟩ = some (.slice (some ⟨bl, ol, none⟩) b.lst.length cL) := by rw [cell_of_row w1 _ 2 _ _ _ hB1]; rfl
  have g0 : w1.cell? ⟨w.heap.size + 1, 0, none⟩ = some (.int .i64 0) := by rw [cell_of_row w1 _ 0 _ _ _ hR1]; rfl
  have g1 : w1.cell? ⟨w.heap.size + 1, 1, none⟩ = some (.int .i64 0) := by rw [cell_of_row w1 _ 1 _ _ _ hR1]; rfl
  have g2 : w1.cell? ⟨w.heap.size + 1, 2, none⟩ = some (.int .i64 0) := by rw [cell_of_row w1 _ 2 _ _ _ hR1]; rfl
  have hfr := fun j => frozen_of_row w1 (w.heap.size + 1) j _ _ hR1
  have i1 : (0 : Int) ≤ (p : Int) := Int.natCast_nonneg _
  have i2 : (p : Int) < (b.plc.length : Int) := by omega
  have i3 : (p : Int) < (b.lst.length : Int) := by omega
  generalize b.plc.getD p 0 = xp at *
  generalize b.lst.getD p 0 = xl at *
  have S := fun (W : World) (e : W.heap = w1.heap) => set3 (w := W) (B := w.heap.size + 1) (by rw [e]; exact hR1) (.int .i64 p) (.int .i64 xp) (.int .i64 xl)
  have HS := Lib.hid S
  clear S hcp hcl h h'
  go_enter Tryz.func79, Tryz.ntmps79
  go_upto_region 1 with fail
  rw [← hw1]
  clear hw1 hB1 hR1
  go_region
  go_wp2
  refine bodyPost_ret (results_row (by rfl) _ _ (w.heap.size + 1) _ _ _ _ rfl (HS.out w1 rfl) Tryz.underlying44 rfl note_info) rfl ?_
  exact ⟨rfl, (keep3 K1 (by omega) _ _ _).drew⟩
theorem set3_cells {w : World} {B : Nat} {T : TypeId} {a0 a1 a2 : Value} (h : w.heap[B]? = some (.cells #[a0, a1, a2] T)) : w.cell? ⟨B, 0, none⟩ = some a0 ∧ w.cell? ⟨B, 1, none⟩ = some a1 ∧ w.cell? ⟨B, 2, none⟩ = some a2 ∧ ∀ j, w.frozen? ⟨B, j, none⟩ = false :=
  ⟨by rw [cell_of_row w _ 0 _ _ _ h]; rfl, by rw [cell_of_row w _ 1 _ _ _ h]; rfl, by rw [cell_of_row w _ 2 _ _ _ h]; rfl, fun j => frozen_of_row w B j _ _ h⟩
theorem seenBy_any (w : World) (v : BV) (dss : List (List Dd)) (b : Bd) (c p : Nat) (h : RdBd w v dss b) (hc : c < b.nts.length) (hp : p < b.plc.length) (hq : p < b.lst.length) (hz : SzBd dss b) :
    Calls Tryz.prog 43 #[v.agg, .int .i64 c, .int .i64 p] w fun e w' => ∃ y : Nt, e = .returned (.agg #[.int .i64 y.1, .int .i64 y.2.1, .int .i64 y.2.2]) ∧ y.2 = rdgM b c p ∧ Keep w w' := by
  obtain ⟨aW, aP, aL, aN, aX, aS, aF, aR, cW, cP, cL, cN, cX, cS, cF, cR, rfl⟩ := h.shapes
  have CS := fun (W : World) (kW : Keep w W) => standingAt_any W _ dss b p (h.keep kW) hp hq
  have HA := Lib.hid (seenK_all b c p)
  have hzn := hz.n2 c hc
  obtain ⟨w1, hw1⟩ : ∃ W : World, W = (w.alloc (.cells #[.slice aW dss.length cW, .slice aP b.plc.length cP, .slice aL b.lst.length cL, .slice aN b.nts.length cN, .slice aX b.nxt.length cX, .slice aS b.sn.length cS, .slice aF b.fr.length cF, .slice aR b.rws.length cR] 30)).alloc (noteO 0 0 0) := ⟨_, rfl⟩
  have K1 : Keep w w1 := by rw [hw1]; exact ((Keep.refl w).alloc _).alloc _
  have s1 : w1.heap.size = w.heap.size + 2 := by rw [hw1, heap_size, heap_size]
  have hR1 : w1.heap[w.heap.size + 1]? = some (.cells #[.int .i64 0, .int .i64 0, .int .i64 0] 44 (0, 0)) := by
    rw [hw1, ← heap_size w (.cells #[.slice aW dss.length cW, .slice aP b.plc.length cP, .slice aL b.lst.length cL, .slice aN b.nts.length cN, .slice aX b.nxt.length cX, .slice aS b.sn.length cS, .slice aF b.fr.length cF, .slice aR b.rws.length cR] 30)]; exact heap_alloc_new _ _
  have hB1 : w1.heap[w.heap.size]? = some (.cells #[.slice aW dss.length cW, .slice aP b.plc.length cP, .slice aL b.lst.length cL, .slice aN b.nts.length cN, .slice aX b.nxt.length cX, .slice aS b.sn.length cS, .slice aF b.fr.length cF, .slice aR b.rws.length cR] 30 (0, 0)) := by rw [hw1]; exact (Below.block ((Keep.refl _).alloc _) _ (by rw [heap_size]; omega)).trans (heap_alloc_new _ _)
  have h' := h.keep K1
  obtain ⟨a', c', he', hN⟩ := h'.N
  simp only [Value.slice.injEq, true_and] at he'
  obtain ⟨rfl, rfl⟩ := he'
  rcases hN with h0 | ⟨bn, on, rfl, hbn, hcn⟩
  · exfalso; rw [h0] at hc; simp at hc
  obtain ⟨vn, d3, r3⟩ := hcn c hc
  obtain ⟨an, cn, rfl, r3⟩ := r3
  clear hcn h h' hz
  generalize b.nts.getD c [] = ns at *
  generalize b.plc.getD p 0 = xp at *
  generalize b.lst.getD p 0 = xl at *
  generalize rdgM b c p = ANS at *
  have i1 : (0 : Int) ≤ (c : Int) := Int.natCast_nonneg _
  have i2 : (c : Int) < (b.nts.length : Int) := by omega
  go_enter Tryz.func43, Tryz.ntmps43
  go_upto_region 1 with fail
  rw [← hw1]
  clear hw1
  go_wp2_with (first | refine wpList_load_row rfl 30 _ rfl w.heap.size rfl 30 _ (0, 0) _ hB1 Tryz.underlying30 rfl board_info ?_ | fail)
  refine (CS _ K1).mono ?_
  rintro e w2 ⟨rfl, k2⟩
  have K2 := K1.trans k2
  have z2 := k2.size
  have hB2 := (Below.block k2 w.heap.size (by omega)).trans hB1
  have hR2 := (Below.block k2 (w.heap.size + 1) (by omega)).trans hR1
  obtain ⟨w3, hw3⟩ : ∃ W : World, W = w2.alloc (noteO p xp xl) := ⟨_, rfl⟩
  have k3 : Keep w2 w3 := by rw [hw3]; exact (Keep.refl w2).alloc _
  have z3 : w3.heap.size = w2.heap.size + 1 := by rw [hw3, heap_size]
  have hS3 : w3.heap[w2.heap.size]? = some (.cells #[.int .i64 p, .int .i64 xp, .int .i64 xl] 44 (0, 0)) := by rw [hw3]; exact heap_alloc_new _ _
  have f3 : w3.cell? ⟨w.heap.size, 3, none⟩ = some (.slice (some ⟨bn, on, none⟩) b.nts.length cN) := by rw [k3.cell (by omega), cell_of_row w2 _ 3 _ _ _ hB2]; rfl
  have d4 := ((k2.trans k3).cell hbn).trans d3
  have hbn3 : bn < w3.heap.size := by omega
  clear hB1 hB2 hR1 CS d3
  go_upto_region 2 with fail
  rw [← hw3]
  clear hw3
  go_wp2
  go_loopw [19] (fun i wr => ∃ k : Nat, ∃ y : Nt, k ≤ ns.length ∧ i = .int .i64 k ∧ Hid (y = seenK ns (p : Int) ((p : Int), xp, xl) k) ∧ wr.heap[w2.heap.size]? = some (.cells #[.int .i64 y.1, .int .i64 y.2.1, .int .i64 y.2.2] 44 (0, 0)) ∧ Keep w2 wr ∧ w2.heap.size < wr.heap.size) (fun i _ => ns.length - (intOf i).toNat)
  case atStart => exact ⟨0, ((p : Int), xp, xl), Nat.zero_le _, rfl, Lib.hid rfl, hS3, k3, by omega⟩
  case round =>
    obtain ⟨k, y, hk, rfl, hY, hS, hK, zr⟩ := hrel
    by_cases hlt : k < ns.length
    · rcases r3 with h | ⟨bq, oq, rfl, hbq, hcq⟩
      · exfalso; rw [h] at hlt; simp at hlt
      obtain ⟨g0, g1, g2⟩ := atN (hcq k _ (nts_get hlt))
      have q0 := ((k2.trans hK).cell hbq).trans g0
      have q1 := ((k2.trans hK).cell hbq).trans g1
      have q2 := ((k2.trans hK).cell hbq).trans g2
      have HM := Lib.hid (seenK_more ns (p : Int) ((p : Int), xp, xl) k hlt)
      have hbw : bq < wr.heap.size := by have := hK.size; omega
      have j1 : (0 : Int) ≤ (k : Int) := Int.natCast_nonneg _
      have j2 : (k : Int) < (ns.length : Int) := by omega
      clear hcq g0 g1 g2
      change Hid (_ = if (ns.getD k zN).1 = _ then ns.getD k zN else _) at HM
      generalize ns.getD k zN = x at *
      obtain ⟨x0, x1, x2⟩ := x
      obtain ⟨y0, y1, y2⟩ := y
      simp only at q0 q1 q2 HM hS
      obtain ⟨w4, hw4⟩ : ∃ W : World, W = wr.alloc (noteO x0 x1 x2) := ⟨_, rfl⟩
      have k4 : Keep wr w4 := by rw [hw4]; exact (Keep.refl wr).alloc _
      have z4 : w4.heap.size = wr.heap.size + 1 := by rw [hw4, heap_size]
      obtain ⟨n0, n1, n2, -⟩ := set3_cells (w := w4) (B := wr.heap.size) (T := 44) (a0 := .int .i64 x0) (a1 := .int .i64 x1) (a2 := .int .i64 x2) (by rw [hw4]; exact heap_alloc_new _ _)
      have hS4 := (Below.block k4 _ zr).trans hS
      obtain ⟨m0, m1, m2, hfr⟩ := set3_cells hS4
      have S := set3 hS4 (.int .i64 x0) (.int .i64 x1) (.int .i64 x2)
      have KS := keep3 (hK.trans k4) (Nat.le_refl w2.heap.size) (.int .i64 x0) (.int .i64 x1) (.int .i64 x2)
      by_cases t : x0 = (p : Int)
      · have HE : Hid (seenK ns (p : Int) ((p : Int), xp, xl) (k + 1) = (x0, x1, x2)) := Lib.hid (by rw [HM.out, if_pos t])
        subst t
        go_upto_region 5 with fail
        rw [← hw4]
        clear hw4 HM hY
        go_wp2
        go_roundw
        case rel => exact ⟨k + 1, ((p : Int), x1, x2), by omega, by go_num, Lib.hid HE.out.symm, S, KS, by simp; omega⟩
        case measure => simp [intOf]; omega
      · have HE : Hid (seenK ns (p : Int) ((p : Int), xp, xl) (k + 1) = (y0, y1, y2)) := Lib.hid (by rw [HM.out, if_neg t, ← hY.out])
        have t' : (x0 == (p : Int)) = false := by simpa using t
        clear S KS
        go_upto_region 5 with fail
        rw [← hw4]
        clear hw4 HM hY t
        go_wp2
        go_roundw
        case rel => exact ⟨k + 1, (y0, y1, y2), by omega, by go_num, Lib.hid HE.out.symm, hS4, hK.trans k4, by omega⟩
        case measure => simp [intOf]; omega
    have HE : Hid (y.2 = ANS) := Lib.hid (by rw [← HA.out, hY.out, show k = ns.length by omega])
    obtain rfl : k = ns.length := by omega
    clear hY HA
    obtain ⟨y0, y1, y2⟩ := y
    obtain ⟨n0, n1, n2, -⟩ := set3_cells hS
    have hR3 := (Below.block hK (w.heap.size + 1) (by omega)).trans hR2
    obtain ⟨m0, m1, m2, hfr⟩ := set3_cells hR3
    have S := set3 hR3 (.int .i64 y0) (.int .i64 y1) (.int .i64 y2)
    have KS := keep3 (K2.trans hK) (g := w.heap.size + 1) (by omega) (.int .i64 y0) (.int .i64 y1) (.int .i64 y2)
    simp only at n0 n1 n2
    go_wp2
    refine bodyPost_ret (results_row (by rfl) _ _ (w.heap.size + 1) _ _ _ _ rfl S Tryz.underlying44 rfl note_info) rfl ?_
    exact ⟨y0, y1, y2, rfl, HE.out, KS⟩
theorem rdg_idle (p0 p1 : Addr) (w : World) : CallsD Tryz.prog 39 #[.pointer (some p0), .pointer (some p1)] .returning w fun e u' w' => e = .returned (.tuple #[]) ∧ u' = .returning ∧ w' = w := by
  refine callsD_of_wpS Tryz.func39 rfl fun c₀ cs hu => ?_
  apply wpS_seq
  apply wpS_region
  have hn : ∀ w : World, (binOp BinOp.neq 20 .nilIface .nilIface).run Tryz.prog w = .ok (.bool false) w := fun _ => by kernel_rfl
  simp [wpOpsS, go_sem, recoverD, hu, Tryz.ntmps39, Exit.thenS, hn]
  refine wpS_cond (t := false) (by simp [Act.eval, Array.replicate]) ?_
  simp only [Bool.false_eq_true, if_false]
  refine wpS_of_wp (wp_skip ?_)
  cases c₀
  simp_all [bodyPostS, results, Tryz.results39]
theorem rdg_hit (g g' : Nat) (hne : g' ≠ g) (w : World) (x x' : Value) (hg : w.heap[g]? = some (.cells #[x] 2 (0, 0))) (hg' : w.heap[g']? = some (.cells #[x'] 2 (0, 0))) :
    CallsD Tryz.prog 39 #[.pointer (some ⟨g, 0, none⟩), .pointer (some ⟨g', 0, none⟩)] (.panicking [{ v := pnV, recovered := false }]) w fun e u' w' => e = .returned (.tuple #[]) ∧ u' = .panicking [{ v := pnV, recovered := true }] ∧ w' = (w.setCell ⟨g, 0, none⟩ (.int .i64 (-1))).setCell ⟨g', 0, none⟩ (.int .i64 (-1)) := by
  have hc : w.cell? ⟨g, 0, none⟩ = some x := by rw [cell_of_row w g 0 _ _ _ hg]; rfl
  have hf : w.frozen? ⟨g, 0, none⟩ = false := frozen_of_row w g 0 _ _ hg
  have hg2 : (w.setCell ⟨g, 0, none⟩ (.int .i64 (-1))).heap[g']? = some (.cells #[x'] 2 (0, 0)) := (heap_setCell_other w ⟨g, 0, none⟩ g' _ hne).trans hg'
  have hc2 : (w.setCell ⟨g, 0, none⟩ (.int .i64 (-1))).cell? ⟨g', 0, none⟩ = some x' := by rw [cell_of_row _ g' 0 _ _ _ hg2]; rfl
  have hf2 : (w.setCell ⟨g, 0, none⟩ (.int .i64 (-1))).frozen? ⟨g', 0, none⟩ = false := frozen_of_row _ g' 0 _ _ hg2
  have hv : ∀ w : World, (binOp BinOp.neq 20 pnV .nilIface).run Tryz.prog w = .ok (.bool true) w := fun _ => by kernel_rfl
  refine callsD_of_wpS Tryz.func39 rfl fun c₀ cs hu => ?_
  apply wpS_seq
  apply wpS_region
  simp [wpOpsS, go_sem, recoverD, hu, Tryz.ntmps39, Exit.thenS, hv]
  refine wpS_cond (t := true) (by simp [Act.eval, Array.replicate]) ?_
  simp only [if_true]
  refine wpS_of_wp ?_
  go_wp2
  cases c₀
  simp_all [bodyPostS, results, Tryz.results39]
theorem rdg_end (w2 : World) (g g' : Nat) (hne : g' ≠ g) (x x' : Value) (hg : w2.heap[g]? = some (.cells #[x] 2 (0, 0))) (hg' : w2.heap[g']? = some (.cells #[x'] 2 (0, 0))) {w : World} (K : Keep w w2) (l1 : w.heap.size ≤ g) (l2 : w.heap.size ≤ g') (a a' : Int) :
    ((w2.setCell ⟨g, 0, none⟩ (.int .i64 a)).setCell ⟨g', 0, none⟩ (.int .i64 a')).cell? ⟨g, 0, none⟩ = some (.int .i64 a) ∧ ((w2.setCell ⟨g, 0, none⟩ (.int .i64 a)).setCell ⟨g', 0, none⟩ (.int .i64 a')).cell? ⟨g', 0, none⟩ = some (.int .i64 a') ∧ Keep w ((w2.setCell ⟨g, 0, none⟩ (.int .i64 a)).setCell ⟨g', 0, none⟩ (.int .i64 a')) := by
  have h1 := heap_setCell_same w2 g 0 _ _ (.int .i64 a) hg
  have h2 : (w2.setCell ⟨g, 0, none⟩ (.int .i64 a)).heap[g']? = some (.cells #[x'] 2 (0, 0)) := (heap_setCell_other w2 ⟨g, 0, none⟩ g' _ hne).trans hg'
  have h3 := heap_setCell_same _ g' 0 _ _ (.int .i64 a') h2
  have h4 := (heap_setCell_other (w2.setCell ⟨g, 0, none⟩ (.int .i64 a)) ⟨g', 0, none⟩ g (.int .i64 a') (fun e => hne e.symm)).trans h1
  exact ⟨by rw [cell_of_row _ _ 0 _ _ _ h4]; rfl, by rw [cell_of_row _ _ 0 _ _ _ h3]; rfl, keepS (keepS K l1 0 _) l2 0 _⟩
theorem implReading_any (w : World) (v : BV) (dss : List (List Dd)) (b : Bd) (c p : Int) (h : RdBd w v dss b) (hz : SzBd dss b) :
    Calls Tryz.prog 10 #[v.agg, .int .i64 c, .int .i64 p] w fun e w' => e = .returned (.tuple #[.int .i64 (rdgB dss b c p).1, .int .i64 (rdgB dss b c p).2]) ∧ Keep w w' := by
  obtain ⟨aW, aP, aL, aN, aX, aS, aF, aR, cW, cP, cL, cN, cX, cS, cF, cR, rfl⟩ := h.shapes
  have C := fun (W : World) (kW : Keep w W) => mustRight_any W _ dss b (h.keep kW) hz
  have HD : Hid (rdgB dss b c p = if boardB dss b = true ∧ 0 ≤ c ∧ c < (dss.length : Int) ∧ 0 ≤ p ∧ p ≤ 2 then rdgM b c.toNat p.toNat else (-1, -1)) := Lib.hid rfl
  have HH := Lib.hid h
  have HZ := Lib.hid hz
  have hw1l := hz.w1
  clear h hz
  have hmf : ∀ (fn : Fn) (first cap : Array Value) (w : World), (Instr.makeFunc fn first cap).run Tryz.prog w = .ok (.func fn first cap) w := fun _ _ _ _ => rfl
  obtain ⟨w1, hw1⟩ : ∃ W : World, W = (((w.alloc (.cells #[.slice aW dss.length cW, .slice aP b.plc.length cP, .slice aL b.lst.length cL, .slice aN b.nts.length cN, .slice aX b.nxt.length cX, .slice aS b.sn.length cS, .slice aF b.fr.length cF, .slice aR b.rws.length cR] 30)).alloc (.cells #[.int .i64 0] 2)).alloc (.cells #[.int .i64 0] 2)) := ⟨_, rfl⟩
  have K1 : Keep w w1 := by rw [hw1]; exact (((Keep.refl w).alloc _).alloc _).alloc _
  have s1 : w1.heap.size = w.heap.size + 3 := by rw [hw1, heap_size, heap_size, heap_size]
  have hR1 : w1.heap[w.heap.size + 1]? = some (.cells #[.int .i64 0] 2 (0, 0)) := by
    rw [hw1, heap_at, if_neg (by rw [heap_size, heap_size]; omega), heap_at, if_pos (by rw [heap_size])]
  have hV1 : w1.heap[w.heap.size + 2]? = some (.cells #[.int .i64 0] 2 (0, 0)) := by
    rw [hw1, heap_at, if_pos (by rw [heap_size, heap_size])]
  have hB1 : w1.heap[w.heap.size]? = some (.cells #[.slice aW dss.length cW, .slice aP b.plc.length cP, .slice aL b.lst.length cL, .slice aN b.nts.length cN, .slice aX b.nxt.length cX, .slice aS b.sn.length cS, .slice aF b.fr.length cF, .slice aR b.rws.length cR] 30 (0, 0)) := by
    rw [hw1, heap_at, if_neg (by rw [heap_size, heap_size]; omega), heap_at, if_neg (by rw [heap_size]; omega), heap_at, if_pos rfl]
  go_enter_defers Tryz.func10, Tryz.ntmps10
  go_upto_region 2 with fail
  rw [← hw1]
  clear hw1
  go_wp2_with (first | refine wpList_load_row rfl 30 _ rfl w.heap.size rfl 30 _ (0, 0) _ hB1 Tryz.underlying30 rfl board_info ?_ | fail)
  refine (C _ K1).mono ?_
  rintro e w2 ⟨rfl, k2⟩
  have K2 := K1.trans k2
  have z2 := k2.size
  have hR2 := (Below.block k2 (w.heap.size + 1) (by omega)).trans hR1
  have hV2 := (Below.block k2 (w.heap.size + 2) (by omega)).trans hV1
  have hB2 := (Below.block k2 w.heap.size (by omega)).trans hB1
  clear hR1 hV1 hB1 C
  cases hb : boardB dss b
  · rw [mustE_no rfl]
    have HE : Hid (rdgB dss b c p = (-1, -1)) := Lib.hid (by rw [HD.out, hb]; simp)
    obtain ⟨hc1, hc2, KZ⟩ := rdg_end w2 (w.heap.size + 1) (w.heap.size + 2) (by omega) _ _ hR2 hV2 K2 (by omega) (by omega) (-1) (-1)
    go_wp2
    refine leaves_cons (f := 39) (args := #[.pointer (some ⟨w.heap.size + 1, 0, none⟩), .pointer (some ⟨w.heap.size + 2, 0, none⟩)]) (by simp) (by simp [go_sem]) ?_
    refine (rdg_hit _ _ (by omega) _ _ _ hR2 hV2).mono ?_
    rintro e u' w9 ⟨rfl, rfl, rfl⟩
    simp [Leaves, settle, results, Tryz.results10, go_sem, hc1, hc2]
    exact ⟨⟨by rw [HE.out], by rw [HE.out]⟩, KZ⟩
  rw [mustE_yes rfl]
  have f0 : w2.cell? ⟨w.heap.size, 0, none⟩ = some (.slice aW dss.length cW) := by rw [cell_of_row w2 _ 0 _ _ _ hB2]; rfl
  have el : IntKind.i64.wrap ((dss.length : Int) - 1) = (dss.length : Int) - 1 := by rw [IntKind.wrap_i64]; omega
  go_wp2_with fail
  refine (isFrom_any _ _ _ _).mono ?_
  rintro e w3 ⟨rfl, rfl⟩
  cases hc : inB c 0 ((dss.length : Int) - 1)
  · go_wp2_with fail
    refine (must_no _).mono ?_
    rintro e w3 ⟨rfl, rfl⟩
    have HE : Hid (rdgB dss b c p = (-1, -1)) := Lib.hid (by rw [HD.out, if_neg]; rintro ⟨_, h1, h2, _⟩; unfold inB at hc; simp at hc; omega)
    obtain ⟨hc1, hc2, KZ⟩ := rdg_end w3 (w.heap.size + 1) (w.heap.size + 2) (by omega) _ _ hR2 hV2 K2 (by omega) (by omega) (-1) (-1)
    go_wp2
    refine leaves_cons (f := 39) (args := #[.pointer (some ⟨w.heap.size + 1, 0, none⟩), .pointer (some ⟨w.heap.size + 2, 0, none⟩)]) (by simp) (by simp [go_sem]) ?_
    refine (rdg_hit _ _ (by omega) _ _ _ hR2 hV2).mono ?_
    rintro e u' w9 ⟨rfl, rfl, rfl⟩
    simp [Leaves, settle, results, Tryz.results10, go_sem, hc1, hc2]
    exact ⟨⟨by rw [HE.out], by rw [HE.out]⟩, KZ⟩
  go_wp2_with fail
  refine (must_yes _).mono ?_
  rintro e w3 ⟨rfl, rfl⟩
  go_wp2_with fail
  refine (isFrom_any _ _ _ _).mono ?_
  rintro e w3 ⟨rfl, rfl⟩
  cases hp : inB p 0 2
  · go_wp2_with fail
    refine (must_no _).mono ?_
    rintro e w3 ⟨rfl, rfl⟩
    have HE : Hid (rdgB dss b c p = (-1, -1)) := Lib.hid (by rw [HD.out, if_neg]; rintro ⟨_, _, _, h1, h2⟩; unfold inB at hp; simp at hp; omega)
    obtain ⟨hc1, hc2, KZ⟩ := rdg_end w3 (w.heap.size + 1) (w.heap.size + 2) (by omega) _ _ hR2 hV2 K2 (by omega) (by omega) (-1) (-1)
    go_wp2
    refine leaves_cons (f := 39) (args := #[.pointer (some ⟨w.heap.size + 1, 0, none⟩), .pointer (some ⟨w.heap.size + 2, 0, none⟩)]) (by simp) (by simp [go_sem]) ?_
    refine (rdg_hit _ _ (by omega) _ _ _ hR2 hV2).mono ?_
    rintro e u' w9 ⟨rfl, rfl, rfl⟩
    simp [Leaves, settle, results, Tryz.results10, go_sem, hc1, hc2]
    exact ⟨⟨by rw [HE.out], by rw [HE.out]⟩, KZ⟩
  go_wp2_with fail
  refine (must_yes _).mono ?_
  rintro e w3 ⟨rfl, rfl⟩
  have hc' : 0 ≤ c ∧ c ≤ (dss.length : Int) - 1 := by unfold inB at hc; simpa using hc
  have hp' : 0 ≤ p ∧ p ≤ 2 := by unfold inB at hp; simpa using hp
  have HE : Hid (rdgB dss b c p = rdgM b c.toNat p.toNat) := Lib.hid (by rw [HD.out, if_pos ⟨hb, by omega, by omega, hp'.1, hp'.2⟩])
  obtain ⟨c, rfl⟩ := Int.eq_ofNat_of_zero_le hc'.1
  obtain ⟨p, rfl⟩ := Int.eq_ofNat_of_zero_le hp'.1
  rw [Int.toNat_natCast, Int.toNat_natCast] at HE
  obtain ⟨s2, s3, s4⟩ := board_use hb
  have CS := seenBy_any w3 _ dss b c p (HH.out.keep K2) (by omega) (by omega) (by omega) HZ.out
  clear hc hp hc' hp' HD HH HZ s2 s3 s4 hb f0 el
  generalize rdgM b c p = ANS at *
  go_wp2_with (first | refine wpList_load_row rfl 30 _ rfl w.heap.size rfl 30 _ (0, 0) _ hB2 Tryz.underlying30 rfl board_info ?_ | fail)
  refine CS.mono ?_
  rintro e w4 ⟨⟨y0, y1, y2⟩, rfl, hA, k4⟩
  have K4 := K2.trans k4
  have z4 := k4.size
  have hR4 := (Below.block k4 (w.heap.size + 1) (by omega)).trans hR2
  have hV4 := (Below.block k4 (w.heap.size + 2) (by omega)).trans hV2
  simp only at hA
  subst hA
  obtain ⟨w5, hw5⟩ : ∃ W : World, W = w4.alloc (noteO y0 y1 y2) := ⟨_, rfl⟩
  have k5 : Keep w4 w5 := by rw [hw5]; exact (Keep.refl w4).alloc _
  have K5 := K4.trans k5
  obtain ⟨n0, n1, n2, -⟩ := set3_cells (w := w5) (B := w4.heap.size) (T := 44) (a0 := .int .i64 y0) (a1 := .int .i64 y1) (a2 := .int .i64 y2) (by rw [hw5]; exact heap_alloc_new _ _)
  have hR5 := (Below.block k5 (w.heap.size + 1) (by omega)).trans hR4
  have hV5 := (Below.block k5 (w.heap.size + 2) (by omega)).trans hV4
  have g0 : w5.cell? ⟨w.heap.size + 1, 0, none⟩ = some (.int .i64 0) := by rw [cell_of_row w5 _ 0 _ _ _ hR5]; rfl
  have g1 : w5.cell? ⟨w.heap.size + 2, 0, none⟩ = some (.int .i64 0) := by rw [cell_of_row w5 _ 0 _ _ _ hV5]; rfl
  have hf0 := frozen_of_row w5 (w.heap.size + 1) 0 _ _ hR5
  have hf1 := frozen_of_row w5 (w.heap.size + 2) 0 _ _ hV5
  obtain ⟨hc1, hc2, KZ⟩ := rdg_end w5 (w.heap.size + 1) (w.heap.size + 2) (by omega) _ _ hR5 hV5 K5 (by omega) (by omega) y1 y2
  have HQ := Lib.hid (And.intro hc1 hc2)
  clear hB2 hR2 hV2 hR4 hV4 hc1 hc2
  go_upto_region 6 with fail
  rw [← hw5]
  clear hw5
  go_region
  go_wp2
  refine leaves_cons (f := 39) (args := #[.pointer (some ⟨w.heap.size + 1, 0, none⟩), .pointer (some ⟨w.heap.size + 2, 0, none⟩)]) (by simp) (by simp [go_sem]) ?_
  refine (rdg_idle _ _ _).mono ?_
  rintro e u' w9 ⟨rfl, rfl, rfl⟩
  have hc1 := HQ.out.1
  have hc2 := HQ.out.2
  simp [Leaves, settle, results, Tryz.results10, go_sem, hc1, hc2]
  exact ⟨⟨by rw [HE.out], by rw [HE.out]⟩, KZ.drew⟩
theorem shn_idle (p0 : Addr) (w : World) : CallsD Tryz.prog 45 #[.pointer (some p0)] .returning w fun e u' w' => e = .returned (.tuple #[]) ∧ u' = .returning ∧ w' = w := by
  refine callsD_of_wpS Tryz.func45 rfl fun c₀ cs hu => ?_
  apply wpS_seq
  apply wpS_region
  have hn : ∀ w : World, (binOp BinOp.neq 20 .nilIface .nilIface).run Tryz.prog w = .ok (.bool false) w := fun _ => by kernel_rfl
  simp [wpOpsS, go_sem, recoverD, hu, Tryz.ntmps45, Exit.thenS, hn]
  refine wpS_cond (t := false) (by simp [Act.eval, Array.replicate]) ?_
  simp only [Bool.false_eq_true, if_false]
  refine wpS_of_wp (wp_skip ?_)
  cases c₀
  simp_all [bodyPostS, results, Tryz.results45]
theorem shn_hit (g : Nat) (w : World) (x : Value) (hg : w.heap[g]? = some (.cells #[x] 26 (0, 0))) : CallsD Tryz.prog 45 #[.pointer (some ⟨g, 0, none⟩)] (.panicking [{ v := pnV, recovered := false }]) w fun e u' w' => e = .returned (.tuple #[]) ∧ u' = .panicking [{ v := pnV, recovered := true }] ∧ w' = (w.alloc (.cells #[] 2)).setCell ⟨g, 0, none⟩ (.slice (some ⟨w.heap.size, 0, none⟩) 0 0) := by
  have hl : g < w.heap.size := (Array.getElem?_eq_some_iff.1 hg).1
  have hg2 := (Below.block ((Keep.refl w).alloc (.cells #[] 2)) g hl).trans hg
  have hc : (w.alloc (.cells #[] 2)).cell? ⟨g, 0, none⟩ = some x := by rw [cell_of_row _ g 0 _ _ _ hg2]; rfl
  have hf : (w.alloc (.cells #[] 2)).frozen? ⟨g, 0, none⟩ = false := frozen_of_row _ g 0 _ _ hg2
  have hv : ∀ w : World, (binOp BinOp.neq 20 pnV .nilIface).run Tryz.prog w = .ok (.bool true) w := fun _ => by kernel_rfl
  refine callsD_of_wpS Tryz.func45 rfl fun c₀ cs hu => ?_
  apply wpS_seq
  apply wpS_region
  simp [wpOpsS, go_sem, recoverD, hu, Tryz.ntmps45, Exit.thenS, hv]
  refine wpS_cond (t := true) (by simp [Act.eval, Array.replicate]) ?_
  simp only [if_true]
  refine wpS_of_wp ?_
  go_wp2
  cases c₀
  simp_all [bodyPostS, results, Tryz.results45]
  exact (World.setCell_alloc_past _ _ _ _ hl).symm
theorem shn_set {w wr : World} {v : Value} {zs : List Int} {x : Value} (O : Own wr (w.heap.size + 2) v zs) (K : Keep w wr) (hg : wr.heap[w.heap.size + 1]? = some (.cells #[x] 26 (0, 0))) :
    (wr.setCell ⟨w.heap.size + 1, 0, none⟩ v).cell? ⟨w.heap.size + 1, 0, none⟩ = some v ∧ (wr.setCell ⟨w.heap.size + 1, 0, none⟩ v).heap[w.heap.size + 1]? = some (.cells #[v] 26 (0, 0)) ∧ Own (wr.setCell ⟨w.heap.size + 1, 0, none⟩ v) (w.heap.size + 2) v zs ∧ Keep w (wr.setCell ⟨w.heap.size + 1, 0, none⟩ v) ∧ wr.cell? ⟨w.heap.size + 1, 0, none⟩ = some x ∧ wr.frozen? ⟨w.heap.size + 1, 0, none⟩ = false := by
  have hS := heap_setCell_same wr (w.heap.size + 1) 0 _ _ v hg
  refine ⟨by rw [cell_of_row _ _ 0 _ _ _ hS]; rfl, hS, World.ownsRow.kept O (grown_set wr (w.heap.size + 1) 0 v) ?_, K.grown (grown_set wr (w.heap.size + 1) 0 v) (fun k hk => by have := Option.some.inj hk; omega), by rw [cell_of_row _ _ 0 _ _ _ hg]; rfl, frozen_of_row wr _ 0 _ _ hg⟩
  cases e : v.ownBlock with
  | none => exact .inl rfl
  | some k => exact .inr (fun e' => by have := O.ge k e; have := Option.some.inj e'; omega)
theorem implShownBoard_any (w : World) (v : BV) (dss : List (List Dd)) (b : Bd) (h : RdBd w v dss b) (hz : SzBd dss b) :
    Calls Tryz.prog 12 #[v.agg] w fun e w' => ∃ v', e = .returned v' ∧ Row w' w.heap.size v' (shownB dss b) ∧ Keep w w' := by
  obtain ⟨aW, aP, aL, aN, aX, aS, aF, aR, cW, cP, cL, cN, cX, cS, cF, cR, rfl⟩ := h.shapes
  have C := fun (W : World) (kW : Keep w W) => mustRight_any W _ dss b (h.keep kW) hz
  have HS := Lib.hid h.S
  have HP := Lib.hid h.P
  have z1 := hz.sn
  have z2 := hz.plc
  clear h hz
  have HD : Hid (shownB dss b = if boardB dss b = true then b.sn ++ b.plc else []) := Lib.hid rfl
  have hmf : ∀ (fn : Fn) (first cap : Array Value) (w : World), (Instr.makeFunc fn first cap).run Tryz.prog w = .ok (.func fn first cap) w := fun _ _ _ _ => rfl
  obtain ⟨w1, hw1⟩ : ∃ W : World, W = ((w.alloc (.cells #[.slice aW dss.length cW, .slice aP b.plc.length cP, .slice aL b.lst.length cL, .slice aN b.nts.length cN, .slice aX b.nxt.length cX, .slice aS b.sn.length cS, .slice aF b.fr.length cF, .slice aR b.rws.length cR] 30)).alloc (.cells #[.slice none 0 0] 26)) := ⟨_, rfl⟩
  have K1 : Keep w w1 := by rw [hw1]; exact ((Keep.refl w).alloc _).alloc _
  have s1 : w1.heap.size = w.heap.size + 2 := by rw [hw1, heap_size, heap_size]
  have hR1 : w1.heap[w.heap.size + 1]? = some (.cells #[.slice none 0 0] 26 (0, 0)) := by
    rw [hw1, ← heap_size w (.cells #[.slice aW dss.length cW, .slice aP b.plc.length cP, .slice aL b.lst.length cL, .slice aN b.nts.length cN, .slice aX b.nxt.length cX, .slice aS b.sn.length cS, .slice aF b.fr.length cF, .slice aR b.rws.length cR] 30)]; exact heap_alloc_new _ _
  have hB1 : w1.heap[w.heap.size]? = some (.cells #[.slice aW dss.length cW, .slice aP b.plc.length cP, .slice aL b.lst.length cL, .slice aN b.nts.length cN, .slice aX b.nxt.length cX, .slice aS b.sn.length cS, .slice aF b.fr.length cF, .slice aR b.rws.length cR] 30 (0, 0)) := by rw [hw1]; exact (Below.block ((Keep.refl _).alloc _) _ (by rw [heap_size]; omega)).trans (heap_alloc_new _ _)
  go_enter_defers Tryz.func12, Tryz.ntmps12
  go_upto_region 2 with fail
  rw [← hw1]
  clear hw1
  go_wp2_with (first | refine wpList_load_row rfl 30 _ rfl w.heap.size rfl 30 _ (0, 0) _ hB1 Tryz.underlying30 rfl board_info ?_ | fail)
  refine (C _ K1).mono ?_
  rintro e w2 ⟨rfl, k2⟩
  have K2 := K1.trans k2
  have hsz := k2.size
  have hR2 := (Below.block k2 (w.heap.size + 1) (by omega)).trans hR1
  have hB2 := (Below.block k2 w.heap.size (by omega)).trans hB1
  have k3 : Keep w2 (w2.alloc (.cells #[] 2)) := (Keep.refl w2).alloc _
  have O3 : Own (w2.alloc (.cells #[] 2)) (w.heap.size + 2) (.slice (some ⟨w2.heap.size, 0, none⟩) 0 0) [] := World.ownsRow_lit w2 #[] 0 (by omega) (by decide) rfl
  have hR3 := (Below.block k3 (w.heap.size + 1) (by omega)).trans hR2
  have hB3 := (Below.block k3 w.heap.size (by omega)).trans hB2
  have K3 := K2.trans k3
  have hsz3 := k3.size
  clear hR1 hB1 hB2 C
  cases hb : boardB dss b
  · rw [mustE_no rfl]
    have HE : Hid (shownB dss b = []) := Lib.hid (by rw [HD.out, hb]; rfl)
    obtain ⟨hc, -, OZ, KZ, -, -⟩ := shn_set O3 K3 hR3
    go_wp2
    refine leaves_cons (f := 45) (args := #[.pointer (some ⟨w.heap.size + 1, 0, none⟩)]) (by simp) (by simp [go_sem]) ?_
    refine (shn_hit _ _ _ hR2).mono ?_
    rintro e u' w9 ⟨rfl, rfl, rfl⟩
    simp [Leaves, settle, results, Tryz.results12, go_sem, hc]
    exact ⟨by rw [HE.out]; exact (OZ.base_le (by omega)).row, KZ⟩
  · rw [mustE_yes rfl]
    have HE : Hid (shownB dss b = b.sn ++ b.plc) := Lib.hid (by rw [HD.out, hb]; rfl)
    clear HD hb hR2
    obtain ⟨w3, hw3⟩ : ∃ W : World, W = w2.alloc (.cells #[] 2) := ⟨_, rfl⟩
    rw [← hw3] at O3 hR3 hB3 K3 k3 hsz3
    have f5 : w3.cell? ⟨w.heap.size, 5, none⟩ = some (.slice aS b.sn.length cS) := by rw [cell_of_row w3 _ 5 _ _ _ hB3]; rfl
    have f5' : (w2.alloc (.cells #[] 2)).cell? ⟨w.heap.size, 5, none⟩ = some (.slice aS b.sn.length cS) := by rw [← hw3]; exact f5
    go_wp2_with (at_builtin; rw [← hw3]; refine wpList_append_rd rfl _ _ rfl (w.heap.size + 2) _ [] rfl O3 _ rfl b.sn (HS.out.keep K3) (by simp) z1 (by omega) ?_)
    intro v4 w4 O4 g4 _
    rw [← hw3] at g4
    have hge : ∀ k, some w2.heap.size = some k → w.heap.size + 2 ≤ k := fun k hk => by have := Option.some.inj hk; omega
    have K4 : Keep w w4 := K3.grown g4 (fun k hk => by have := hge k hk; omega)
    have hR4 : w4.heap[w.heap.size + 1]? = some (.cells #[.slice none 0 0] 26 (0, 0)) := (g4.block _ (by omega) (fun e => by have := hge _ e.symm; omega)).trans hR3
    have hB4 := (g4.block w.heap.size (by omega) (fun e => by have := hge _ e.symm; omega)).trans hB3
    have hsz4 := g4.size
    clear hR3 hB3 O3 f5 f5' hw3 g4
    obtain ⟨a4, x4, rfl, -⟩ := id O4.rd
    obtain ⟨hc4, hS5, O5, K5, c4, fr4⟩ := shn_set O4 K4 hR4
    have hB5 := (heap_setCell_other w4 ⟨w.heap.size + 1, 0, none⟩ w.heap.size (.slice a4 b.sn.length x4) (by show w.heap.size ≠ w.heap.size + 1; omega)).trans hB4
    have hsz5 : w4.heap.size = (w4.setCell ⟨w.heap.size + 1, 0, none⟩ (.slice a4 b.sn.length x4)).heap.size := by simp
    go_upto_region 4 with fail
    generalize w4.setCell ⟨w.heap.size + 1, 0, none⟩ (.slice a4 b.sn.length x4) = w5 at *
    have f1 : w5.cell? ⟨w.heap.size, 1, none⟩ = some (.slice aP b.plc.length cP) := by rw [cell_of_row w5 _ 1 _ _ _ hB5]; rfl
    clear c4 fr4 O4 hR4 hB4
    go_wp2_with (at_builtin; refine wpList_append_rd rfl _ _ rfl (w.heap.size + 2) _ b.sn rfl O5 _ rfl b.plc (HP.out.keep K5) z1 z2 (by omega) ?_)
    intro v6 w6 O6 g6 _
    have K6 : Keep w w6 := K5.grown g6 (fun k hk => by have := O5.ge k hk; omega)
    have hR6 : w6.heap[w.heap.size + 1]? = some (.cells #[.slice a4 b.sn.length x4] 26 (0, 0)) := (g6.block _ (by omega) (fun e => by have := O5.ge _ e.symm; omega)).trans hS5
    clear hS5 hB5 O5 f1 g6 hc4
    generalize b.sn ++ b.plc = out at O6 HE
    obtain ⟨a6, x6, rfl, -⟩ := id O6.rd
    obtain ⟨hc, -, O7, K7, c6, fr6⟩ := shn_set O6 K6 hR6
    clear hR6 O6
    go_wp2
    refine leaves_cons (f := 45) (args := #[.pointer (some ⟨w.heap.size + 1, 0, none⟩)]) (by simp) (by simp [go_sem]) ?_
    refine (shn_idle _ _).mono ?_
    rintro e u' w9 ⟨rfl, rfl, rfl⟩
    simp [Leaves, settle, results, Tryz.results12, go_sem, hc]
    exact ⟨by rw [HE.out]; exact (O7.base_le (by omega)).row, K7⟩
theorem isEnded_any (w : World) (v : BV) (dss : List (List Dd)) (b : Bd) (h : RdBd w v dss b) (hd : dss.length ≤ 1048576) (hx : dss.length ≤ b.nxt.length) (hn : dss.length ≤ b.nts.length) :
    Calls Tryz.prog 51 #[v.agg] w fun e w' => e = .returned (.bool (endZ dss b)) ∧ Keep w w' := by
  obtain ⟨aW, aP, aL, aN, aX, aS, aF, aR, cW, cP, cL, cN, cX, cS, cF, cR, rfl⟩ := h.shapes
  have KW : Keep w (w.alloc (.cells #[.slice aW dss.length cW, .slice aP b.plc.length cP, .slice aL b.lst.length cL, .slice aN b.nts.length cN, .slice aX b.nxt.length cX, .slice aS b.sn.length cS, .slice aF b.fr.length cF, .slice aR b.rws.length cR] 30)) := (Keep.refl w).alloc _
  have c0 : (w.alloc (.cells #[.slice aW dss.length cW, .slice aP b.plc.length cP, .slice aL b.lst.length cL, .slice aN b.nts.length cN, .slice aX b.nxt.length cX, .slice aS b.sn.length cS, .slice aF b.fr.length cF, .slice aR b.rws.length cR] 30)).cell? ⟨w.heap.size, 0, none⟩ = some (.slice aW dss.length cW) := box_cell (Keep.refl _) 0
  have c3 : (w.alloc (.cells #[.slice aW dss.length cW, .slice aP b.plc.length cP, .slice aL b.lst.length cL, .slice aN b.nts.length cN, .slice aX b.nxt.length cX, .slice aS b.sn.length cS, .slice aF b.fr.length cF, .slice aR b.rws.length cR] 30)).cell? ⟨w.heap.size, 3, none⟩ = some (.slice aN b.nts.length cN) := box_cell (Keep.refl _) 3
  have c4 : (w.alloc (.cells #[.slice aW dss.length cW, .slice aP b.plc.length cP, .slice aL b.lst.length cL, .slice aN b.nts.length cN, .slice aX b.nxt.length cX, .slice aS b.sn.length cS, .slice aF b.fr.length cF, .slice aR b.rws.length cR] 30)).cell? ⟨w.heap.size, 4, none⟩ = some (.slice aX b.nxt.length cX) := box_cell (Keep.refl _) 4
  have h' := h.keep KW
  go_enter Tryz.func51, Tryz.ntmps51
  go_wp2
  generalize (w.alloc (.cells #[.slice aW dss.length cW, .slice aP b.plc.length cP, .slice aL b.lst.length cL, .slice aN b.nts.length cN, .slice aX b.nxt.length cX, .slice aS b.sn.length cS, .slice aF b.fr.length cF, .slice aR b.rws.length cR] 30)) = w1 at *
  have HH := Lib.hid h'
  clear h h'
  go_loopw [3, 4, 8] (fun _ _ i wr => ∃ k : Nat, k ≤ dss.length ∧ i = .int .i64 k ∧ Hid (∀ j, j < k → (decide (((dss.getD j []).length : Int) ≤ b.nxt.getD j 0) && (b.nts.getD j []).isEmpty) = true) ∧ wr = w1) (fun _ _ i _ => dss.length - (intOf i).toNat)
  case atStart => exact ⟨0, Nat.zero_le _, rfl, Lib.hid (fun j hj => absurd hj (Nat.not_lt_zero _)), rfl⟩
  case round =>
    obtain ⟨k, hk, rfl, hno, rfl⟩ := hrel
    by_cases hlt : k < dss.length
    · have lX : k < b.nxt.length := by omega
      have lN : k < b.nts.length := by omega
      obtain ⟨a', c', he', hX⟩ := HH.out.X
      simp only [Value.slice.injEq, true_and] at he'
      obtain ⟨rfl, rfl⟩ := he'
      rcases hX with h0 | ⟨bx, ox, rfl, hbx, hcx⟩
      · exfalso; rw [h0] at lX; simp at lX
      obtain ⟨a', c', he', hW⟩ := HH.out.W
      simp only [Value.slice.injEq, true_and] at he'
      obtain ⟨rfl, rfl⟩ := he'
      rcases hW with h0 | ⟨bw, ow, rfl, hbw, hcw⟩
      · exfalso; rw [h0] at hlt; simp at hlt
      obtain ⟨a', c', he', hN⟩ := HH.out.N
      simp only [Value.slice.injEq, true_and] at he'
      obtain ⟨rfl, rfl⟩ := he'
      rcases hN with h0 | ⟨bn, on, rfl, hbn, hcn⟩
      · exfalso; rw [h0] at lN; simp at lN
      have d1 := hcx k lX
      obtain ⟨vw, d2, r2⟩ := hcw k hlt
      obtain ⟨vn, d3, r3⟩ := hcn k lN
      have HF : (decide (((dss.getD k []).length : Int) ≤ b.nxt.getD k 0) && (b.nts.getD k []).isEmpty) = false → Hid (endZ dss b = false) := fun e => Lib.hid (all_range_false hlt e)
      have HT : (decide (((dss.getD k []).length : Int) ≤ b.nxt.getD k 0) && (b.nts.getD k []).isEmpty) = true → Hid (∀ j, j < k + 1 → (decide (((dss.getD j []).length : Int) ≤ b.nxt.getD j 0) && (b.nts.getD j []).isEmpty) = true) := fun e => Lib.hid (fun j hj => by
        by_cases e' : j = k
        · rw [e']; exact e
        · exact hno.out j (by omega))
      obtain ⟨aw, cw, rfl, -⟩ := r2
      obtain ⟨an, cn, rfl, -⟩ := r3
      generalize b.nxt.getD k 0 = x at d1 HF HT
      generalize (dss.getD k []).length = wl at d2 HF HT
      generalize b.nts.getD k [] = ns at d3 HF HT
      have j1 : (0 : Int) ≤ (k : Int) := Int.natCast_nonneg _
      have j2 : (k : Int) < (dss.length : Int) := by omega
      have j3 : (k : Int) < (b.nxt.length : Int) := by omega
      have j4 : (k : Int) < (b.nts.length : Int) := by omega
      clear hcx hcw hcn hno HH
      by_cases t1 : x < (wl : Int)
      · have HE := HF (by rw [decide_eq_false (by omega)]; rfl)
        clear HF HT
        go_wp2
        go_ret
        exact ⟨by rw [HE.out]; rfl, KW⟩
      have t1' : decide (x < (wl : Int)) = false := decide_eq_false t1
      by_cases t2 : 0 < ns.length
      · have HE := HF (by
          have : ns.isEmpty = false := by cases ns with | nil => simp at t2 | cons _ _ => rfl
          rw [this]; simp)
        have t2' : decide (0 < ns.length) = true := decide_eq_true t2
        clear HF HT t1
        go_wp2
        go_ret
        exact ⟨by rw [HE.out]; rfl, KW⟩
      · have HE := HT (by
          have : ns.isEmpty = true := by cases ns with | nil => rfl | cons _ _ => simp at t2
          rw [this, decide_eq_true (by omega)]; rfl)
        have t2' : decide (0 < ns.length) = false := decide_eq_false t2
        clear HF HT t1 t2
        go_wp2
        go_roundw
        case rel => exact ⟨k + 1, by omega, by go_num, HE, trivial⟩
        case measure => simp [intOf]; omega
    · obtain rfl : k = dss.length := by omega
      have HE : Hid (endZ dss b = true) := Lib.hid (all_range_true hno.out)
      go_wp2
      go_ret
      exact ⟨by rw [HE.out]; rfl, KW⟩
theorem ended_idle (p0 : Addr) (w : World) : CallsD Tryz.prog 50 #[.pointer (some p0)] .returning w fun e u' w' => e = .returned (.tuple #[]) ∧ u' = .returning ∧ w' = w := by
  refine callsD_of_wpS Tryz.func50 rfl fun c₀ cs hu => ?_
  apply wpS_seq
  apply wpS_region
  have hn : ∀ w : World, (binOp BinOp.neq 20 .nilIface .nilIface).run Tryz.prog w = .ok (.bool false) w := fun _ => by kernel_rfl
  simp [wpOpsS, go_sem, recoverD, hu, Tryz.ntmps50, Exit.thenS, hn]
  refine wpS_cond (t := false) (by simp [Act.eval, Array.replicate]) ?_
  simp only [Bool.false_eq_true, if_false]
  refine wpS_of_wp (wp_skip ?_)
  cases c₀
  simp_all [bodyPostS, results, Tryz.results50]
theorem ended_hit (g : Nat) (w : World) (x : Value) (hg : w.heap[g]? = some (.cells #[x] 4 (0, 0))) : CallsD Tryz.prog 50 #[.pointer (some ⟨g, 0, none⟩)] (.panicking [{ v := pnV, recovered := false }]) w fun e u' w' => e = .returned (.tuple #[]) ∧ u' = .panicking [{ v := pnV, recovered := true }] ∧ w' = w.setCell ⟨g, 0, none⟩ (.bool false) := by
  have hc : w.cell? ⟨g, 0, none⟩ = some x := by rw [cell_of_row w g 0 _ _ _ hg]; rfl
  have hf : w.frozen? ⟨g, 0, none⟩ = false := frozen_of_row w g 0 _ _ hg
  have hv : ∀ w : World, (binOp BinOp.neq 20 pnV .nilIface).run Tryz.prog w = .ok (.bool true) w := fun _ => by kernel_rfl
  refine callsD_of_wpS Tryz.func50 rfl fun c₀ cs hu => ?_
  apply wpS_seq
  apply wpS_region
  simp [wpOpsS, go_sem, recoverD, hu, Tryz.ntmps50, Exit.thenS, hv]
  refine wpS_cond (t := true) (by simp [Act.eval, Array.replicate]) ?_
  simp only [if_true]
  refine wpS_of_wp ?_
  go_wp2
  cases c₀
  simp_all [bodyPostS, results, Tryz.results50]
theorem implEnded_any (w : World) (v : BV) (dss : List (List Dd)) (b : Bd) (h : RdBd w v dss b) (hz : SzBd dss b) :
    Calls Tryz.prog 15 #[v.agg] w fun e w' => e = .returned (.bool (endedB dss b)) ∧ Keep w w' := by
  obtain ⟨aW, aP, aL, aN, aX, aS, aF, aR, cW, cP, cL, cN, cX, cS, cF, cR, rfl⟩ := h.shapes
  have C := fun (W : World) (kW : Keep w W) => mustRight_any W _ dss b (h.keep kW) hz
  have HH := Lib.hid h
  have HZ := Lib.hid hz
  clear h hz
  have hmf : ∀ (fn : Fn) (first cap : Array Value) (w : World), (Instr.makeFunc fn first cap).run Tryz.prog w = .ok (.func fn first cap) w := fun _ _ _ _ => rfl
  obtain ⟨w1, hw1⟩ : ∃ W : World, W = ((w.alloc (.cells #[.slice aW dss.length cW, .slice aP b.plc.length cP, .slice aL b.lst.length cL, .slice aN b.nts.length cN, .slice aX b.nxt.length cX, .slice aS b.sn.length cS, .slice aF b.fr.length cF, .slice aR b.rws.length cR] 30)).alloc (.cells #[.bool false] 4)) := ⟨_, rfl⟩
  have K1 : Keep w w1 := by rw [hw1]; exact ((Keep.refl w).alloc _).alloc _
  have s1 : w1.heap.size = w.heap.size + 2 := by rw [hw1, heap_size, heap_size]
  have hR1 : w1.heap[w.heap.size + 1]? = some (.cells #[.bool false] 4 (0, 0)) := by
    rw [hw1, ← heap_size w (.cells #[.slice aW dss.length cW, .slice aP b.plc.length cP, .slice aL b.lst.length cL, .slice aN b.nts.length cN, .slice aX b.nxt.length cX, .slice aS b.sn.length cS, .slice aF b.fr.length cF, .slice aR b.rws.length cR] 30)]; exact heap_alloc_new _ _
  have hB1 : w1.heap[w.heap.size]? = some (.cells #[.slice aW dss.length cW, .slice aP b.plc.length cP, .slice aL b.lst.length cL, .slice aN b.nts.length cN, .slice aX b.nxt.length cX, .slice aS b.sn.length cS, .slice aF b.fr.length cF, .slice aR b.rws.length cR] 30 (0, 0)) := by rw [hw1]; exact (Below.block ((Keep.refl _).alloc _) _ (by rw [heap_size]; omega)).trans (heap_alloc_new _ _)
  go_enter_defers Tryz.func15, Tryz.ntmps15
  go_upto_region 2 with fail
  rw [← hw1]
  clear hw1
  go_wp2_with (first | refine wpList_load_row rfl 30 _ rfl w.heap.size rfl 30 _ (0, 0) _ hB1 Tryz.underlying30 rfl board_info ?_ | fail)
  refine (C _ K1).mono ?_
  rintro e w2 ⟨rfl, k2⟩
  have K2 := K1.trans k2
  have hR2 := (Below.block k2 (w.heap.size + 1) (by omega)).trans hR1
  cases hb : boardB dss b
  · rw [mustE_no rfl]
    have hS := heap_setCell_same w2 (w.heap.size + 1) 0 _ _ (.bool false) hR2
    have hc : (w2.setCell ⟨w.heap.size + 1, 0, none⟩ (.bool false)).cell? ⟨w.heap.size + 1, 0, none⟩ = some (.bool false) := by rw [cell_of_row _ _ 0 _ _ _ hS]; rfl
    have KZ := K2.grown (grown_set w2 (w.heap.size + 1) 0 (.bool false)) (fun k hk => by have := Option.some.inj hk; omega)
    go_wp2
    refine leaves_cons (f := 50) (args := #[.pointer (some ⟨w.heap.size + 1, 0, none⟩)]) (by simp) (by simp [go_sem]) ?_
    refine (ended_hit _ _ _ hR2).mono ?_
    rintro e u' w9 ⟨rfl, rfl, rfl⟩
    simp [Leaves, settle, results, Tryz.results15, go_sem, hc]
    exact ⟨by unfold endedB; rw [hb]; rfl, KZ⟩
  · rw [mustE_yes rfl]
    have hB2 := (Below.block k2 w.heap.size (by omega)).trans hB1
    obtain ⟨l1, l2⟩ := board_lens hb
    have CI := isEnded_any w2 _ dss b (HH.out.keep K2) HZ.out.w1 (by omega) (by omega)
    clear l1 l2
    go_wp2_with (first | refine wpList_load_row rfl 30 _ rfl w.heap.size rfl 30 _ (0, 0) _ hB2 Tryz.underlying30 rfl board_info ?_ | fail)
    refine CI.mono ?_
    rintro e w3 ⟨rfl, k3⟩
    have K3 := K2.trans k3
    have hR3 := (Below.block k3 (w.heap.size + 1) (by have := k2.size; omega)).trans hR2
    have HE : Hid (endedB dss b = endZ dss b) := Lib.hid (by unfold endedB; rw [hb]; rfl)
    clear hR2 hR1
    generalize endZ dss b = Z at *
    have hc0 : w3.cell? ⟨w.heap.size + 1, 0, none⟩ = some (.bool false) := by rw [cell_of_row w3 _ 0 _ _ _ hR3]; rfl
    have hf : w3.frozen? ⟨w.heap.size + 1, 0, none⟩ = false := frozen_of_row w3 _ 0 _ _ hR3
    have hS := heap_setCell_same w3 (w.heap.size + 1) 0 _ _ (.bool Z) hR3
    have hc : (w3.setCell ⟨w.heap.size + 1, 0, none⟩ (.bool Z)).cell? ⟨w.heap.size + 1, 0, none⟩ = some (.bool Z) := by rw [cell_of_row _ _ 0 _ _ _ hS]; rfl
    have KZ := K3.grown (grown_set w3 (w.heap.size + 1) 0 (.bool Z)) (fun k hk => by have := Option.some.inj hk; omega)
    go_wp2
    refine leaves_cons (f := 50) (args := #[.pointer (some ⟨w.heap.size + 1, 0, none⟩)]) (by simp) (by simp [go_sem]) ?_
    refine (ended_idle _ _).mono ?_
    rintro e u' w9 ⟨rfl, rfl, rfl⟩
    simp [Leaves, settle, results, Tryz.results15, go_sem, hc]
    exact ⟨HE.out.symm, KZ⟩
theorem bok_idle (p0 : Addr) (w : World) : CallsD Tryz.prog 54 #[.pointer (some p0)] .returning w fun e u' w' => e = .returned (.tuple #[]) ∧ u' = .returning ∧ w' = w := by
  refine callsD_of_wpS Tryz.func54 rfl fun c₀ cs hu => ?_
  apply wpS_seq
  apply wpS_region
  have hn : ∀ w : World, (binOp BinOp.neq 20 .nilIface .nilIface).run Tryz.prog w = .ok (.bool false) w := fun _ => by kernel_rfl
  simp [wpOpsS, go_sem, recoverD, hu, Tryz.ntmps54, Exit.thenS, hn]
  refine wpS_cond (t := false) (by simp [Act.eval, Array.replicate]) ?_
  simp only [Bool.false_eq_true, if_false]
  refine wpS_of_wp (wp_skip ?_)
  cases c₀
  simp_all [bodyPostS, results, Tryz.results54]
theorem bok_hit (g : Nat) (w : World) (x : Value) (hg : w.heap[g]? = some (.cells #[x] 4 (0, 0))) : CallsD Tryz.prog 54 #[.pointer (some ⟨g, 0, none⟩)] (.panicking [{ v := pnV, recovered := false }]) w fun e u' w' => e = .returned (.tuple #[]) ∧ u' = .panicking [{ v := pnV, recovered := true }] ∧ w' = w.setCell ⟨g, 0, none⟩ (.bool false) := by
  have hc : w.cell? ⟨g, 0, none⟩ = some x := by rw [cell_of_row w g 0 _ _ _ hg]; rfl
  have hf : w.frozen? ⟨g, 0, none⟩ = false := frozen_of_row w g 0 _ _ hg
  have hv : ∀ w : World, (binOp BinOp.neq 20 pnV .nilIface).run Tryz.prog w = .ok (.bool true) w := fun _ => by kernel_rfl
  refine callsD_of_wpS Tryz.func54 rfl fun c₀ cs hu => ?_
  apply wpS_seq
  apply wpS_region
  simp [wpOpsS, go_sem, recoverD, hu, Tryz.ntmps54, Exit.thenS, hv]
  refine wpS_cond (t := true) (by simp [Act.eval, Array.replicate]) ?_
  simp only [if_true]
  refine wpS_of_wp ?_
  go_wp2
  cases c₀
  simp_all [bodyPostS, results, Tryz.results54]
theorem implBoardOk_any (w : World) (v : BV) (dss : List (List Dd)) (b : Bd) (h : RdBd w v dss b) (hz : SzBd dss b) :
    Calls Tryz.prog 19 #[v.agg] w fun e w' => e = .returned (.bool (boardB dss b)) ∧ Keep w w' := by
  obtain ⟨aW, aP, aL, aN, aX, aS, aF, aR, cW, cP, cL, cN, cX, cS, cF, cR, rfl⟩ := h.shapes
  have C := fun (W : World) (kW : Keep w W) => mustRight_any W _ dss b (h.keep kW) hz
  have HH := Lib.hid h
  have HZ := Lib.hid hz
  clear h hz
  have hmf : ∀ (fn : Fn) (first cap : Array Value) (w : World), (Instr.makeFunc fn first cap).run Tryz.prog w = .ok (.func fn first cap) w := fun _ _ _ _ => rfl
  obtain ⟨w1, hw1⟩ : ∃ W : World, W = ((w.alloc (.cells #[.slice aW dss.length cW, .slice aP b.plc.length cP, .slice aL b.lst.length cL, .slice aN b.nts.length cN, .slice aX b.nxt.length cX, .slice aS b.sn.length cS, .slice aF b.fr.length cF, .slice aR b.rws.length cR] 30)).alloc (.cells #[.bool false] 4)) := ⟨_, rfl⟩
  have K1 : Keep w w1 := by rw [hw1]; exact ((Keep.refl w).alloc _).alloc _
  have s1 : w1.heap.size = w.heap.size + 2 := by rw [hw1, heap_size, heap_size]
  have hR1 : w1.heap[w.heap.size + 1]? = some (.cells #[.bool false] 4 (0, 0)) := by
    rw [hw1, ← heap_size w (.cells #[.slice aW dss.length cW, .slice aP b.plc.length cP, .slice aL b.lst.length cL, .slice aN b.nts.length cN, .slice aX b.nxt.length cX, .slice aS b.sn.length cS, .slice aF b.fr.length cF, .slice aR b.rws.length cR] 30)]; exact heap_alloc_new _ _
  have hB1 : w1.heap[w.heap.size]? = some (.cells #[.slice aW dss.length cW, .slice aP b.plc.length cP, .slice aL b.lst.length cL, .slice aN b.nts.length cN, .slice aX b.nxt.length cX, .slice aS b.sn.length cS, .slice aF b.fr.length cF, .slice aR b.rws.length cR] 30 (0, 0)) := by rw [hw1]; exact (Below.block ((Keep.refl _).alloc _) _ (by rw [heap_size]; omega)).trans (heap_alloc_new _ _)
  go_enter_defers Tryz.func19, Tryz.ntmps19
  go_upto_region 2 with fail
  rw [← hw1]
  clear hw1
  go_wp2_with (first | refine wpList_load_row rfl 30 _ rfl w.heap.size rfl 30 _ (0, 0) _ hB1 Tryz.underlying30 rfl board_info ?_ | fail)
  refine (C _ K1).mono ?_
  rintro e w2 ⟨rfl, k2⟩
  have K2 := K1.trans k2
  have hR2 := (Below.block k2 (w.heap.size + 1) (by omega)).trans hR1
  cases hb : boardB dss b
  · rw [mustE_no rfl]
    have hS := heap_setCell_same w2 (w.heap.size + 1) 0 _ _ (.bool false) hR2
    have hc : (w2.setCell ⟨w.heap.size + 1, 0, none⟩ (.bool false)).cell? ⟨w.heap.size + 1, 0, none⟩ = some (.bool false) := by rw [cell_of_row _ _ 0 _ _ _ hS]; rfl
    have KZ := K2.grown (grown_set w2 (w.heap.size + 1) 0 (.bool false)) (fun k hk => by have := Option.some.inj hk; omega)
    go_wp2
    refine leaves_cons (f := 54) (args := #[.pointer (some ⟨w.heap.size + 1, 0, none⟩)]) (by simp) (by simp [go_sem]) ?_
    refine (bok_hit _ _ _ hR2).mono ?_
    rintro e u' w9 ⟨rfl, rfl, rfl⟩
    simp [Leaves, settle, results, Tryz.results19, go_sem, hc]
    exact ⟨hb, KZ⟩
  · rw [mustE_yes rfl]
    have hc0 : w2.cell? ⟨w.heap.size + 1, 0, none⟩ = some (.bool false) := by rw [cell_of_row w2 _ 0 _ _ _ hR2]; rfl
    have hf : w2.frozen? ⟨w.heap.size + 1, 0, none⟩ = false := frozen_of_row w2 _ 0 _ _ hR2
    have hS := heap_setCell_same w2 (w.heap.size + 1) 0 _ _ (.bool true) hR2
    have hc : (w2.setCell ⟨w.heap.size + 1, 0, none⟩ (.bool true)).cell? ⟨w.heap.size + 1, 0, none⟩ = some (.bool true) := by rw [cell_of_row _ _ 0 _ _ _ hS]; rfl
    have KZ := K2.grown (grown_set w2 (w.heap.size + 1) 0 (.bool true)) (fun k hk => by have := Option.some.inj hk; omega)
    go_wp2
    refine leaves_cons (f := 54) (args := #[.pointer (some ⟨w.heap.size + 1, 0, none⟩)]) (by simp) (by simp [go_sem]) ?_
    refine (bok_idle _ _).mono ?_
    rintro e u' w9 ⟨rfl, rfl, rfl⟩
    simp [Leaves, settle, results, Tryz.results19, go_sem, hc]
    exact ⟨hb, KZ⟩
end Go.Proofs.YtgakfkjjkobpiaaGreat
