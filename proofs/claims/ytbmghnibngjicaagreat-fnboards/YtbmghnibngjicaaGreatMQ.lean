/- Gathered texts. -/
import Derived.Test.YtbmghnibngjicaaGreatMP
import Derived.Defers
import Derived.Recover
import Derived.Lib.Hide
import Derived.Laws.Rows
import Derived.Deep.Cut
set_option maxRecDepth 100000
set_option maxHeartbeats 8000000
namespace Go.Proofs.YtbmghnibngjicaaGreat
open Go.ChangeShapes Go.WideShapes Go.ChangeAt Go.RowKit
theorem isEnded_any (w : World) (v : BV) (dss : List (List Dd)) (b : Bd) (h : RdBd w v dss b) (hd : dss.length ≤ 1048576) (hx : dss.length ≤ b.nxt.length) (hn : dss.length ≤ b.nts.length) :
    Calls Tryz.prog 38 #[v.agg] w fun e w' => e = .returned (.bool (endZ dss b)) ∧ Keep w w' := by
  obtain ⟨aW, aP, aL, aN, aX, aS, aF, aR, cW, cP, cL, cN, cX, cS, cF, cR, rfl⟩ := h.shapes
  have KW : Keep w (w.alloc (.cells #[.slice aW dss.length cW, .slice aP b.plc.length cP, .slice aL b.lst.length cL, .slice aN b.nts.length cN, .slice aX b.nxt.length cX, .slice aS b.sn.length cS, .slice aF b.fr.length cF, .slice aR b.rws.length cR] 30)) := (Keep.refl w).alloc _
  have c0 : (w.alloc (.cells #[.slice aW dss.length cW, .slice aP b.plc.length cP, .slice aL b.lst.length cL, .slice aN b.nts.length cN, .slice aX b.nxt.length cX, .slice aS b.sn.length cS, .slice aF b.fr.length cF, .slice aR b.rws.length cR] 30)).cell? ⟨w.heap.size, 0, none⟩ = some (.slice aW dss.length cW) := box_cell (Keep.refl _) 0
  have c3 : (w.alloc (.cells #[.slice aW dss.length cW, .slice aP b.plc.length cP, .slice aL b.lst.length cL, .slice aN b.nts.length cN, .slice aX b.nxt.length cX, .slice aS b.sn.length cS, .slice aF b.fr.length cF, .slice aR b.rws.length cR] 30)).cell? ⟨w.heap.size, 3, none⟩ = some (.slice aN b.nts.length cN) := box_cell (Keep.refl _) 3
  have c4 : (w.alloc (.cells #[.slice aW dss.length cW, .slice aP b.plc.length cP, .slice aL b.lst.length cL, .slice aN b.nts.length cN, .slice aX b.nxt.length cX, .slice aS b.sn.length cS, .slice aF b.fr.length cF, .slice aR b.rws.length cR] 30)).cell? ⟨w.heap.size, 4, none⟩ = some (.slice aX b.nxt.length cX) := box_cell (Keep.refl _) 4
  have h' := h.keep KW
  go_enter Tryz.func38, Tryz.ntmps38
  go_wp2
  generalize (w.alloc (.cells #[.slice aW dss.length cW, .slice aP b.plc.length cP, .slice aL b.lst.length cL, .slice aN b.nts.length cN, .slice aX b.nxt.length cX, .slice aS b.sn.length cS, .slice aF b.fr.length cF, .slice aR b.rws.length cR] 30)) = w1 at *
  have HH := Lib.hid h'
  clear h h'
  go_loopw [3, 4, 8] (fun _ _ i wr => ∃ k : Nat, k ≤ dss.length ∧ i = .int .i64 k ∧ Hid (∀ j, j < k → (decide (((dss.getD j []).length : Int) ≤ b.nxt.getD j 0) && (b.nts.getD j []).isEmpty) = true) ∧ wr = w1) (fun _ _ i _ => dss.length - (intOf i).toNat)
  case atStart => exact ⟨0, Nat.zero_le _, rfl, Lib.hid (fun j hj => absurd hj (Nat.not_lt_zero _)), rfl⟩
  case round =>
    obtain ⟨k, hk, rfl, hno, rfl⟩ := hrel
    by_cases hlt : k < dss.length
    · have lX : k < b.nxt.length := by omega
      have lN : k < b.nts.length := by omega
      obtain ⟨a', c', he', hX⟩ := HH.out.X
      simp only [Value.slice.injEq, true_and] at he'
      obtain ⟨rfl, rfl⟩ := he'
      rcases hX with h0 | ⟨bx, ox, rfl, hbx, hcx⟩
      · exfalso; rw [h0] at lX; simp at lX
      obtain ⟨a', c', he', hW⟩ := HH.out.W
      simp only [Value.slice.injEq, true_and] at he'
      obtain ⟨rfl, rfl⟩ := he'
      rcases hW with h0 | ⟨bw, ow, rfl, hbw, hcw⟩
      · exfalso; rw [h0] at hlt; simp at hlt
      obtain ⟨a', c', he', hN⟩ := HH.out.N
      simp only [Value.slice.injEq, true_and] at he'
      obtain ⟨rfl, rfl⟩ := he'
      rcases hN with h0 | ⟨bn, on, rfl, hbn, hcn⟩
      · exfalso; rw [h0] at lN; simp at lN
      have d1 := hcx k lX
      obtain ⟨vw, d2, r2⟩ := hcw k hlt
      obtain ⟨vn, d3, r3⟩ := hcn k lN
      have HF : (decide (((dss.getD k []).length : Int) ≤ b.nxt.getD k 0) && (b.nts.getD k []).isEmpty) = false → Hid (endZ dss b = false) := fun e => Lib.hid (all_range_false hlt e)
      have HT : (decide (((dss.getD k []).length : Int) ≤ b.nxt.getD k 0) && (b.nts.getD k []).isEmpty) = true → Hid (∀ j, j < k + 1 → (decide (((dss.getD j []).length : Int) ≤ b.nxt.getD j 0) && (b.nts.getD j []).isEmpty) = true) := fun e => Lib.hid (fun j hj => by
        by_cases e' : j = k
        · rw [e']; exact e
        · exact hno.out j (by omega))
      obtain ⟨aw, cw, rfl, -⟩ := r2
      obtain ⟨an, cn, rfl, -⟩ := r3
      generalize b.nxt.getD k 0 = x at d1 HF HT
      generalize (dss.getD k []).length = wl at d2 HF HT
      generalize b.nts.getD k [] = ns at d3 HF HT
      have j1 : (0 : Int) ≤ (k : Int) := Int.natCast_nonneg _
      have j2 : (k : Int) < (dss.length : Int) := by omega
      have j3 : (k : Int) < (b.nxt.length : Int) := by omega
      have j4 : (k : Int) < (b.nts.length : Int) := by omega
      clear hcx hcw hcn hno HH
      by_cases t1 : x < (wl : Int)
      · have HE := HF (by rw [decide_eq_false (by omega)]; rfl)
        clear HF HT
        go_wp2
        go_ret
        exact ⟨by rw [HE.out]; rfl, KW⟩
      have t1' : decide (x < (wl : Int)) = false := decide_eq_false t1
      by_cases t2 : 0 < ns.length
      · have HE := HF (by
          have : ns.isEmpty = false := by cases ns with | nil => simp at t2 | cons _ _ => rfl
          rw [this]; simp)
        have t2' : decide (0 < ns.length) = true := decide_eq_true t2
        clear HF HT t1
        go_wp2
        go_ret
        exact ⟨by rw [HE.out]; rfl, KW⟩
      · have HE := HT (by
          have : ns.isEmpty = true := by cases ns with | nil => rfl | cons _ _ => simp at t2
          rw [this, decide_eq_true (by omega)]; rfl)
        have t2' : decide (0 < ns.length) = false := decide_eq_false t2
        clear HF HT t1 t2
        go_wp2
        go_roundw
        case rel => exact ⟨k + 1, by omega, by go_num, HE, trivial⟩
        case measure => simp [intOf]; omega
    · obtain rfl : k = dss.length := by omega
      have HE : Hid (endZ dss b = true) := Lib.hid (all_range_true hno.out)
      go_wp2
      go_ret
      exact ⟨by rw [HE.out]; rfl, KW⟩
theorem ended_idle (p0 : Addr) (w : World) : CallsD Tryz.prog 37 #[.pointer (some p0)] .returning w fun e u' w' => e = .returned (.tuple #[]) ∧ u' = .returning ∧ w' = w := by
  refine callsD_of_wpS Tryz.func37 rfl fun c₀ cs hu => ?_
  apply wpS_seq
  apply wpS_region
  have hn : ∀ w : World, (binOp BinOp.neq 20 .nilIface .nilIface).run Tryz.prog w = .ok (.bool false) w := fun _ => by kernel_rfl
  simp [wpOpsS, go_sem, recoverD, hu, Tryz.ntmps37, Exit.thenS, hn]
  refine wpS_cond (t := false) (by simp [Act.eval, Array.replicate]) ?_
  simp only [Bool.false_eq_true, if_false]
  refine wpS_of_wp (wp_skip ?_)
  cases c₀
  simp_all [bodyPostS, results, Tryz.results37]
theorem ended_hit (g : Nat) (w : World) (x : Value) (hg : w.heap[g]? = some (.cells #[x] 4 (0, 0))) : CallsD Tryz.prog 37 #[.pointer (some ⟨g, 0, none⟩)] (.panicking [{ v := pnV, recovered := false }]) w fun e u' w' => e = .returned (.tuple #[]) ∧ u' = .panicking [{ v := pnV, recovered := true }] ∧ w' = w.setCell ⟨g, 0, none⟩ (.bool false) := by
  have hc : w.cell? ⟨g, 0, none⟩ = some x := by rw [cell_of_row w g 0 _ _ _ hg]; rfl
  have hf : w.frozen? ⟨g, 0, none⟩ = false := frozen_of_row w g 0 _ _ hg
  have hv : ∀ w : World, (binOp BinOp.neq 20 pnV .nilIface).run Tryz.prog w = .ok (.bool true) w := fun _ => by kernel_rfl
  refine callsD_of_wpS Tryz.func37 rfl fun c₀ cs hu => ?_
  apply wpS_seq
  apply wpS_region
  simp [wpOpsS, go_sem, recoverD, hu, Tryz.ntmps37, Exit.thenS, hv]
  refine wpS_cond (t := true) (by simp [Act.eval, Array.replicate]) ?_
  simp only [if_true]
  refine wpS_of_wp ?_
  go_wp2
  cases c₀
  simp_all [bodyPostS, results, Tryz.results37]
theorem implEnded_any (w : World) (v : BV) (dss : List (List Dd)) (b : Bd) (h : RdBd w v dss b) (hz : SzBd dss b) :
    Calls Tryz.prog 13 #[v.agg] w fun e w' => e = .returned (.bool (endedB dss b)) ∧ Keep w w' := by
  obtain ⟨aW, aP, aL, aN, aX, aS, aF, aR, cW, cP, cL, cN, cX, cS, cF, cR, rfl⟩ := h.shapes
  have C := fun (W : World) (kW : Keep w W) => mustRight_any W _ dss b (h.keep kW) hz
  have HH := Lib.hid h
  have HZ := Lib.hid hz
  clear h hz
  have hmf : ∀ (fn : Fn) (first cap : Array Value) (w : World), (Instr.makeFunc fn first cap).run Tryz.prog w = .ok (.func fn first cap) w := fun _ _ _ _ => rfl
  obtain ⟨w1, hw1⟩ : ∃ W : World, W = ((w.alloc (.cells #[.slice aW dss.length cW, .slice aP b.plc.length cP, .slice aL b.lst.length cL, .slice aN b.nts.length cN, .slice aX b.nxt.length cX, .slice aS b.sn.length cS, .slice aF b.fr.length cF, .slice aR b.rws.length cR] 30)).alloc (.cells #[.bool false] 4)) := ⟨_, rfl⟩
  have K1 : Keep w w1 := by rw [hw1]; exact ((Keep.refl w).alloc _).alloc _
  have s1 : w1.heap.size = w.heap.size + 2 := by rw [hw1, heap_size, heap_size]
  have hR1 : w1.heap[w.heap.size + 1]? = some (.cells #[.bool false] 4 (0, 0)) := by
    rw [hw1, ← heap_size w (.cells #[.slice aW dss.length cW, .slice aP b.plc.length cP, .slice aL b.lst.length cL, .slice aN b.nts.length cN, .slice aX b.nxt.length cX, .slice aS b.sn.length cS, .slice aF b.fr.length cF, .slice aR b.rws.length cR] 30)]; exact heap_alloc_new _ _
  have hB1 : w1.heap[w.heap.size]? = some (.cells #[.slice aW dss.length cW, .slice aP b.plc.length cP, .slice aL b.lst.length cL, .slice aN b.nts.length cN, .slice aX b.nxt.length cX, .slice aS b.sn.length cS, .slice aF b.fr.length cF, .slice aR b.rws.length cR] 30 (0, 0)) := by rw [hw1]; exact (Below.block ((Keep.refl _).alloc _) _ (by rw [heap_size]; omega)).trans (heap_alloc_new _ _)
  go_enter_defers Tryz.func13, Tryz.ntmps13
  go_upto_region 2 with fail
  rw [← hw1]
  clear hw1
  go_wp2_with (first | refine wpList_load_row rfl 30 _ rfl w.heap.size rfl 30 _ (0, 0) _ hB1 Tryz.underlying30 rfl board_info ?_ | fail)
  refine (C _ K1).mono ?_
  rintro e w2 ⟨rfl, k2⟩
  have K2 := K1.trans k2
  have hR2 := (Below.block k2 (w.heap.size + 1) (by omega)).trans hR1
  cases hb : boardB dss b
  · rw [mustE_no rfl]
    have hS := heap_setCell_same w2 (w.heap.size + 1) 0 _ _ (.bool false) hR2
    have hc : (w2.setCell ⟨w.heap.size + 1, 0, none⟩ (.bool false)).cell? ⟨w.heap.size + 1, 0, none⟩ = some (.bool false) := by rw [cell_of_row _ _ 0 _ _ _ hS]; rfl
    have KZ := K2.grown (grown_set w2 (w.heap.size + 1) 0 (.bool false)) (fun k hk => by have := Option.some.inj hk; omega)
    go_wp2
    refine leaves_cons (f := 37) (args := #[.pointer (some ⟨w.heap.size + 1, 0, none⟩)]) (by simp) (by simp [go_sem]) ?_
    refine (ended_hit _ _ _ hR2).mono ?_
    rintro e u' w9 ⟨rfl, rfl, rfl⟩
    simp [Leaves, settle, results, Tryz.results13, go_sem, hc]
    exact ⟨by unfold endedB; rw [hb]; rfl, KZ⟩
  · rw [mustE_yes rfl]
    have hB2 := (Below.block k2 w.heap.size (by omega)).trans hB1
    obtain ⟨l1, l2⟩ := board_lens hb
    have CI := isEnded_any w2 _ dss b (HH.out.keep K2) HZ.out.w1 (by omega) (by omega)
    clear l1 l2
    go_wp2_with (first | refine wpList_load_row rfl 30 _ rfl w.heap.size rfl 30 _ (0, 0) _ hB2 Tryz.underlying30 rfl board_info ?_ | fail)
    refine CI.mono ?_
    rintro e w3 ⟨rfl, k3⟩
    have K3 := K2.trans k3
    have hR3 := (Below.block k3 (w.heap.size + 1) (by have := k2.size; omega)).trans hR2
    have HE : Hid (endedB dss b = endZ dss b) := Lib.hid (by unfold endedB; rw [hb]; rfl)
    clear hR2 hR1
    generalize endZ dss b = Z at *
    have hc0 : w3.cell? ⟨w.heap.size + 1, 0, none⟩ = some (.bool false) := by rw [cell_of_row w3 _ 0 _ _ _ hR3]; rfl
    have hf : w3.frozen? ⟨w.heap.size + 1, 0, none⟩ = false := frozen_of_row w3 _ 0 _ _ hR3
    have hS := heap_setCell_same w3 (w.heap.size + 1) 0 _ _ (.bool Z) hR3
    have hc : (w3.setCell ⟨w.heap.size + 1, 0, none⟩ (.bool Z)).cell? ⟨w.heap.size + 1, 0, none⟩ = some (.bool Z) := by rw [cell_of_row _ _ 0 _ _ _ hS]; rfl
    have KZ := K3.grown (grown_set w3 (w.heap.size + 1) 0 (.bool Z)) (fun k hk => by have := Option.some.inj hk; omega)
    go_wp2
    refine leaves_cons (f := 37) (args := #[.pointer (some ⟨w.heap.size + 1, 0, none⟩)]) (by simp) (by simp [go_sem]) ?_
    refine (ended_idle _ _).mono ?_
    rintro e u' w9 ⟨rfl, rfl, rfl⟩
    simp [Leaves, settle, results, Tryz.results13, go_sem, hc]
    exact ⟨HE.out.symm, KZ⟩
theorem bok_idle (p0 : Addr) (w : World) : CallsD Tryz.prog 41 #[.pointer (some p0)] .returning w fun e u' w' => e = .returned (.tuple #[]) ∧ u' = .returning ∧ w' = w := by
  refine callsD_of_wpS Tryz.func41 rfl fun c₀ cs hu => ?_
  apply wpS_seq
  apply wpS_region
  have hn : ∀ w : World, (binOp BinOp.neq 20 .nilIface .nilIface).run Tryz.prog w = .ok (.bool false) w := fun _ => by kernel_rfl
  simp [wpOpsS, go_sem, recoverD, hu, Tryz.ntmps41, Exit.thenS, hn]
  refine wpS_cond (t := false) (by simp [Act.eval, Array.replicate]) ?_
  simp only [Bool.false_eq_true, if_false]
  refine wpS_of_wp (wp_skip ?_)
  cases c₀
  simp_all [bodyPostS, results, Tryz.results41]
theorem bok_hit (g : Nat) (w : World) (x : Value) (hg : w.heap[g]? = some (.cells #[x] 4 (0, 0))) : CallsD Tryz.prog 41 #[.pointer (some ⟨g, 0, none⟩)] (.panicking [{ v := pnV, recovered := false }]) w fun e u' w' => e = .returned (.tuple #[]) ∧ u' = .panicking [{ v := pnV, recovered := true }] ∧ w' = w.setCell ⟨g, 0, none⟩ (.bool false) := by
  have hc : w.cell? ⟨g, 0, none⟩ = some x := by rw [cell_of_row w g 0 _ _ _ hg]; rfl
  have hf : w.frozen? ⟨g, 0, none⟩ = false := frozen_of_row w g 0 _ _ hg
  have hv : ∀ w : World, (binOp BinOp.neq 20 pnV .nilIface).run Tryz.prog w = .ok (.bool true) w := fun _ => by kernel_rfl
  refine callsD_of_wpS Tryz.func41 rfl fun c₀ cs hu => ?_
  apply wpS_seq
  apply wpS_region
  simp [wpOpsS, go_sem, recoverD, hu, Tryz.ntmps41, Exit.thenS, hv]
  refine wpS_cond (t := true) (by simp [Act.eval, Array.replicate]) ?_
  simp only [if_true]
  refine wpS_of_wp ?_
  go_wp2
  cases c₀
  simp_all [bodyPostS, results, Tryz.results41]
theorem implBoardOk_any (w : World) (v : BV) (dss : List (List Dd)) (b : Bd) (h : RdBd w v dss b) (hz : SzBd dss b) :
    Calls Tryz.prog 17 #[v.agg] w fun e w' => e = .returned (.bool (boardB dss b)) ∧ Keep w w' := by
  obtain ⟨aW, aP, aL, aN, aX, aS, aF, aR, cW, cP, cL, cN, cX, cS, cF, cR, rfl⟩ := h.shapes
  have C := fun (W : World) (kW : Keep w W) => mustRight_any W _ dss b (h.keep kW) hz
  have HH := Lib.hid h
  have HZ := Lib.hid hz
  clear h hz
  have hmf : ∀ (fn : Fn) (first cap : Array Value) (w : World), (Instr.makeFunc fn first cap).run Tryz.prog w = .ok (.func fn first cap) w := fun _ _ _ _ => rfl
  obtain ⟨w1, hw1⟩ : ∃ W : World, W = ((w.alloc (.cells #[.slice aW dss.length cW, .slice aP b.plc.length cP, .slice aL b.lst.length cL, .slice aN b.nts.length cN, .slice aX b.nxt.length cX, .slice aS b.sn.length cS, .slice aF b.fr.length cF, .slice aR b.rws.length cR] 30)).alloc (.cells #[.bool false] 4)) := ⟨_, rfl⟩
  have K1 : Keep w w1 := by rw [hw1]; exact ((Keep.refl w).alloc _).alloc _
  have s1 : w1.heap.size = w.heap.size + 2 := by rw [hw1, heap_size, heap_size]
  have hR1 : w1.heap[w.heap.size + 1]? = some (.cells #[.bool false] 4 (0, 0)) := by
    rw [hw1, ← heap_size w (.cells #[.slice aW dss.length cW, .slice aP b.plc.length cP, .slice aL b.lst.length cL, .slice aN b.nts.length cN, .slice aX b.nxt.length cX, .slice aS b.sn.length cS, .slice aF b.fr.length cF, .slice aR b.rws.length cR] 30)]; exact heap_alloc_new _ _
  have hB1 : w1.heap[w.heap.size]? = some (.cells #[.slice aW dss.length cW, .slice aP b.plc.length cP, .slice aL b.lst.length cL, .slice aN b.nts.length cN, .slice aX b.nxt.length cX, .slice aS b.sn.length cS, .slice aF b.fr.length cF, .slice aR b.rws.length cR] 30 (0, 0)) := by rw [hw1]; exact (Below.block ((Keep.refl _).alloc _) _ (by rw [heap_size]; omega)).trans (heap_alloc_new _ _)
  go_enter_defers Tryz.func17, Tryz.ntmps17
  go_upto_region 2 with fail
  rw [← hw1]
  clear hw1
  go_wp2_with (first | refine wpList_load_row rfl 30 _ rfl w.heap.size rfl 30 _ (0, 0) _ hB1 Tryz.underlying30 rfl board_info ?_ | fail)
  refine (C _ K1).mono ?_
  rintro e w2 ⟨rfl, k2⟩
  have K2 := K1.trans k2
  have hR2 := (Below.block k2 (w.heap.size + 1) (by omega)).trans hR1
  cases hb : boardB dss b
  · rw [mustE_no rfl]
    have hS := heap_setCell_same w2 (w.heap.size + 1) 0 _ _ (.bool false) hR2
    have hc : (w2.setCell ⟨w.heap.size + 1, 0, none⟩ (.bool false)).cell? ⟨w.heap.size + 1, 0, none⟩ = some (.bool false) := by rw [cell_of_row _ _ 0 _ _ _ hS]; rfl
    have KZ := K2.grown (grown_set w2 (w.heap.size + 1) 0 (.bool false)) (fun k hk => by have := Option.some.inj hk; omega)
    go_wp2
    refine leaves_cons (f := 41) (args := #[.pointer (some ⟨w.heap.size + 1, 0, none⟩)]) (by simp) (by simp [go_sem]) ?_
    refine (bok_hit _ _ _ hR2).mono ?_
    rintro e u' w9 ⟨rfl, rfl, rfl⟩
    simp [Leaves, settle, results, Tryz.results17, go_sem, hc]
    exact ⟨hb, KZ⟩
  · rw [mustE_yes rfl]
    have hc0 : w2.cell? ⟨w.heap.size + 1, 0, none⟩ = some (.bool false) := by rw [cell_of_row w2 _ 0 _ _ _ hR2]; rfl
    have hf : w2.frozen? ⟨w.heap.size + 1, 0, none⟩ = false := frozen_of_row w2 _ 0 _ _ hR2
    have hS := heap_setCell_same w2 (w.heap.size + 1) 0 _ _ (.bool true) hR2
    have hc : (w2.setCell ⟨w.heap.size + 1, 0, none⟩ (.bool true)).cell? ⟨w.heap.size + 1, 0, none⟩ = some (.bool true) := by rw [cell_of_row _ _ 0 _ _ _ hS]; rfl
    have KZ := K2.grown (grown_set w2 (w.heap.size + 1) 0 (.bool true)) (fun k hk => by have := Option.some.inj hk; omega)
    go_wp2
    refine leaves_cons (f := 41) (args := #[.pointer (some ⟨w.heap.size + 1, 0, none⟩)]) (by simp) (by simp [go_sem]) ?_
    refine (bok_idle _ _).mono ?_
    rintro e u' w9 ⟨rfl, rfl, rfl⟩
    simp [Leaves, settle, results, Tryz.results17, go_sem, hc]
    exact ⟨hb, KZ⟩
end Go.Proofs.YtbmghnibngjicaaGreat
