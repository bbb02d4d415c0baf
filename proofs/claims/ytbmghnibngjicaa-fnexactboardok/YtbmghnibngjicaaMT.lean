/- Gathered texts. -/
import Derived.Test.YtbmghnibngjicaaMI
import Derived.Defers
import Derived.Recover
import Derived.Lib.Hide
import Derived.Laws.Rows
import Derived.Deep.Cut
set_option maxRecDepth 100000
set_option maxHeartbeats 8000000
namespace Go.Proofs.Ytbmghnibngjicaa
open Go.ChangeShapes Go.WideShapes Go.ChangeAt Go.RowKit
theorem bok_idle (p0 : Addr) (w : World) : CallsD Try.prog 41 #[.pointer (some p0)] .returning w fun e u' w' => e = .returned (.tuple #[]) ∧ u' = .returning ∧ w' = w := by
  refine callsD_of_wpS Try.func41 rfl fun c₀ cs hu => ?_
  apply wpS_seq
  apply wpS_region
  have hn : ∀ w : World, (binOp BinOp.neq 20 .nilIface .nilIface).run Try.prog w = .ok (.bool false) w := fun _ => by kernel_rfl
  simp [wpOpsS, go_sem, recoverD, hu, Try.ntmps41, Exit.thenS, hn]
  refine wpS_cond (t := false) (by simp [Act.eval, Array.replicate]) ?_
  simp only [Bool.false_eq_true, if_false]
  refine wpS_of_wp (wp_skip ?_)
  cases c₀
  simp_all [bodyPostS, results, Try.results41]
theorem bok_hit (g : Nat) (w : World) (x : Value) (hg : w.heap[g]? = some (.cells #[x] 4 (0, 0))) : CallsD Try.prog 41 #[.pointer (some ⟨g, 0, none⟩)] (.panicking [{ v := pnV, recovered := false }]) w fun e u' w' => e = .returned (.tuple #[]) ∧ u' = .panicking [{ v := pnV, recovered := true }] ∧ w' = w.setCell ⟨g, 0, none⟩ (.bool false) := by
  have hc : w.cell? ⟨g, 0, none⟩ = some x := by rw [cell_of_row w g 0 _ _ _ hg]; rfl
  have hf : w.frozen? ⟨g, 0, none⟩ = false := frozen_of_row w g 0 _ _ hg
  have hv : ∀ w : World, (binOp BinOp.neq 20 pnV .nilIface).run Try.prog w = .ok (.bool true) w := fun _ => by kernel_rfl
  refine callsD_of_wpS Try.func41 rfl fun c₀ cs hu => ?_
  apply wpS_seq
  apply wpS_region
  simp [wpOpsS, go_sem, recoverD, hu, Try.ntmps41, Exit.thenS, hv]
  refine wpS_cond (t := true) (by simp [Act.eval, Array.replicate]) ?_
  simp only [if_true]
  refine wpS_of_wp ?_
  go_wp2
  cases c₀
  simp_all [bodyPostS, results, Try.results41]
theorem implBoardOk_any (w : World) (v : BV) (dss : List (List Dd)) (b : Bd) (h : RdBd w v dss b) (hz : SzBd dss b) :
    Calls Try.prog 11 #[v.agg] w fun e w' => e = .returned (.bool (boardB dss b)) ∧ Keep w w' := by
  obtain ⟨aW, aP, aL, aN, aX, aS, aF, aR, cW, cP, cL, cN, cX, cS, cF, cR, rfl⟩ := h.shapes
  have C := fun (W : World) (kW : Keep w W) => mustRight_any W _ dss b (h.keep kW) hz
  have HH := Lib.hid h
  have HZ := Lib.hid hz
  clear h hz
  have hmf : ∀ (fn : Fn) (first cap : Array Value) (w : World), (Instr.makeFunc fn first cap).run Try.prog w = .ok (.func fn first cap) w := fun _ _ _ _ => rfl
  obtain ⟨w1, hw1⟩ : ∃ W : World, W = ((w.alloc (.cells #[.slice aW dss.length cW, .slice aP b.plc.length cP, .slice aL b.lst.length cL, .slice aN b.nts.length cN, .slice aX b.nxt.length cX, .slice aS b.sn.length cS, .slice aF b.fr.length cF, .slice aR b.rws.length cR] 33)).alloc (.cells #[.bool false] 4)) := ⟨_, rfl⟩
  have K1 : Keep w w1 := by rw [hw1]; exact ((Keep.refl w).alloc _).alloc _
  have s1 : w1.heap.size = w.heap.size + 2 := by rw [hw1, heap_size, heap_size]
  have hR1 : w1.heap[w.heap.size + 1]? = some (.cells #[.bool false] 4 (0, 0)) := by
    rw [hw1, ← heap_size w (.cells #[.slice aW dss.length cW, .slice aP b.plc.length cP, .slice aL b.lst.length cL, .slice aN b.nts.length cN, .slice aX b.nxt.length cX, .slice aS b.sn.length cS, .slice aF b.fr.length cF, .slice aR b.rws.length cR] 33)]; exact heap_alloc_new _ _
  have hB1 : w1.heap[w.heap.size]? = some (.cells #[.slice aW dss.length cW, .slice aP b.plc.length cP, .slice aL b.lst.length cL, .slice aN b.nts.length cN, .slice aX b.nxt.length cX, .slice aS b.sn.length cS, .slice aF b.fr.length cF, .slice aR b.rws.length cR] 33 (0, 0)) := by rw [hw1]; exact (Below.block ((Keep.refl _).alloc _) _ (by rw [heap_size]; omega)).trans (heap_alloc_new _ _)
  go_enter_defers Try.func11, Try.ntmps11
  go_upto_region 2 with fail
  rw [← hw1]
  clear hw1
  go_wp2_with (first | refine wpList_load_row rfl 33 _ rfl w.heap.size rfl 33 _ (0, 0) _ hB1 Try.underlying33 rfl board_info ?_ | fail)
  refine (C _ K1).mono ?_
  rintro e w2 ⟨rfl, k2⟩
  have K2 := K1.trans k2
  have hR2 := (Below.block k2 (w.heap.size + 1) (by omega)).trans hR1
  cases hb : boardB dss b
  · rw [mustE_no rfl]
    have hS := heap_setCell_same w2 (w.heap.size + 1) 0 _ _ (.bool false) hR2
    have hc : (w2.setCell ⟨w.heap.size + 1, 0, none⟩ (.bool false)).cell? ⟨w.heap.size + 1, 0, none⟩ = some (.bool false) := by rw [cell_of_row _ _ 0 _ _ _ hS]; rfl
    have KZ := K2.grown (grown_set w2 (w.heap.size + 1) 0 (.bool false)) (fun k hk => by have := Option.some.inj hk; omega)
    go_wp2
    refine leaves_cons (f := 41) (args := #[.pointer (some ⟨w.heap.size + 1, 0, none⟩)]) (by simp) (by simp [go_sem]) ?_
    refine (bok_hit _ _ _ hR2).mono ?_
    rintro e u' w9 ⟨rfl, rfl, rfl⟩
    simp [Leaves, settle, results, Try.results11, go_sem, hc]
    exact ⟨hb, KZ⟩
  · rw [mustE_yes rfl]
    have hc0 : w2.cell? ⟨w.heap.size + 1, 0, none⟩ = some (.bool false) := by rw [cell_of_row w2 _ 0 _ _ _ hR2]; rfl
    have hf : w2.frozen? ⟨w.heap.size + 1, 0, none⟩ = false := frozen_of_row w2 _ 0 _ _ hR2
    have hS := heap_setCell_same w2 (w.heap.size + 1) 0 _ _ (.bool true) hR2
    have hc : (w2.setCell ⟨w.heap.size + 1, 0, none⟩ (.bool true)).cell? ⟨w.heap.size + 1, 0, none⟩ = some (.bool true) := by rw [cell_of_row _ _ 0 _ _ _ hS]; rfl
    have KZ := K2.grown (grown_set w2 (w.heap.size + 1) 0 (.bool true)) (fun k hk => by have := Option.some.inj hk; omega)
    go_wp2
    refine leaves_cons (f := 41) (args := #[.pointer (some ⟨w.heap.size + 1, 0, none⟩)]) (by simp) (by simp [go_sem]) ?_
    refine (bok_idle _ _).mono ?_
    rintro e u' w9 ⟨rfl, rfl, rfl⟩
    simp [Leaves, settle, results, Try.results11, go_sem, hc]
    exact ⟨hb, KZ⟩
end Go.Proofs.Ytbmghnibngjicaa
