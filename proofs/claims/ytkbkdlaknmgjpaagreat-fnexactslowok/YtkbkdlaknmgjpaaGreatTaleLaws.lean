/- The laws' helpers on tales: size, copy, equality, likeness. -/
import Derived.Test.YtkbkdlaknmgjpaaGreatMD
import Derived.Test.YtkbkdlaknmgjpaaGreatSliceTo
import Derived.Test.YtkbkdlaknmgjpaaGreatMB
import Derived.Lib.Hide
import Derived.Deep.Cut
namespace Go.Proofs.YtkbkdlaknmgjpaaGreat
open Go.ChangeShapes Go.WideShapes Go.ChangeAt Go.RowKit

theorem szInts_any (w : World) (a : Option Addr) (n cap : Nat) (left : Int) (h0 : 0 ≤ left) (h1 : left ≤ 1048576) (hn : n ≤ maxLen) :
    Calls Tryz.prog 67 #[.slice a n cap, .int .i64 left] w fun e w' => ∃ r : Int, e = .returned (.int .i64 r) ∧ w' = w ∧ (r < 0 ∨ ((n : Int) ≤ left ∧ r = left - n)) := by
  unfold maxLen at hn
  have hw : IntKind.i64.wrap (left - n) = left - n := by rw [IntKind.wrap_i64]; omega
  by_cases hc : left < n
  · have hc' : left - n < 0 := by omega
    go_enter Tryz.func67, Tryz.ntmps67
    go_wp2
    go_ret
    exact ⟨-1, rfl, rfl, .inl (by omega)⟩
  · have hc' : 0 ≤ left - n := by omega
    go_enter Tryz.func67, Tryz.ntmps67
    go_wp2
    go_ret
    refine ⟨left - n, rfl, rfl, .inr ?_⟩
    first | exact ⟨by omega, rfl⟩ | rfl | trivial
theorem szTale_any (w : World) (vF vR : Value) (f rows : List Int) (left : Int) (hf : Rd w vF f) (hr : Rd w vR rows) (h0 : 0 ≤ left) (h1 : left ≤ 1048576) (lf : f.length ≤ maxLen) (lr : rows.length ≤ maxLen) :
    Calls Tryz.prog 25 #[.agg #[vF, vR], .int .i64 left] w fun e w' => ∃ r : Int, e = .returned (.int .i64 r) ∧ Keep w w' ∧ (r < 0 ∨ ((f.length : Int) + rows.length ≤ left)) := by
  obtain ⟨aF, cF, rfl, -⟩ := hf
  obtain ⟨aR, cR, rfl, -⟩ := hr
  have k0 : Keep w (w.alloc (.cells #[.slice aF f.length cF, .slice aR rows.length cR] 45)) := (Keep.refl w).alloc _
  go_enter Tryz.func25, Tryz.ntmps25
  go_wp2_with fail
  refine (szInts_any _ aF _ cF left h0 h1 lf).mono ?_
  rintro e w1 ⟨r, rfl, rfl, hd⟩
  by_cases hneg : r < 0
  · go_wp2
    go_ret
    exact ⟨-1, rfl, k0, .inl (by omega)⟩
  · obtain ⟨d1, rfl⟩ := hd.resolve_left hneg
    have hge : 0 ≤ left - (f.length : Int) := by omega
    clear hd hneg
    go_wp2_with fail
    refine (szInts_any _ aR _ cR _ hge (by omega) lr).mono ?_
    rintro e w2 ⟨r, rfl, rfl, hd⟩
    by_cases hneg : r < 0
    · go_wp2
      go_ret
      exact ⟨-1, rfl, k0, .inl (by omega)⟩
    · obtain ⟨d2, rfl⟩ := hd.resolve_left hneg
      have hge2 : 0 ≤ left - (f.length : Int) - (rows.length : Int) := by omega
      go_wp2
      go_ret
      exact ⟨_, rfl, k0, .inr (by omega)⟩
theorem blkL {w w' : World} {D : Nat} {row : Option Nat} {o : Obj} (h : w.heap[D]? = some o) (hg : w.grownBy w' row) (hr : row ≠ some D) : w'.heap[D]? = some o :=
  (hg.block D (Array.getElem?_eq_some_iff.1 h).1 hr.symm).trans h
theorem Own.shpL {w : World} {base : Nat} {v : Value} {zs : List Int} (h : Own w base v zs) : ∃ a cap, v = .slice a zs.length cap := by
  obtain ⟨a, c, e, _⟩ := h.rd
  exact ⟨a, c, e⟩
set_option maxRecDepth 100000 in
set_option maxHeartbeats 1000000 in
theorem toTale_any (w : World) (vF vR : Value) (f rows : List Int) (hf : Rd w vF f) (hr : Rd w vR rows) (lf : f.length ≤ 1048576) (lr : rows.length ≤ 1048576) :
    Calls Tryz.prog 27 #[.agg #[vF, vR]] w fun e w' => ∃ uF uR, e = .returned (.agg #[uF, uR]) ∧ Own w' w.heap.size uF f ∧ Own w' w.heap.size uR rows ∧ (uF.ownBlock = none ∨ uF.ownBlock ≠ uR.ownBlock) ∧ Keep w w' := by
  have CF := fun (W : World) (kW : Keep w W) => to_any W vF f (hf.keep kW) lf
  have CR := fun (W : World) (kW : Keep w W) => to_any W vR rows (hr.keep kW) lr
  obtain ⟨aF, cF, rfl, -⟩ := hf
  obtain ⟨aR, cR, rfl, -⟩ := hr
  obtain ⟨wA, hwA⟩ : ∃ W : World, W = w.alloc (.cells #[.slice aF f.length cF, .slice aR rows.length cR] 45) := ⟨_, rfl⟩
  have kA : Keep w wA := by rw [hwA]; exact (Keep.refl w).alloc _
  have sA : wA.heap.size = w.heap.size + 1 := by rw [hwA]; exact heap_size _ _
  have bA0 : wA.cell? ⟨w.heap.size, 0, none⟩ = some (.slice aF f.length cF) := by rw [hwA]; exact box_cell (Keep.refl _) 0
  have bA1 : wA.cell? ⟨w.heap.size, 1, none⟩ = some (.slice aR rows.length cR) := by rw [hwA]; exact box_cell (Keep.refl _) 1
  obtain ⟨wB, hwB⟩ : ∃ W : World, W = wA.alloc (taleC nilV nilV) := ⟨_, rfl⟩
  have kB : Keep wA wB := by rw [hwB]; exact (Keep.refl wA).alloc _
  have sB : wB.heap.size = w.heap.size + 1 + 1 := by rw [hwB, heap_size, sA]
  have SB : wB.heap[w.heap.size + 1]? = some (taleC nilV nilV) := by rw [hwB, ← sA]; exact heap_alloc_new wA _
  obtain ⟨wC, hwC⟩ : ∃ W : World, W = wB.alloc (taleC nilV nilV) := ⟨_, rfl⟩
  have kC : Keep wB wC := by rw [hwC]; exact (Keep.refl wB).alloc _
  have sC : wC.heap.size = w.heap.size + 1 + 1 + 1 := by rw [hwC, heap_size, sB]
  have SC : StT wB wC (w.heap.size + 1 + 1) nilV nilV := by rw [hwC, ← sB]; exact StT.start _ _
  have c1 := ((kB.trans kC).cell (by omega : w.heap.size < wA.heap.size)).trans bA1
  have c0 := ((kB.trans kC).cell (by omega : w.heap.size < wA.heap.size)).trans bA0
  have XD : wC.heap[w.heap.size + 1]? = some (taleC nilV nilV) := (Below.block kC _ (by omega)).trans SB
  have K : Keep w wC := (kA.trans kB).trans kC
  have HC := Lib.hid sC
  have lC : w.heap.size < wC.heap.size := by omega
  go_enter Tryz.func27, Tryz.ntmps27
  go_upto_region 2 with fail
  rw [← hwA, ← hwB, ← hwC]
  clear hwA hwB hwC kA kB kC sA sB sC SB bA0 bA1
  go_wp2_with fail
  refine (CF _ K).mono ?_
  rintro e w1 ⟨uF, rfl, oF, k1⟩
  have S1 := SC.keep k1
  obtain ⟨r0, r1⟩ := S1.cells
  have g0 := S1.free 0
  have g1 := S1.free 1
  have d1 := (k1.cell lC).trans c1
  have X1 := blkL XD k1.grownBy (by simp)
  obtain ⟨aU, cU, rfl⟩ := oF.shpL
  have K1 : Keep w (w1.setCell ⟨w.heap.size + 1 + 1, 0, none⟩ (.slice aU f.length cU)) := (K.trans k1).grown (grown_setT _ _ _ _) (by intro g hg; simp at hg; omega)
  clear c0 c1
  go_wp2_with fail
  refine (CR _ K1).mono ?_
  rintro e w2 ⟨uR, rfl, oR, k2⟩
  have S2 := (S1.set0 (.slice aU f.length cU)).keep k2
  have X2 := blkL (blkL X1 (grown_setT w1 (w.heap.size + 1 + 1) 0 (.slice aU f.length cU)) (by simp)) k2.grownBy (by simp)
  have z1 := (grown_setT w1 (w.heap.size + 1 + 1) 0 (.slice aU f.length cU)).size
  have z2 := k1.size
  have z3 := k2.size
  have zc := HC.out
  have oF2 := (oF.other (D := w.heap.size + 1 + 1) (by omega) (grown_setT w1 (w.heap.size + 1 + 1) 0 (.slice aU f.length cU))).keep k2
  have ap : (Value.slice aU f.length cU).ownBlock = none ∨ (Value.slice aU f.length cU).ownBlock ≠ uR.ownBlock := (oF.other (D := w.heap.size + 1 + 1) (by omega) (grown_setT w1 (w.heap.size + 1 + 1) 0 (.slice aU f.length cU))).apart oR
  have K2 := K1.trans k2
  clear r0 r1 g0 g1 d1 S1 X1 K1 k1 k2 oF XD SC
  obtain ⟨aV, cV, rfl⟩ := oR.shpL
  obtain ⟨r0, r1⟩ := S2.cells
  have g0 := S2.free 0
  have g1 := S2.free 1
  have S3 := S2.set1 (.slice aV rows.length cV)
  have X3 : StT w2 (w2.setCell ⟨w.heap.size + 1 + 1, 1, none⟩ (.slice aV rows.length cV)) (w.heap.size + 1) nilV nilV → True := fun _ => trivial
  have G3 := grown_setT w2 (w.heap.size + 1 + 1) 1 (.slice aV rows.length cV)
  have X4 := blkL X2 G3 (by simp)
  have S4 : StT (w2.setCell ⟨w.heap.size + 1 + 1, 1, none⟩ (.slice aV rows.length cV)) (w2.setCell ⟨w.heap.size + 1 + 1, 1, none⟩ (.slice aV rows.length cV)) (w.heap.size + 1) nilV nilV := ⟨X4, grown_draw _ 0 _⟩
  have hZ := (S4.set0 (.slice aU f.length cU)).set1 (.slice aV rows.length cV)
  obtain ⟨q0, q1⟩ := S4.cells
  have q2 := S4.free 0
  have q3 := S4.free 1
  obtain ⟨t0, t1⟩ := S3.cells
  have lz := X4
  have HF := Lib.hid ((oF2.other (D := w.heap.size + 1 + 1) (by omega) G3).other (D := w.heap.size + 1) (by omega) hZ.2)
  have HO := Lib.hid ((oR.other (D := w.heap.size + 1 + 1) (by omega) G3).other (D := w.heap.size + 1) (by omega) hZ.2)
  have HK := Lib.hid ((K2.grown G3 (by intro g hg; simp at hg; omega)).grown hZ.2 (by intro g hg; simp at hg; omega))
  have HZ := Lib.hid hZ.1
  have HZ1 := Lib.hid z1
  clear hZ S4 S3 S2 X4 X3 X2 G3 oF2 oR K2 lz zc
  go_wp2
  refine bodyPost_ret (results_row (by rfl) _ _ (w.heap.size + 1) _ _ (0, 0) _ rfl HZ.out Tryz.underlying27 rfl (by kernel_rfl)) rfl ?_
  exact ⟨_, _, rfl, HF.out.base_le (by have := HC.out; omega), HO.out.base_le (by have := HC.out; have := HZ1.out; omega), ap, HK.out⟩
end Go.Proofs.YtkbkdlaknmgjpaaGreat
