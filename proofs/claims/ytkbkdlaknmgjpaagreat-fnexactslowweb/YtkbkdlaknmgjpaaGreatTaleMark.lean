/- The laws' markTale. (Written by mkte.py.) -/
import Derived.Test.YtkbkdlaknmgjpaaGreatMD
import Derived.Test.YtkbkdlaknmgjpaaGreatMarkRow
import Derived.Lib.Hide
namespace Go.Proofs.YtkbkdlaknmgjpaaGreat
open Go.ChangeShapes Go.WideShapes Go.ChangeAt Go.RowKit

set_option maxHeartbeats 1000000 in
theorem markTale_any (w : World) (base : Nat) (vF vR : Value) (f rows : List Int) (k : Int) (hf : Row w base vF f) (hr : Row w base vR rows) (ap : vF.ownBlock = none ∨ vF.ownBlock ≠ vR.ownBlock) (lf : f.length ≤ 1048576) (lr : rows.length ≤ 1048576) (h0 : 1 ≤ k) (h1 : k ≤ 8388608) :
    Calls Tryz.prog 32 #[.agg #[vF, vR], .int .i64 k] w fun e w' => e = .returned (.int .i64 (k + f.length + rows.length)) ∧ Row w' base vF (marks k f.length) ∧ Row w' base vR (marks (k + f.length) rows.length) ∧ ∃ w1 w2, Keep w w1 ∧ w1.grownBy w2 vF.ownBlock ∧ w2.grownBy w' vR.ownBlock := by
  have kB : Keep w (w.alloc (.cells #[vF, vR] 27)) := (Keep.refl w).alloc _
  have bc := box_cell (Keep.refl (w.alloc (.cells #[vF, vR] 27)))
  have b0 := bc 0
  have b1 := bc 1
  simp at b0 b1
  have bl : (w.alloc (.cells #[vF, vR] 27)).heap.size = w.heap.size + 1 := heap_size _ _
  have hF := hf.keep kB
  have hR := hr.keep kB
  have nF : vF.ownBlock ≠ some w.heap.size := fun e => by have := (hf.lt _ e).2; omega
  have apR : vR.ownBlock = none ∨ vR.ownBlock ≠ vF.ownBlock := by
    rcases ap with e | e
    · cases hu : vR.ownBlock with
      | none => exact .inl rfl
      | some k => exact .inr (by rw [e]; simp)
    · exact .inr (fun h => e h.symm)
  have C := fun (W : World) (h : Row W base vF f) => mark_row W base vF k f h lf h0 (by omega)
  have C2 := fun (W : World) (h : Row W base vR rows) => mark_row W base vR (k + f.length) rows h lr (by omega) (by omega)
  obtain ⟨aF, cF, hvF, -⟩ := hf.rd
  obtain ⟨aR, cR, hvR, -⟩ := hr.rd
  subst hvF hvR
  have blk := heap_alloc_new w (.cells #[.slice aF f.length cF, .slice aR rows.length cR] 27)
  go_enter Tryz.func32, Tryz.ntmps32
  go_wp2_with fail
  refine (C _ hF).mono ?_
  rintro e w1 ⟨rfl, m1, g1⟩
  have R1 := hR.kept g1 apR
  have B1 : w1.heap[w.heap.size]? = some (.cells #[.slice aF f.length cF, .slice aR rows.length cR] 27) := (g1.block _ (by rw [bl]; omega) nF.symm).trans blk
  have c1 : w1.cell? ⟨w.heap.size, 1, none⟩ = some (.slice aR rows.length cR) := cell_of_row w1 w.heap.size 1 _ _ (0, 0) B1
  clear b0 b1 bc blk B1
  go_wp2_with fail
  refine (C2 _ R1).mono ?_
  rintro e w2 ⟨rfl, m2, g2⟩
  have HF := Lib.hid (m1.kept g2 ap)
  have HR := Lib.hid m2
  have HG := Lib.hid g1
  have HG2 := Lib.hid g2
  have HB := Lib.hid kB
  clear m1 m2 g1 g2 R1 hF hR C C2 kB c1
  go_wp2
  go_ret
  exact ⟨rfl, HF.out, HR.out, _, _, HB.out, HG.out, HG2.out⟩
end Go.Proofs.YtkbkdlaknmgjpaaGreat
