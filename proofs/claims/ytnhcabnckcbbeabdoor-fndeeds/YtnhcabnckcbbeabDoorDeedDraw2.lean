/- Contracts of what the law FnDeeds draws: some deed, some text of at most sixteen signs. -/
import Derived.Test.YtnhcabnckcbbeabDoorBendS
import Derived.Test.YtnhcabnckcbbeabDoorShowS
namespace Go.Proofs.YtnhcabnckcbbeabDoor
open Go.ChangeShapes Go.WideShapes Go.ChangeAt Go.RowKit

theorem Dr.new {w W wr : World} {B c : Nat} (h : Dr W wr B c) (k : Keep w W) (hc : w.heap.size ≤ c) : Keep w wr := k.grown h.2 (fun j hj => by simp at hj; omega)
set_option maxRecDepth 100000 in
theorem drawDeed_any (w : World) (a : Option Addr) (cap : Nat) (zs : List Int) (hb : RdB w w.heap.size a zs) :
    Calls Tryd.prog 13 #[.slice a zs.length cap] w fun e w' => ∃ k p v g, e = .returned (deedV k p v g) ∧ Keep w w' := by
  have kR := (Keep.refl w).alloc (deedC 0 0 0 0)
  have hb' := hb.up kR
  have hR0 := Box.new w 0 0 0 0
  have hS := heap_size w (deedC 0 0 0 0)
  go_enter Tryd.func13, Tryd.ntmps13
  go_wp2_with fail
  refine (new_any _ a cap zs hb').mono ?_
  rintro e w1 ⟨rfl, c1, k1⟩
  go_wp2_with fail
  rw [hS] at c1
  refine (l4DrawAny_any _ _ _ c1).mono ?_
  rintro e w2 ⟨k, p, v, g, rfl, D2⟩
  have R2 := (hR0.kept k1.grownBy (by simp)).kept D2.2 (by simp)
  have K2 := D2.new (kR.trans k1) (by omega)
  have hR : St w w2 w.heap.size 0 0 0 0 := ⟨R2, K2.grownBy.os, K2.grownBy.tape, K2.grownBy.output, K2.grownBy.size, fun i hi _ => K2.grownBy.block i hi (by simp)⟩
  obtain ⟨r0, r1, r2, r3⟩ := hR.cells
  have q0 := hR.free 0
  have q1 := hR.free 1
  have q2 := hR.free 2
  have q3 := hR.free 3
  go_wp2
  have hZ := (((hR.set0 k).set1 p).set2 v).set3 g
  refine bodyPost_ret (results_row (by rfl) _ _ w.heap.size _ _ (0, 0) _ rfl hZ.1 Tryd.underlying25 rfl (by kernel_rfl)) rfl ?_
  exact ⟨k, p, v, g, rfl, hZ.keep1⟩
theorem drawShow_any (w : World) (a : Option Addr) (cap : Nat) (zs : List Int) (hb : RdB w w.heap.size a zs) :
    Calls Tryd.prog 5 #[.slice a zs.length cap] w fun e w' => ∃ k p v g, e = .returned (deedV k p v g) ∧ Keep w w' := by
  have kR := (Keep.refl w).alloc (deedC 0 0 0 0)
  have hb' := hb.up kR
  go_enter Tryd.func5, Tryd.ntmps5
  go_wp2_with fail
  refine (drawDeed_any _ a cap zs hb').mono ?_
  rintro e w2 ⟨k, p, v, g, rfl, k2⟩
  have hR : St w w2 w.heap.size 0 0 0 0 := St.keep (St.start 0 0 0 0) k2
  obtain ⟨r0, r1, r2, r3⟩ := hR.cells
  have q0 := hR.free 0
  have q1 := hR.free 1
  have q2 := hR.free 2
  have q3 := hR.free 3
  go_wp2
  have hZ := (((hR.set0 k).set1 p).set2 v).set3 g
  refine bodyPost_ret (results_row (by rfl) _ _ w.heap.size _ _ (0, 0) _ rfl hZ.1 Tryd.underlying25 rfl (by kernel_rfl)) rfl ?_
  exact ⟨k, p, v, g, rfl, hZ.keep1⟩
theorem showD_length (k p v g : Int) : (showD k p v g).length ≤ 14 := by
  unfold showD
  split
  · exact showL_length k p v g
  · simp
set_option maxRecDepth 100000 in
theorem drawRead_any (w : World) (a : Option Addr) (cap : Nat) (zs : List Int) (hb : RdB w w.heap.size a zs) :
    Calls Tryd.prog 7 #[.slice a zs.length cap] w fun e w' => ∃ l, e = .returned (strV l) ∧ l.length ≤ 16 ∧ Keep w w' := by
  go_enter Tryd.func7, Tryd.ntmps7
  go_wp2_with fail
  refine (new_any _ a cap zs hb).mono ?_
  rintro e w1 ⟨rfl, c1, k1⟩
  go_wp2_with fail
  refine (l4DrawAny_any _ _ _ c1).mono ?_
  rintro e w2 ⟨k, p, v, g, rfl, D2⟩
  go_wp2_with fail
  refine (specShowDeed_any _ _ _ _ _).mono ?_
  rintro e w3 ⟨rfl, k3⟩
  have D3 : Dr w1 w3 w.heap.size w.heap.size := D2.keep k3
  have hl := showD_length k p v g
  generalize showD k p v g = l at *
  go_wp2_with fail
  refine (once_any _ _ _ _ D3.1 (by omega)).mono ?_
  rintro e w4 ⟨b, rfl, c4, g4⟩
  have D4 := D3.step c4 g4
  cases b
  · go_wp2
    go_ret
    exact ⟨l, rfl, by omega, D4.new k1 (Nat.le_refl _)⟩
  · go_wp2_with fail
    refine (l1Bend_any _ _ _ l [120, 121, 122, 32, 48, 49, 57, 105, 110] D4.1 (by omega) (by decide) (by decide)).mono ?_
    rintro e w5 ⟨l', rfl, hl', D5⟩
    go_wp2
    go_ret
    exact ⟨l', rfl, by omega, (Dr.step D4 D5.1 D5.2).new k1 (Nat.le_refl _)⟩
end Go.Proofs.YtnhcabnckcbbeabDoor
