/- Contracts of the draws of deeds: some deed comes of each; nothing but the cursor's own block and new memory is written. -/
import Derived.Test.YtkbkdlaknmgjpaaGreatDrawF
import Derived.Test.YtkbkdlaknmgjpaaGreatDeedSt
import Derived.Deep.Cut
import Derived.Lib.Hide
namespace Go.Proofs.YtkbkdlaknmgjpaaGreat
open Go.ChangeShapes Go.WideShapes Go.ChangeAt Go.RowKit

/-- Block D is a deed. -/
def Box (w : World) (D : Nat) (k p v g : Int) : Prop := w.heap[D]? = some (deedC k p v g)
theorem Box.lt {w : World} {D : Nat} {k p v g : Int} (h : Box w D k p v g) : D < w.heap.size := (Array.getElem?_eq_some_iff.1 h).1
theorem Box.kept {w w' : World} {D : Nat} {k p v g : Int} {row : Option Nat} (h : Box w D k p v g) (hg : w.grownBy w' row) (hne : row ≠ some D) : Box w' D k p v g :=
  (hg.block D h.lt (fun e => hne e.symm)).trans h
theorem Box.cells {w : World} {D : Nat} {k p v g : Int} (h : Box w D k p v g) :
    w.cell? ⟨D, 0, none⟩ = some (.int .i64 k) ∧ w.cell? ⟨D, 1, none⟩ = some (.int .i64 p) ∧ w.cell? ⟨D, 2, none⟩ = some (.int .i64 v) ∧ w.cell? ⟨D, 3, none⟩ = some (.int .i64 g) :=
  ⟨cell_of_row w D 0 _ _ (0, 0) h, cell_of_row w D 1 _ _ (0, 0) h, cell_of_row w D 2 _ _ (0, 0) h, cell_of_row w D 3 _ _ (0, 0) h⟩
theorem Box.free {w : World} {D : Nat} {k p v g : Int} (h : Box w D k p v g) : w.frozen? ⟨D, 0, none⟩ = false ∧ w.frozen? ⟨D, 1, none⟩ = false ∧ w.frozen? ⟨D, 2, none⟩ = false ∧ w.frozen? ⟨D, 3, none⟩ = false :=
  ⟨frozen_of_row w D 0 _ _ h, frozen_of_row w D 1 _ _ h, frozen_of_row w D 2 _ _ h, frozen_of_row w D 3 _ _ h⟩
theorem Box.set0 {w : World} {D : Nat} {k p v g : Int} (h : Box w D k p v g) (x : Int) : Box (w.setCell ⟨D, 0, none⟩ (.int .i64 x)) D x p v g := by unfold Box; rw [heap_setCell_same w D 0 _ _ _ h]; rfl
theorem Box.set1 {w : World} {D : Nat} {k p v g : Int} (h : Box w D k p v g) (x : Int) : Box (w.setCell ⟨D, 1, none⟩ (.int .i64 x)) D k x v g := by unfold Box; rw [heap_setCell_same w D 1 _ _ _ h]; rfl
theorem Box.set2 {w : World} {D : Nat} {k p v g : Int} (h : Box w D k p v g) (x : Int) : Box (w.setCell ⟨D, 2, none⟩ (.int .i64 x)) D k p x g := by unfold Box; rw [heap_setCell_same w D 2 _ _ _ h]; rfl
theorem Box.set3 {w : World} {D : Nat} {k p v g : Int} (h : Box w D k p v g) (x : Int) : Box (w.setCell ⟨D, 3, none⟩ (.int .i64 x)) D k p v x := by unfold Box; rw [heap_setCell_same w D 3 _ _ _ h]; rfl
theorem Box.new (w : World) (k p v g : Int) : Box (w.alloc (deedC k p v g)) w.heap.size k p v g := heap_alloc_new w _
/-- A cursor c that stands, all else of w as it was. -/
def Dr (w wr : World) (B c : Nat) : Prop := Cur wr B c ∧ w.grownBy wr (some c)
theorem Dr.step {w wr wr' : World} {B c : Nat} (h : Dr w wr B c) (hc : Cur wr' B c) (hg : wr.grownBy wr' (some c)) : Dr w wr' B c := ⟨hc, grown_trans h.2 hg⟩
theorem Dr.alloc {w wr : World} {B c : Nat} (h : Dr w wr B c) (o : Obj) : Dr w (wr.alloc o) B c :=
  ⟨h.1.keep ((Keep.refl wr).alloc o), grown_trans h.2 (World.grownBy_alloc wr o (some c))⟩
theorem Dr.set {w wr : World} {B c D : Nat} (h : Dr w wr B c) (hD : w.heap.size ≤ D) (hc : c < w.heap.size) (hB : B ≤ c) (j : Nat) (x : Value) : Dr w (wr.setCell ⟨D, j, none⟩ x) B c := by
  have hg := grown_setCell wr D j x
  refine ⟨h.1.kept hg (by simp; omega) (by intro k hk; simp at hk; omega), ?_⟩
  exact ⟨hg.os.trans h.2.os, hg.tape.trans h.2.tape, hg.output.trans h.2.output, Nat.le_trans h.2.size hg.size, fun i hi hne => (hg.block i (Nat.lt_of_lt_of_le hi h.2.size) (by simp; omega)).trans (h.2.block i hi hne)⟩
theorem Dr.refl {w : World} {B c : Nat} (h : Cur w B c) : Dr w w B c := ⟨h, grown_drewN w 0 _⟩
set_option maxRecDepth 100000 in
set_option maxHeartbeats 2000000 in
theorem l4Draw_any (w : World) (B c : Nat) (hc : Cur w B c) :
    Calls Tryz.prog 179 #[.pointer (some ⟨c, 0, none⟩)] w fun e w' => ∃ k p v g, e = .returned (deedV k p v g) ∧ Dr w w' B c ∧ 1 ≤ k ∧ k ≤ 4 := by
  have hcl := hc.lt
  have hB := hc.1
  have R0 := Box.new w 0 0 0 0
  have D0 := (Dr.refl hc).alloc (deedC 0 0 0 0)
  go_enter Tryz.func179, Tryz.ntmps179
  go_wp2_with fail
  refine (below_any _ B c _ D0.1 (by omega)).mono ?_
  rintro e w1 ⟨x, rfl, x0, x1, c1, g1⟩
  have R1 := R0.kept g1 (by simp; omega)
  have D1 := D0.step c1 g1
  clear R0 D0 c1 g1
  go_wp2_with fail
  refine (below_any _ B c _ D1.1 (by omega)).mono ?_
  rintro e w2 ⟨y, rfl, y0, y1, c2, g2⟩
  have R2 := R1.kept g2 (by simp; omega)
  have D2 := D1.step c2 g2
  have S2 := D2.2.size
  clear R1 D1 c2 g2
  have X2 := Box.new w2 (1 + x) y 0 0
  have R2' := R2.kept (World.grownBy_alloc w2 (deedC (1 + x) y 0 0) none) (by simp)
  have D2' := D2.alloc (deedC (1 + x) y 0 0)
  have hRX : w.heap.size < w2.heap.size := R2.lt
  clear R2 D2
  go_wp2_with fail
  refine (once_any _ B c _ D2'.1 (by omega)).mono ?_
  rintro e w3 ⟨b, rfl, c3, g3⟩
  have X3 := X2.kept g3 (by simp; omega)
  have R3 := R2'.kept g3 (by simp; omega)
  have D3 := D2'.step c3 g3
  clear X2 R2' D2' c3 g3
  obtain ⟨s0, s1, s2, s3⟩ := X3.cells
  obtain ⟨f0, f1, f2, f3⟩ := X3.free
  have hX3 := X3.lt
  go_upto_if 11 with fail
  go_cut [] from 4 (fun wx => ∃ K, 1 ≤ K ∧ K ≤ 4 ∧ Box wx w2.heap.size K y 0 0 ∧ Box wx w.heap.size 0 0 0 0 ∧ Dr w wx B c)
  case first =>
    cases b
    · go_wp2
      go_meet
      case rel => exact ⟨_, by omega, by omega, X3, R3, D3⟩
    · go_wp2_with fail
      refine (below_any _ B c _ D3.1 (by omega)).mono ?_
      rintro e w4 ⟨z, rfl, z0, z1, c4, g4⟩
      have X4 := X3.kept g4 (by simp; omega)
      have R4 := R3.kept g4 (by simp; omega)
      have D4 := D3.step c4 g4
      obtain ⟨t0, t1, t2, t3⟩ := X4.cells
      obtain ⟨h0, h1, h2, h3⟩ := X4.free
      have hX4 := X4.lt
      go_wp2
      go_meet
      case rel => exact ⟨_, by omega, by omega, X4.set0 _, R4.kept (grown_setCell w4 _ 0 _) (by simp; omega), D4.set (by omega) hcl hB 0 _⟩
  case rest =>
    obtain ⟨K, k0, k1, X4, R4, D4⟩ := hcut
    clear X3 R3 D3 s0 s1 s2 s3 f0 f1 f2 f3 hX3
    obtain ⟨t0, t1, t2, t3⟩ := X4.cells
    obtain ⟨h0, h1, h2, h3⟩ := X4.free
    have hX4 := X4.lt
    have hK : K = 1 ∨ K = 2 ∨ K = 3 ∨ K = 4 := by omega
    rcases hK with rfl | rfl | rfl | rfl
    · clear k0 k1
      obtain ⟨r0, r1, r2, r3⟩ := R4.cells
      obtain ⟨q0, q1, q2, q3⟩ := R4.free
      go_wp2
      have hZ := (((R4.set0 1).set1 y).set2 0).set3 0
      refine bodyPost_ret (results_row (by rfl) _ _ w.heap.size _ _ (0, 0) _ rfl hZ Tryz.underlying96 rfl (by kernel_rfl)) rfl ?_
      exact ⟨_, _, _, _, rfl, (((D4.set (Nat.le_refl _) hcl hB 0 _).set (Nat.le_refl _) hcl hB 1 _).set (Nat.le_refl _) hcl hB 2 _).set (Nat.le_refl _) hcl hB 3 _, by decide, by decide⟩
    · clear k0 k1
      go_wp2_with fail
      refine (below_any _ B c _ D4.1 (by omega)).mono ?_
      rintro e w5 ⟨z, rfl, z0, z1, c5, g5⟩
      have X5 := X4.kept g5 (by simp; omega)
      have R5 := R4.kept g5 (by simp; omega)
      have D5 := D4.step c5 g5
      obtain ⟨v0, v1, v2, v3⟩ := X5.cells
      obtain ⟨n0, n1, n2, n3⟩ := X5.free
      have hX5 := X5.lt
      have R6 := R5.kept (grown_setCell w5 w2.heap.size 2 (.int .i64 (1 + z))) (by simp; omega)
      have D6 := D5.set (show w.heap.size ≤ w2.heap.size by omega) hcl hB 2 (.int .i64 (1 + z))
      obtain ⟨r0, r1, r2, r3⟩ := R6.cells
      obtain ⟨q0, q1, q2, q3⟩ := R6.free
      go_wp2
      have hZ := (((R6.set0 2).set1 y).set2 (1 + z)).set3 0
      refine bodyPost_ret (results_row (by rfl) _ _ w.heap.size _ _ (0, 0) _ rfl hZ Tryz.underlying96 rfl (by kernel_rfl)) rfl ?_
      exact ⟨_, _, _, _, rfl, (((D6.set (Nat.le_refl _) hcl hB 0 _).set (Nat.le_refl _) hcl hB 1 _).set (Nat.le_refl _) hcl hB 2 _).set (Nat.le_refl _) hcl hB 3 _, by decide, by decide⟩
    · clear k0 k1
      go_wp2_with fail
      refine (below_any _ B c _ D4.1 (by omega)).mono ?_
      rintro e w5 ⟨z, rfl, z0, z1, c5, g5⟩
      have X5 := X4.kept g5 (by simp; omega)
      have R5 := R4.kept g5 (by simp; omega)
      have D5 := D4.step c5 g5
      obtain ⟨v0, v1, v2, v3⟩ := X5.cells
      obtain ⟨n0, n1, n2, n3⟩ := X5.free
      have hX5 := X5.lt
      have R6 := R5.kept (grown_setCell w5 w2.heap.size 2 (.int .i64 (1 + z))) (by simp; omega)
      have D6 := D5.set (show w.heap.size ≤ w2.heap.size by omega) hcl hB 2 (.int .i64 (1 + z))
      obtain ⟨r0, r1, r2, r3⟩ := R6.cells
      obtain ⟨q0, q1, q2, q3⟩ := R6.free
      go_wp2
      have hZ := (((R6.set0 3).set1 y).set2 (1 + z)).set3 0
      refine bodyPost_ret (results_row (by rfl) _ _ w.heap.size _ _ (0, 0) _ rfl hZ Tryz.underlying96 rfl (by kernel_rfl)) rfl ?_
      exact ⟨_, _, _, _, rfl, (((D6.set (Nat.le_refl _) hcl hB 0 _).set (Nat.le_refl _) hcl hB 1 _).set (Nat.le_refl _) hcl hB 2 _).set (Nat.le_refl _) hcl hB 3 _, by decide, by decide⟩
    · clear k0 k1
      have R6 := R4.kept (grown_setCell wc w2.heap.size 1 (.int .i64 0)) (by simp; omega)
      have D6 := D4.set (show w.heap.size ≤ w2.heap.size by omega) hcl hB 1 (.int .i64 0)
      obtain ⟨r0, r1, r2, r3⟩ := R6.cells
      obtain ⟨q0, q1, q2, q3⟩ := R6.free
      go_wp2
      have hZ := (((R6.set0 4).set1 0).set2 0).set3 0
      refine bodyPost_ret (results_row (by rfl) _ _ w.heap.size _ _ (0, 0) _ rfl hZ Tryz.underlying96 rfl (by kernel_rfl)) rfl ?_
      exact ⟨_, _, _, _, rfl, (((D6.set (Nat.le_refl _) hcl hB 0 _).set (Nat.le_refl _) hcl hB 1 _).set (Nat.le_refl _) hcl hB 2 _).set (Nat.le_refl _) hcl hB 3 _, by decide, by decide⟩
set_option maxRecDepth 100000 in
set_option maxHeartbeats 4000000 in
theorem l4DrawAny_any (w : World) (B c : Nat) (hc : Cur w B c) :
    Calls Tryz.prog 172 #[.pointer (some ⟨c, 0, none⟩)] w fun e w' => ∃ k p v g, e = .returned (deedV k p v g) ∧ Dr w w' B c := by
  have hcl := hc.lt
  have hB := hc.1
  have R0 := Box.new w 0 0 0 0
  have D0 := (Dr.refl hc).alloc (deedC 0 0 0 0)
  go_enter Tryz.func172, Tryz.ntmps172
  go_wp2_with fail
  refine (l4Draw_any _ B c D0.1).mono ?_
  rintro e w1 ⟨k, p, v, g, rfl, ⟨c1, g1⟩, -, -⟩
  have R1 := R0.kept g1 (by simp; omega)
  have D1 := D0.step c1 g1
  clear R0 D0 c1 g1
  have hRX : w.heap.size < w1.heap.size := R1.lt
  have X2 := Box.new w1 k p v g
  have R2 := R1.kept (World.grownBy_alloc w1 (deedC k p v g) none) (by simp)
  have D2 := D1.alloc (deedC k p v g)
  clear R1 D1
  obtain ⟨W2, hW2⟩ : ∃ W2, W2 = w1.alloc (deedC k p v g) := ⟨_, rfl⟩
  go_upto_region 2 with fail
  go_cut [12] from 4 (fun s12 wx => ∃ b, s12 = .bool b ∧ Box wx w1.heap.size k p v g ∧ Box wx w.heap.size 0 0 0 0 ∧ Dr w wx B c)
  case first =>
    clear hW2
    by_cases hk : k ≤ 2
    · go_wp2_with fail
      refine (once_any _ B c _ D2.1 (by omega)).mono ?_
      rintro e w3 ⟨b, rfl, c3, g3⟩
      go_wp2
      go_meet
      case rel => exact ⟨_, rfl, X2.kept g3 (by simp; omega), R2.kept g3 (by simp; omega), D2.step c3 g3⟩
    · go_wp2
      go_meet
      case rel => exact ⟨_, rfl, X2, R2, D2⟩
  case rest =>
    obtain ⟨b, rfl, X3, R3, D3⟩ := hcut
    clear X2 R2 D2 hW2
    go_upto_if 12 with fail
    go_cut [] from 4 (fun wx => ∃ g, Box wx w1.heap.size k p v g ∧ Box wx w.heap.size 0 0 0 0 ∧ Dr w wx B c)
    case first =>
      cases b
      · go_wp2
        go_meet
        case rel => exact ⟨_, X3, R3, D3⟩
      · go_wp2_with fail
        refine (below_any _ B c _ D3.1 (by omega)).mono ?_
        rintro e w4 ⟨z, rfl, z0, z1, c4, g4⟩
        have X4 := X3.kept g4 (by simp; omega)
        have R4 := R3.kept g4 (by simp; omega)
        have D4 := D3.step c4 g4
        obtain ⟨t0, t1, t2, t3⟩ := X4.cells
        obtain ⟨h0, h1, h2, h3⟩ := X4.free
        have hX4 := X4.lt
        go_wp2
        go_meet
        case rel => exact ⟨_, X4.set3 _, R4.kept (grown_setCell w4 _ 3 _) (by simp; omega), D4.set (by omega) hcl hB 3 _⟩
    case rest =>
      clear X3 R3 D3
      obtain ⟨g, X3, R3, D3⟩ := hcut
      go_wp2_with fail
      refine (once_any _ B c _ D3.1 (by omega)).mono ?_
      rintro e w4 ⟨b, rfl, c4, g4⟩
      have X4 := X3.kept g4 (by simp; omega)
      have R4 := R3.kept g4 (by simp; omega)
      have D4 := D3.step c4 g4
      clear X3 R3 D3 c4 g4
      go_upto_if 18 with fail
      go_cut [] from 4 (fun wx => ∃ k p v g, Box wx w1.heap.size k p v g ∧ Box wx w.heap.size 0 0 0 0 ∧ Dr w wx B c)
      case first =>
        cases b
        · go_wp2
          go_meet
          case rel => exact ⟨_, _, _, _, X4, R4, D4⟩
        go_wp2_with fail
        refine (below_any _ B c _ D4.1 (by omega)).mono ?_
        rintro e w5 ⟨q, rfl, q0, q1, c5, g5⟩
        have X5 := X4.kept g5 (by simp; omega)
        have R5 := R4.kept g5 (by simp; omega)
        have D5 := D4.step c5 g5
        have hX5 := X5.lt
        clear X4 R4 D4 c5 g5
        have hq : q = 0 ∨ q = 1 ∨ q = 2 ∨ q = 3 := by omega
        clear q0 q1
        rcases hq with rfl | rfl | rfl | rfl
        · go_wp2_with fail
          refine (from_any _ B c _ _ D5.1 (by omega) (by omega) (by omega)).mono ?_
          rintro e w6 ⟨z, rfl, z0, z1, c6, g6⟩
          have X6 := X5.kept g6 (by simp; omega)
          have R6 := R5.kept g6 (by simp; omega)
          have D6 := D5.step c6 g6
          obtain ⟨v0, v1, v2, v3⟩ := X6.cells
          obtain ⟨n0, n1, n2, n3⟩ := X6.free
          have hX6 := X6.lt
          go_wp2
          go_meet
          case rel => exact ⟨_, _, _, _, X6.set0 _, R6.kept (grown_setCell w6 _ 0 _) (by simp; omega), D6.set (by omega) hcl hB 0 _⟩
        · have DL := D5.alloc (.cells #[.int .i64 (-1), .int .i64 2, .int .i64 3] 2)
          have XL := X5.kept (World.grownBy_alloc w5 (.cells #[.int .i64 (-1), .int .i64 2, .int .i64 3] 2) none) (by simp)
          have RL := R5.kept (World.grownBy_alloc w5 (.cells #[.int .i64 (-1), .int .i64 2, .int .i64 3] 2) none) (by simp)
          have hSz := heap_size w5 (.cells #[.int .i64 (-1), .int .i64 2, .int .i64 3] 2)
          go_wp2_with fail
          refine (below_any _ B c _ DL.1 (by omega)).mono ?_
          rintro e w6 ⟨z, rfl, z0, z1, c6, g6⟩
          obtain ⟨zn, rfl⟩ := Int.eq_ofNat_of_zero_le z0
          obtain ⟨y, hy⟩ := lit_int (w1 := w5) (e := 2) [-1, 2, 3] g6 (by simp; omega) zn (by simp; omega)
          have hS6 : w5.heap.size < w6.heap.size := by have := g6.size; omega
          have X6 := XL.kept g6 (by simp; omega)
          have R6 := RL.kept g6 (by simp; omega)
          have D6 := DL.step c6 g6
          clear DL XL RL hSz c6 g6
          obtain ⟨v0, v1, v2, v3⟩ := X6.cells
          obtain ⟨n0, n1, n2, n3⟩ := X6.free
          have hX6 := X6.lt
          go_wp2
          go_meet
          case rel => exact ⟨_, _, _, _, X6.set1 _, R6.kept (grown_setCell w6 _ 1 _) (by simp; omega), D6.set (by omega) hcl hB 1 _⟩
        · have DL := D5.alloc (.cells #[.int .i64 (-1), .int .i64 0, .int .i64 9, .int .i64 10] 2)
          have XL := X5.kept (World.grownBy_alloc w5 (.cells #[.int .i64 (-1), .int .i64 0, .int .i64 9, .int .i64 10] 2) none) (by simp)
          have RL := R5.kept (World.grownBy_alloc w5 (.cells #[.int .i64 (-1), .int .i64 0, .int .i64 9, .int .i64 10] 2) none) (by simp)
          have hSz := heap_size w5 (.cells #[.int .i64 (-1), .int .i64 0, .int .i64 9, .int .i64 10] 2)
          go_wp2_with fail
          refine (below_any _ B c _ DL.1 (by omega)).mono ?_
          rintro e w6 ⟨z, rfl, z0, z1, c6, g6⟩
          obtain ⟨zn, rfl⟩ := Int.eq_ofNat_of_zero_le z0
          obtain ⟨y, hy⟩ := lit_int (w1 := w5) (e := 2) [-1, 0, 9, 10] g6 (by simp; omega) zn (by simp; omega)
          have hS6 : w5.heap.size < w6.heap.size := by have := g6.size; omega
          have X6 := XL.kept g6 (by simp; omega)
          have R6 := RL.kept g6 (by simp; omega)
          have D6 := DL.step c6 g6
          clear DL XL RL hSz c6 g6
          obtain ⟨v0, v1, v2, v3⟩ := X6.cells
          obtain ⟨n0, n1, n2, n3⟩ := X6.free
          have hX6 := X6.lt
          go_wp2
          go_meet
          case rel => exact ⟨_, _, _, _, X6.set2 _, R6.kept (grown_setCell w6 _ 2 _) (by simp; omega), D6.set (by omega) hcl hB 2 _⟩
        · have DL := D5.alloc (.cells #[.int .i64 (-1), .int .i64 9, .int .i64 10] 2)
          have XL := X5.kept (World.grownBy_alloc w5 (.cells #[.int .i64 (-1), .int .i64 9, .int .i64 10] 2) none) (by simp)
          have RL := R5.kept (World.grownBy_alloc w5 (.cells #[.int .i64 (-1), .int .i64 9, .int .i64 10] 2) none) (by simp)
          have hSz := heap_size w5 (.cells #[.int .i64 (-1), .int .i64 9, .int .i64 10] 2)
          go_wp2_with fail
          refine (below_any _ B c _ DL.1 (by omega)).mono ?_
          rintro e w6 ⟨z, rfl, z0, z1, c6, g6⟩
          obtain ⟨zn, rfl⟩ := Int.eq_ofNat_of_zero_le z0
          obtain ⟨y, hy⟩ := lit_int (w1 := w5) (e := 2) [-1, 9, 10] g6 (by simp; omega) zn (by simp; omega)
          have hS6 : w5.heap.size < w6.heap.size := by have := g6.size; omega
          have X6 := XL.kept g6 (by simp; omega)
          have R6 := RL.kept g6 (by simp; omega)
          have D6 := DL.step c6 g6
          clear DL XL RL hSz c6 g6
          obtain ⟨v0, v1, v2, v3⟩ := X6.cells
          obtain ⟨n0, n1, n2, n3⟩ := X6.free
          have hX6 := X6.lt
          go_wp2
          go_meet
          case rel => exact ⟨_, _, _, _, X6.set3 _, R6.kept (grown_setCell w6 _ 3 _) (by simp; omega), D6.set (by omega) hcl hB 3 _⟩
      case rest =>
        clear X4 R4 D4
        obtain ⟨k, p, v, g, X4, R4, D4⟩ := hcut
        obtain ⟨t0, t1, t2, t3⟩ := X4.cells
        have hX4 := X4.lt
        obtain ⟨r0, r1, r2, r3⟩ := R4.cells
        obtain ⟨q0, q1, q2, q3⟩ := R4.free
        go_wp2
        have hZ := (((R4.set0 k).set1 p).set2 v).set3 g
        refine bodyPost_ret (results_row (by rfl) _ _ w.heap.size _ _ (0, 0) _ rfl hZ Tryz.underlying96 rfl (by kernel_rfl)) rfl ?_
        exact ⟨_, _, _, _, rfl, (((D4.set (Nat.le_refl _) hcl hB 0 _).set (Nat.le_refl _) hcl hB 1 _).set (Nat.le_refl _) hcl hB 2 _).set (Nat.le_refl _) hcl hB 3 _⟩
end Go.Proofs.YtkbkdlaknmgjpaaGreat
