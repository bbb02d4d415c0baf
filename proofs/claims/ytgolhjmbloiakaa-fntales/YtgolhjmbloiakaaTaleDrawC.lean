/- Contract of DrawTaleAt: a work with a number. -/
import Derived.Test.YtgolhjmbloiakaaDrawQ
import Derived.Test.YtgolhjmbloiakaaTaleAtS
import Derived.Test.YtgolhjmbloiakaaL1Max
import Derived.Deep.Cut
namespace Go.Proofs.Ytgolhjmbloiakaa
open Go.ChangeShapes Go.WideShapes Go.ChangeAt Go.RowKit

set_option maxRecDepth 100000 in
set_option maxHeartbeats 4000000 in
theorem drawTaleAt_any (w : World) (a : Option Addr) (cap : Nat) (zs : List Int) (hb : RdB w w.heap.size a zs) :
    Calls Try.prog 9 #[.slice a zs.length cap] w fun e w' => ∃ v dss n, e = .returned (.tuple #[v, .int .i64 n]) ∧ RdW w' v dss ∧ (dss.length ≤ 6 ∧ ∀ i, i < dss.length → (dss.getD i []).length ≤ 7) ∧ Keep w w' := by
  go_enter Try.func9, Try.ntmps9
  go_wp2_with fail
  refine (new_any _ a cap zs hb).mono ?_
  rintro e w1 ⟨rfl, c1, k1⟩
  have hcl := c1.lt
  have hB := c1.1
  go_wp2_with fail
  refine (l5DrawAny_any _ _ _ c1).mono ?_
  rintro e w2 ⟨v, dss, rfl, hR, hS, D2⟩
  have l1 : dss.length ≤ 1048576 := by have := hS.1; omega
  have l2 : ∀ i, i < dss.length → (dss.getD i []).length ≤ 1048576 := fun i hi => by have := hS.2 i hi; omega
  have HS := Lib.hid hS
  have L2 := Lib.hid l2
  clear hS l2
  have hcb := tcB_in dss
  go_wp2_with fail
  refine (specTalesCount_any _ _ _ hR.rd l1 L2.out).mono ?_
  rintro e w3 ⟨rfl, k3⟩
  have R3 := hR.keep k3
  have D3 := D2.keepQ k3
  clear hR D2 k3
  generalize tcB dss = m at hcb
  go_wp2_with fail
  refine (l1Max_any _ _ _).mono ?_
  rintro e w4 ⟨rfl, rfl⟩
  generalize hM : max 1 m = M
  have M0 : 0 < M := by omega
  have M1 : M ≤ 198359290368000 := by omega
  clear hM hcb
  go_wp2_with fail
  refine (once_any _ _ _ _ D3.1 (by omega)).mono ?_
  rintro e w5 ⟨b, rfl, c5, g5⟩
  have R5 := R3.kept g5 hcl
  have D5 := D3.step c5 g5
  clear R3 D3 c5 g5
  cases b
  · go_wp2_with fail
    refine (below_any _ _ _ _ D5.1 (by omega)).mono ?_
    rintro e w6 ⟨x, rfl, x0, x1, c6, g6⟩
    have R6 := Lib.hid (R5.kept g6 hcl).rd
    have D6 := D5.step c6 g6
    have K6 := D6.newQ k1 (Nat.le_refl _)
    clear R5 D5 D6 c6 g6
    go_wp2
    go_ret2
    exact ⟨_, _, _, rfl, R6.out, HS.out, K6⟩
  · have s5 := D5.1.lt
    have hw1 : IntKind.i64.wrap (M - 1) = M - 1 := by rw [IntKind.wrap_i64]; omega
    have CA : Cur (w5.alloc (.cells #[.int .i64 (-1), .int .i64 M, .int .i64 (M - 1)] 2)).drew w.heap.size w.heap.size := D5.1.keep (((Keep.refl w5).alloc _).drew)
    have C0 : Cur w5.drew w.heap.size w.heap.size := D5.1.keep (Keep.refl w5).drew
    go_wp2_with fail
    go_region_law ((first
      | (go_simp
         refine (below_any _ w.heap.size w.heap.size 3 CA (by omega)).mono ?_
         rintro e w6 ⟨x, rfl, x0, x1, c6, g6⟩
         have g7 := grown_trans (grown_drew (w5.alloc (.cells #[.int .i64 (-1), .int .i64 M, .int .i64 (M - 1)] 2)) (some w.heap.size)) g6
         obtain ⟨q, rfl⟩ := Int.eq_ofNat_of_zero_le x0
         obtain ⟨y, hy⟩ := lit_int (w1 := w5) (e := 2) [-1, M, M - 1] g7 (by simp; omega) q (by simp; omega)
         have sz6 := g7.size
         rw [heap_size] at sz6)
      | (go_simp
         refine (below_any _ w.heap.size w.heap.size 3 C0 (by omega)).mono ?_
         rintro e w6 ⟨x, rfl, x0, x1, c6, g6⟩)))
    · have G := grown_trans (World.grownBy_alloc w5 (.cells #[.int .i64 (-1), .int .i64 M, .int .i64 (M - 1)] 2) (some w.heap.size)) g7
      have R6 := Lib.hid (R5.kept G hcl).rd
      have K6 := (D5.step c6 G).newQ k1 (Nat.le_refl _)
      clear R5 D5 g6 g7 G c6
      go_wp2
      go_ret2
      exact ⟨_, _, _, rfl, R6.out, HS.out, K6⟩
    · have G := grown_trans (grown_drew w5 (some w.heap.size)) g6
      have R6 := Lib.hid ((R5.kept G hcl).keep ((Keep.refl w6).alloc (.cells #[.int .i64 (-1), .int .i64 M, .int .i64 (M - 1)] 2))).rd
      have K6 := ((D5.step c6 G).newQ k1 (Nat.le_refl _)).alloc (.cells #[.int .i64 (-1), .int .i64 M, .int .i64 (M - 1)] 2)
      clear R5 D5 g6 G c6
      rcases (show x = 0 ∨ x = 1 ∨ x = 2 by omega) with rfl | rfl | rfl
      · go_wp2
        go_ret2
        exact ⟨_, _, _, rfl, R6.out, HS.out, K6⟩
      · go_wp2
        go_ret2
        exact ⟨_, _, _, rfl, R6.out, HS.out, K6⟩
      · go_wp2
        go_ret2
        exact ⟨_, _, _, rfl, R6.out, HS.out, K6⟩
end Go.Proofs.Ytgolhjmbloiakaa
