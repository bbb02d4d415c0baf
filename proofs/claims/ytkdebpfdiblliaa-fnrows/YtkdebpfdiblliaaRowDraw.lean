/- Contracts of what the laws on rows draw: a work with a list that is mostly rows of it; a work with a number. -/
import Derived.Test.YtkdebpfdiblliaaDrawQ
import Derived.Test.YtkdebpfdiblliaaRowsS
import Derived.Test.YtkdebpfdiblliaaRowsLen
import Derived.Test.YtkdebpfdiblliaaL1Max
import Derived.Test.YtkdebpfdiblliaaOwnSet
namespace Go.Proofs.Ytkdebpfdiblliaa
open Go.ChangeShapes Go.WideShapes Go.ChangeAt Go.RowKit

set_option maxRecDepth 100000 in
set_option maxHeartbeats 4000000 in
theorem l9Draw_any (w : World) (B c : Nat) (hc : Cur w B c) :
    Calls Try.prog 74 #[.pointer (some ⟨c, 0, none⟩)] w fun e w' => ∃ v u dss f, e = .returned (.tuple #[v, u]) ∧ RdW w' v dss ∧ (dss.length ≤ 6 ∧ ∀ i, i < dss.length → (dss.getD i []).length ≤ 7) ∧ Rd w' u f ∧ f.length ≤ 40 ∧ f.length ≤ capZ u ∧ Dr w w' B c := by
  have hcl := hc.lt
  have hB := hc.1
  obtain ⟨i0, hi, hz0, hz1, hz2⟩ := info_parts Try.infoI
  go_enter Try.func74, Try.ntmps74
  go_wp2_with fail
  refine (l5DrawAny_any _ B c hc).mono ?_
  rintro e w1 ⟨v, dss, rfl, hR, hS, D1⟩
  have l1 : dss.length ≤ 1048576 := by have := hS.1; omega
  have l2 : ∀ i, i < dss.length → (dss.getD i []).length ≤ 1048576 := fun i hi => by have := hS.2 i hi; omega
  have HS := Lib.hid hS
  have L2 := Lib.hid l2
  clear hS l2
  have hcb := rcntB_in dss
  have hal := ratB_len dss
  have s1 := D1.2.size
  go_wp2_with fail
  refine (specRowsCount_any _ _ _ hR.rd l1 L2.out).mono ?_
  rintro e w2 ⟨rfl, k2⟩
  have R2 := hR.keep k2
  have D2 := D1.keepQ k2
  have s2 := k2.size
  clear hR D1 k2
  generalize rcntB dss = m at hcb
  go_wp2_with fail
  refine (l1Max_any _ _ _).mono ?_
  rintro e w3 ⟨rfl, rfl⟩
  generalize hM : max 1 m = M
  have M0 : 0 < M := by omega
  have M1 : M ≤ 65548320768000 := by omega
  clear hM hcb
  go_wp2_with fail
  refine (below_any _ B c _ D2.1 (by omega)).mono ?_
  rintro e w4 ⟨x, rfl, x0, x1, c4, g4⟩
  have R4 := R2.kept g4 hcl
  have D4 := D2.step c4 g4
  have s4 := g4.size
  clear R2 D2 c4 g4
  go_wp2_with fail
  refine (specRowsAt_own _ _ _ x R4.rd l1 L2.out).mono ?_
  rintro e w5 ⟨u, rfl, o5, k5⟩
  have G5 : w4.grownBy w5 (some c) := grown_any k5.grownBy _
  have D5 := D4.keepQ k5
  have hL := hal x
  clear D4 k5 hal
  generalize ratB dss x = L at o5 hL
  have hN : c < w4.heap.size := by omega
  have hcz := o5.capz
  obtain ⟨a5, c5, rfl, -⟩ := o5.rd
  go_upto_region 4 with fail
  go_cut [23] from 18 (fun s23 wx => ∃ b : Bool, s23 = .bool b ∧ (b = true → 0 < L.length) ∧ Own wx w4.heap.size (.slice a5 L.length c5) L ∧ w4.grownBy wx (some c) ∧ Dr w wx B c)
  case first =>
    by_cases h0 : 0 < L.length
    · have i0 : (0 : Int) < (L.length : Int) := by omega
      go_wp2_with fail
      refine (once_any _ B c _ D5.1 (by omega)).mono ?_
      rintro e w6 ⟨b, rfl, c6, g6⟩
      go_wp2
      go_meet
      case rel => exact ⟨b, rfl, fun _ => h0, o5.keptC g6 hN, grown_trans G5 g6, D5.step c6 g6⟩
    · have i0 : (L.length : Int) ≤ 0 := by omega
      go_wp2
      go_meet
      case rel => exact ⟨false, rfl, by simp, o5, G5, D5⟩
  case rest =>
    clear o5 G5 D5
    obtain ⟨b, rfl, hb0, o5, G5, D5⟩ := hcut
    go_upto_if 23 with fail
    go_cut [] from 18 (fun wx => ∃ L' : List Int, L'.length = L.length ∧ Own wx w4.heap.size (.slice a5 L.length c5) L' ∧ w4.grownBy wx (some c) ∧ Dr w wx B c)
    case first =>
      cases b
      · go_wp2
        go_meet
        case rel => exact ⟨L, rfl, o5, G5, D5⟩
      · have h0 := hb0 rfl
        have i0 : (0 : Int) < (L.length : Int) := by omega
        go_wp2_with fail
        refine (below_any _ B c _ D5.1 (by omega)).mono ?_
        rintro e w9 ⟨q', rfl, q0, q1, c9, g9⟩
        obtain ⟨q, rfl⟩ := Int.eq_ofNat_of_zero_le q0
        have o9 := o5.keptC g9 hN
        have G9 := grown_trans G5 g9
        have D9 := D5.step c9 g9
        clear o5 G5 D5 c9 g9 q0
        have hql : q < L.length := by omega
        go_wp2_with fail
        refine (from_any _ B c _ _ D9.1 (by omega) (by omega) (by omega)).mono ?_
        rintro e w6 ⟨y, rfl, -, -, c6, g6⟩
        have o6 := o9.keptC g6 hN
        have G6 := grown_trans G9 g6
        have D6 := D9.step c6 g6
        clear o9 G9 D9 c6 g6
        obtain ⟨g, hg⟩ : ∃ g, a5 = some ⟨g, 0, none⟩ := by
          rcases o6.2 with ⟨e, hz⟩ | ⟨g, cap, cur, e, _⟩
          · omega
          · simp only [Value.slice.injEq] at e
            exact ⟨g, e.1⟩
        subst hg
        have hge : w4.heap.size ≤ g := o6.ge g rfl
        have hR := o6.rowAt
        have fr := hR.free q
        have hgl := hR.lt
        have cl := hR.cell (j := q) hql
        have j1 : (0 : Int) ≤ (q : Int) := Int.natCast_nonneg _
        go_wp2
        go_meet
        case rel => exact ⟨L.set q y, by simp, o6.setAt q y, grown_far G6 (grown_set w6 g q _) (by intro j hj; simp at hj; omega), D6.set (by omega) hcl hB q _⟩
    case rest =>
      clear o5 G5 D5 hb0
      obtain ⟨L', hL', o5, G5, D5⟩ := hcut
      go_wp2_with fail
      refine (once_any _ B c _ D5.1 (by omega)).mono ?_
      rintro e w6 ⟨b2, rfl, c6, g6⟩
      have o6 := o5.keptC g6 hN
      have G6 := grown_trans G5 g6
      have D6 := D5.step c6 g6
      clear o5 G5 D5 c6 g6
      cases b2
      · have HR := Lib.hid (R4.kept G6 hcl).rd
        go_wp2
        go_ret2
        exact ⟨_, _, dss, L', rfl, HR.out, HS.out, o6.rd, by omega, by rw [hL']; exact hcz, D6⟩
      · have G7 := grown_trans G6 (World.grownBy_alloc w6 (.cells #[.int .i64 0] 2) (some c))
        have D7 := D6.alloc (.cells #[.int .i64 0] 2)
        have hge : ∀ j, (Value.slice a5 L.length c5).ownBlock = some j → w4.heap.size ≤ j := o6.ge
        rw [← hL'] at o6 hge hL ⊢
        clear hL'
        go_wp2_with (at_builtin; refine wpList_append_own _ rfl _ _ 27 rfl w4.heap.size 2 i0 (.int .i64 0) 1 8 Try.underlying27 hi hz0 hz1 hz2 rfl (by decide) _ _ _ rfl (World.ownsRow.alloc o6 _) ⟨_, 0, none⟩ 1 1 [.int .i64 0] rfl rfl ?c1 ?c2 ?c3 ?c4 ?c5 ?_)
        case c1 =>
          intro j u hj
          match j, hj with
          | 0, hj => simp at hj; subst hj; simp [Addr.add]
        case c2 => intro u hu; simp at hu; subst hu; rfl
        case c3 => unfold maxLen; omega
        case c4 => omega
        case c5 => have := G7.size; omega
        intro v' w8 hown' hgrow _
        have o8 : Own w8 w4.heap.size v' (L' ++ [0]) := own_hit hown'
        have G8 := grown_far G7 hgrow hge
        have D8 := D7.grow hgrow (fun k hk => by have := hge k hk; omega) hcl hB
        have HR := Lib.hid (R4.kept G8 hcl).rd
        clear hgrow hown'
        go_wp2
        go_ret2
        exact ⟨_, _, dss, L' ++ [0], rfl, HR.out, HS.out, o8.rd, by rw [List.length_append]; simp; omega, o8.capz, D8⟩
theorem drawRowsOk_any (w : World) (a : Option Addr) (cap : Nat) (zs : List Int) (hb : RdB w w.heap.size a zs) :
    Calls Try.prog 41 #[.slice a zs.length cap] w fun e w' => ∃ v u dss f, e = .returned (.tuple #[v, u]) ∧ RdW w' v dss ∧ (dss.length ≤ 6 ∧ ∀ i, i < dss.length → (dss.getD i []).length ≤ 7) ∧ Rd w' u f ∧ f.length ≤ 40 ∧ f.length ≤ capZ u ∧ Keep w w' := by
  go_enter Try.func41, Try.ntmps41
  go_wp2_with fail
  refine (new_any _ a cap zs hb).mono ?_
  rintro e w1 ⟨rfl, c1, k1⟩
  go_wp2_with fail
  refine (l9Draw_any _ _ _ c1).mono ?_
  rintro e w2 ⟨v, u, dss, f, rfl, hR, hs, hf, hl, hcz, D2⟩
  have K2 := D2.newQ k1 (Nat.le_refl _)
  have HR := Lib.hid hR
  have HS := Lib.hid hs
  have HF := Lib.hid hf
  clear hR hs hf D2
  go_wp2
  go_ret2
  exact ⟨_, _, _, _, rfl, HR.out, HS.out, HF.out, hl, hcz, K2⟩
theorem drawRowWeb_any (w : World) (a : Option Addr) (cap : Nat) (zs : List Int) (hb : RdB w w.heap.size a zs) :
    Calls Try.prog 12 #[.slice a zs.length cap] w fun e w' => ∃ v u dss f, e = .returned (.tuple #[v, u]) ∧ RdW w' v dss ∧ (dss.length ≤ 6 ∧ ∀ i, i < dss.length → (dss.getD i []).length ≤ 7) ∧ Rd w' u f ∧ f.length ≤ 40 ∧ f.length ≤ capZ u ∧ Keep w w' := by
  go_enter Try.func12, Try.ntmps12
  go_wp2_with fail
  refine (drawRowsOk_any _ a cap zs hb).mono ?_
  rintro e w2 ⟨v, u, dss, f, rfl, hR, hs, hf, hl, hcz, K2⟩
  have HR := Lib.hid hR
  have HS := Lib.hid hs
  have HF := Lib.hid hf
  clear hR hs hf
  go_wp2
  go_ret2
  exact ⟨_, _, _, _, rfl, HR.out, HS.out, HF.out, hl, hcz, K2⟩
set_option maxRecDepth 100000 in
set_option maxHeartbeats 4000000 in
theorem drawRowsAt_any (w : World) (a : Option Addr) (cap : Nat) (zs : List Int) (hb : RdB w w.heap.size a zs) :
    Calls Try.prog 9 #[.slice a zs.length cap] w fun e w' => ∃ v dss n, e = .returned (.tuple #[v, .int .i64 n]) ∧ RdW w' v dss ∧ (dss.length ≤ 6 ∧ ∀ i, i < dss.length → (dss.getD i []).length ≤ 7) ∧ Keep w w' := by
  go_enter Try.func9, Try.ntmps9
  go_wp2_with fail
  refine (new_any _ a cap zs hb).mono ?_
  rintro e w1 ⟨rfl, c1, k1⟩
  have hcl := c1.lt
  have hB := c1.1
  go_wp2_with fail
  refine (l5DrawAny_any _ _ _ c1).mono ?_
  rintro e w2 ⟨v, dss, rfl, hR, hS, D2⟩
  have l1 : dss.length ≤ 1048576 := by have := hS.1; omega
  have l2 : ∀ i, i < dss.length → (dss.getD i []).length ≤ 1048576 := fun i hi => by have := hS.2 i hi; omega
  have HS := Lib.hid hS
  have L2 := Lib.hid l2
  clear hS l2
  have hcb := rcntB_in dss
  go_wp2_with fail
  refine (specRowsCount_any _ _ _ hR.rd l1 L2.out).mono ?_
  rintro e w3 ⟨rfl, k3⟩
  have R3 := hR.keep k3
  have D3 := D2.keepQ k3
  clear hR D2 k3
  generalize rcntB dss = m at hcb
  go_wp2_with fail
  refine (l1Max_any _ _ _).mono ?_
  rintro e w4 ⟨rfl, rfl⟩
  generalize hM : max 1 m = M
  have M0 : 0 < M := by omega
  have M1 : M ≤ 65548320768000 := by omega
  clear hM hcb
  go_wp2_with fail
  refine (once_any _ _ _ _ D3.1 (by omega)).mono ?_
  rintro e w5 ⟨b, rfl, c5, g5⟩
  have R5 := R3.kept g5 hcl
  have D5 := D3.step c5 g5
  clear R3 D3 c5 g5
  cases b
  · go_wp2_with fail
    refine (below_any _ _ _ _ D5.1 (by omega)).mono ?_
    rintro e w6 ⟨x, rfl, x0, x1, c6, g6⟩
    have R6 := Lib.hid (R5.kept g6 hcl).rd
    have D6 := D5.step c6 g6
    have K6 := D6.newQ k1 (Nat.le_refl _)
    clear R5 D5 D6 c6 g6
    go_wp2
    go_ret2
    exact ⟨_, _, _, rfl, R6.out, HS.out, K6⟩
  · have s5 := D5.1.lt
    have hw1 : IntKind.i64.wrap (M - 1) = M - 1 := by rw [IntKind.wrap_i64]; omega
    have CA : Cur (w5.alloc (.cells #[.int .i64 (-1), .int .i64 M, .int .i64 (M - 1)] 2)).drew w.heap.size w.heap.size := D5.1.keep (((Keep.refl w5).alloc _).drew)
    have C0 : Cur w5.drew w.heap.size w.heap.size := D5.1.keep (Keep.refl w5).drew
    go_wp2_with fail
    go_region_law ((first
      | (go_simp
         refine (below_any _ w.heap.size w.heap.size 3 CA (by omega)).mono ?_
         rintro e w6 ⟨x, rfl, x0, x1, c6, g6⟩
         have g7 := grown_trans (grown_drew (w5.alloc (.cells #[.int .i64 (-1), .int .i64 M, .int .i64 (M - 1)] 2)) (some w.heap.size)) g6
         obtain ⟨q, rfl⟩ := Int.eq_ofNat_of_zero_le x0
         obtain ⟨y, hy⟩ := lit_int (w1 := w5) (e := 2) [-1, M, M - 1] g7 (by simp; omega) q (by simp; omega)
         have sz6 := g7.size
         rw [heap_size] at sz6)
      | (go_simp
         refine (below_any _ w.heap.size w.heap.size 3 C0 (by omega)).mono ?_
         rintro e w6 ⟨x, rfl, x0, x1, c6, g6⟩)))
    · have G := grown_trans (World.grownBy_alloc w5 (.cells #[.int .i64 (-1), .int .i64 M, .int .i64 (M - 1)] 2) (some w.heap.size)) g7
      have R6 := Lib.hid (R5.kept G hcl).rd
      have K6 := (D5.step c6 G).newQ k1 (Nat.le_refl _)
      clear R5 D5 g6 g7 G c6
      go_wp2
      go_ret2
      exact ⟨_, _, _, rfl, R6.out, HS.out, K6⟩
    · have G := grown_trans (grown_drew w5 (some w.heap.size)) g6
      have R6 := Lib.hid ((R5.kept G hcl).keep ((Keep.refl w6).alloc (.cells #[.int .i64 (-1), .int .i64 M, .int .i64 (M - 1)] 2))).rd
      have K6 := ((D5.step c6 G).newQ k1 (Nat.le_refl _)).alloc (.cells #[.int .i64 (-1), .int .i64 M, .int .i64 (M - 1)] 2)
      clear R5 D5 g6 G c6
      rcases (show x = 0 ∨ x = 1 ∨ x = 2 by omega) with rfl | rfl | rfl
      · go_wp2
        go_ret2
        exact ⟨_, _, _, rfl, R6.out, HS.out, K6⟩
      · go_wp2
        go_ret2
        exact ⟨_, _, _, rfl, R6.out, HS.out, K6⟩
      · go_wp2
        go_ret2
        exact ⟨_, _, _, rfl, R6.out, HS.out, K6⟩
end Go.Proofs.Ytkdebpfdiblliaa
