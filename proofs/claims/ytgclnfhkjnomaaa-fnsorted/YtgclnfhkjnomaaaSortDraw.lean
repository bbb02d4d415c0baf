/- Contracts of the draws for Round, Sorted and Follows. -/
import Derived.Test.YtgclnfhkjnomaaaOrderDraw
import Derived.Test.YtgclnfhkjnomaaaDrawF
import Derived.Test.YtgclnfhkjnomaaaSortedS
import Derived.Test.YtgclnfhkjnomaaaHeapM
namespace Go.Proofs.Ytgclnfhkjnomaaa
open Go.ChangeShapes Go.WideShapes Go.ChangeAt Go.RowKit

theorem drawRound_any (w : World) (a : Option Addr) (cap : Nat) (zs : List Int) (hb : RdB w w.heap.size a zs) :
    Calls Try.prog 77 #[.slice a zs.length cap] w fun e w' => ∃ v l, e = .returned v ∧ Row w' w.heap.size v l ∧ l.length ≤ 13 ∧ Keep w w' := by
  go_enter Try.func77, Try.ntmps77
  go_wp2_with fail
  refine (new_any _ _ _ _ hb).mono ?_
  rintro e w1 ⟨rfl, c1, k1⟩
  have hs := k1.size
  go_wp2_with fail
  refine (l3Draw_any _ _ _ c1).mono ?_
  rintro e w2 ⟨v, l, rfl, r2, hl, c2, g2⟩
  go_wp2
  go_ret
  exact ⟨_, l, rfl, r2.base_le hs, hl, k1.grown g2 (by simp)⟩
theorem drawSorted_any (w : World) (a : Option Addr) (cap : Nat) (zs : List Int) (hb : RdB w w.heap.size a zs) :
    Calls Try.prog 42 #[.slice a zs.length cap] w fun e w' => ∃ v l, e = .returned v ∧ Row w' w.heap.size v l ∧ l.length ≤ 13 ∧ Keep w w' := by
  go_enter Try.func42, Try.ntmps42
  go_wp2_with fail
  refine (drawRound_any _ _ _ _ hb).mono ?_
  rintro e w2 ⟨v, l, rfl, r2, hl, k2⟩
  go_wp2
  go_ret
  exact ⟨_, l, rfl, r2, hl, k2⟩
set_option maxRecDepth 100000 in
set_option maxHeartbeats 4000000 in
theorem drawFollows_any (w : World) (a : Option Addr) (cap : Nat) (zs : List Int) (hb : RdB w w.heap.size a zs) :
    Calls Try.prog 44 #[.slice a zs.length cap] w fun e w' => ∃ va vb la lb, e = .returned (.tuple #[va, vb]) ∧ Row w' w.heap.size va la ∧ Row w' w.heap.size vb lb ∧ la.length ≤ 13 ∧ lb.length ≤ 13 ∧ Keep w w' := by
  obtain ⟨i0, hi, hz0, hz1, hz2⟩ := info_parts Try.infoI
  go_enter Try.func44, Try.ntmps44
  go_wp2_with fail
  refine (new_any _ _ _ _ hb).mono ?_
  rintro e w1 ⟨rfl, c1, k1⟩
  have hs1 := c1.lt
  go_wp2_with fail
  refine (l3Draw_any _ _ _ c1).mono ?_
  rintro e w2 ⟨va, la, rfl, r2, hla, c2, g2⟩
  have k2 := k1.grown g2 (by simp)
  have hs2 := g2.size
  have r2' := r2.base_le (show w.heap.size + 1 ≤ w1.heap.size by omega)
  have hva : ∀ k, va.ownBlock = some k → k < w2.heap.size := fun k hk => (r2.lt k hk).2
  have hg2 := c2.lt
  clear c1 g2 k1 r2
  obtain ⟨aa, ca, rfl, _⟩ := r2'.rd
  have hL12 := sortedL_len la
  go_wp2_with fail
  refine (specSortedO_any _ _ _ r2'.rd (by omega)).mono ?_
  rintro e w3 ⟨vl, rfl, o3, k3⟩
  have r3 := r2'.keep k3
  have c3 := c2.keep k3
  have K3 := k2.trans k3
  have hs3 := k3.size
  clear r2' c2 k2 k3
  generalize sortedL la = L at *
  obtain ⟨al, cl, rfl, _⟩ := o3.rd
  by_cases hn : 1 < L.length
  · go_wp2_with fail
    refine (once_any _ _ _ _ c3 (by omega)).mono ?_
    rintro e w4 ⟨b, rfl, c4, g4⟩
    have o4 := o3.kept g4 (own_ne' o3 (by omega))
    have r4 := r3.kept g4 (row_ne r3)
    have K4 := K3.grown g4 (by simp)
    have h4 := Nat.le_trans hs3 g4.size
    clear o3 r3 K3 c3 g4
    cases b
    · have oN := o4
      have rN := r4
      have KN := K4
      have cN := c4
      have hB := h4
      clear o4 r4 K4 c4 h4
      go_wp2_with fail
      refine (once_any _ _ _ _ cN (by omega)).mono ?_
      rintro e wM ⟨bb, rfl, cM, gM⟩
      have oM := oN.kept gM (own_ne' oN (by omega))
      have rM := rN.kept gM (row_ne rN)
      have KM := KN.grown gM (by simp)
      have hM := Nat.le_trans hB gM.size
      clear oN rN KN cN gM
      cases bb
      · go_wp2
        go_ret2
        exact ⟨_, _, la, L, rfl, rM.base_le (by omega), oM.row.base_le (by omega), hla, by omega, KM⟩
      · go_wp2_with fail
        refine (from_any _ _ _ _ _ cM (by omega) (by omega) (by omega)).mono ?_
        rintro e wP ⟨xx, rfl, xx0, xx1, cP, gP⟩
        have oP := oM.kept gP (own_ne' oM (by omega))
        have rP := rM.kept gP (row_ne rM)
        have KP := KM.grown gP (by simp)
        have hP := Nat.le_trans hM gP.size
        clear oM rM KM cM gP
        have m1 : L.length + 1 ≤ maxLen := by unfold maxLen; omega
        have m3 : (L.length + 1) * 8 ≤ 140737488355328 := by omega
        go_wp2_with (at_builtin; refine wpList_append_own _ rfl _ _ 25 rfl w2.heap.size 2 i0 (.int .i64 0) 1 8 Try.underlying25 hi hz0 hz1 hz2 rfl (by decide) _ _ _ rfl (World.ownsRow.alloc oP _) ⟨_, 0, none⟩ 1 1 [.int .i64 xx] rfl rfl (news_int _ _ _) (int_cell _) m1 m3 (by simp; omega) ?_)
        intro vQ wQ hown' hgrow _
        have KQ := (KP.alloc (.cells #[.int .i64 xx] 2)).grown hgrow (fun k hk => by have := oP.ge k hk; omega)
        have rQ := (rP.keep ((Keep.refl wP).alloc (.cells #[.int .i64 xx] 2))).kept hgrow (by
          cases hv : (Value.slice aa la.length ca).ownBlock with
          | none => exact .inl rfl
          | some k => exact .inr (fun e => by have h1 := oP.ge k e.symm; have h2 := hva k hv; omega))
        have oQ := own_hit hown'
        have hlQ : (L ++ [xx]).length ≤ 13 := by rw [List.length_append]; simp; omega
        clear hgrow hown' oP rP cP KP m1 m3
        go_wp2
        go_ret2
        exact ⟨_, _, la, L ++ [xx], rfl, rQ.base_le (by omega), oQ.row.base_le (by omega), hla, hlQ, KQ⟩
    · have n1 : (1 : Int) ≤ (L.length : Int) := by omega
      go_wp2_with fail
      refine (below_any _ _ _ _ c4 n1).mono ?_
      rintro e w5 ⟨x, rfl, x0, x1, c5, g5⟩
      have o5 := o4.kept g5 (own_ne' o4 (by omega))
      have r5 := r4.kept g5 (row_ne r4)
      have K5 := K4.grown g5 (by simp)
      have h5 := Nat.le_trans h4 g5.size
      clear o4 r4 K4 c4 g5
      go_wp2_with fail
      refine (below_any _ _ _ _ c5 n1).mono ?_
      rintro e w6 ⟨y, rfl, y0, y1, c6, g6⟩
      have o6 := o5.kept g6 (own_ne' o5 (by omega))
      have r6 := r5.kept g6 (row_ne r5)
      have K6 := K5.grown g6 (by simp)
      have h6 := Nat.le_trans h5 g6.size
      clear o5 r5 K5 c5 g6
      obtain ⟨i, rfl⟩ := Int.eq_ofNat_of_zero_le x0
      obtain ⟨j, rfl⟩ := Int.eq_ofNat_of_zero_le y0
      have hil : i < L.length := by omega
      have hjl : j < L.length := by omega
      obtain ⟨gl, hal, hgl⟩ : ∃ gl, al = some ⟨gl, 0, none⟩ ∧ w2.heap.size ≤ gl := by
        rcases o6.2 with ⟨e, _⟩ | ⟨gl, cap', cur, e, hgl, _⟩
        · injection e with _ e2 _; omega
        · cases e; exact ⟨gl, rfl, hgl⟩
      subst hal
      have hrow := o6.rowAt
      have di := hrow.cell hil
      have dj := hrow.cell hjl
      have fi := hrow.free i
      have fj := hrow.free j
      have oS := (o6.setAt i (L.getD j 0)).setAt j (L.getD i 0)
      have G := grown_trans (grown_set w6 gl i (.int .i64 (L.getD j 0))) (grown_set (w6.setCell ⟨gl, i, none⟩ (.int .i64 (L.getD j 0))) gl j (.int .i64 (L.getD i 0)))
      obtain ⟨vz, hvz⟩ := cell?_setCell_some (w := w6) (p := ⟨gl, i, none⟩) (x := .int .i64 (L.getD j 0)) (q := ⟨gl, j, none⟩) dj
      have fz : (w6.setCell ⟨gl, i, none⟩ (.int .i64 (L.getD j 0))).frozen? ⟨gl, j, none⟩ = false := by rw [World.frozen?_setCell]; exact fj
      have rN := r6.kept G (by
        cases hv : (Value.slice aa la.length ca).ownBlock with
        | none => exact .inl rfl
        | some k => exact .inr (fun e => by have h2 := hva k hv; simp at e; omega))
      have cN := c6.kept G (fun e => by simp at e; omega) (fun k hk => by simp at hk; have := c6.1; omega)
      have KN := K6.grown G (by simp; omega)
      have hB := Nat.le_trans h6 G.size
      have oN := oS
      have hLL : ((L.set i (L.getD j 0)).set j (L.getD i 0)).length = L.length := by simp
      have hLl : ((L.set i (L.getD j 0)).set j (L.getD i 0)).length ≤ 12 := by omega
      rw [← hLL] at oN
      have HLL : Hid (((L.set i (L.getD j 0)).set j (L.getD i 0)).length = L.length) := hLL
      clear hLL
      generalize (L.set i (L.getD j 0)).set j (L.getD i 0) = L2 at *
      generalize L.getD i 0 = li at *
      generalize L.getD j 0 = lj at *
      rw [HLL.out] at oN
      clear hrow oS G o6 r6 c6 K6 h6
      have ii : (0 : Int) ≤ (i : Int) := Int.natCast_nonneg _
      have jj : (0 : Int) ≤ (j : Int) := Int.natCast_nonneg _
      go_wp2_with fail
      refine (once_any _ _ _ _ cN (by omega)).mono ?_
      rintro e wM ⟨bb, rfl, cM, gM⟩
      have oM := oN.kept gM (own_ne' oN (by omega))
      have rM := rN.kept gM (row_ne rN)
      have KM := KN.grown gM (by simp)
      have hM := Nat.le_trans hB gM.size
      clear oN rN KN cN gM
      cases bb
      · go_wp2
        go_ret2
        exact ⟨_, _, la, L2, rfl, rM.base_le (by omega), oM.row.base_le (by omega), hla, by omega, KM⟩
      · go_wp2_with fail
        refine (from_any _ _ _ _ _ cM (by omega) (by omega) (by omega)).mono ?_
        rintro e wP ⟨xx, rfl, xx0, xx1, cP, gP⟩
        have oP := oM.kept gP (own_ne' oM (by omega))
        have rP := rM.kept gP (row_ne rM)
        have KP := KM.grown gP (by simp)
        have hP := Nat.le_trans hM gP.size
        clear oM rM KM cM gP
        have m1 : L2.length + 1 ≤ maxLen := by unfold maxLen; omega
        have m3 : (L2.length + 1) * 8 ≤ 140737488355328 := by omega
        go_wp2_with (at_builtin; refine wpList_append_own _ rfl _ _ 25 rfl w2.heap.size 2 i0 (.int .i64 0) 1 8 Try.underlying25 hi hz0 hz1 hz2 rfl (by decide) _ _ _ rfl (World.ownsRow.alloc oP _) ⟨_, 0, none⟩ 1 1 [.int .i64 xx] rfl rfl (news_int _ _ _) (int_cell _) m1 m3 (by simp; omega) ?_)
        intro vQ wQ hown' hgrow _
        have KQ := (KP.alloc (.cells #[.int .i64 xx] 2)).grown hgrow (fun k hk => by have := oP.ge k hk; omega)
        have rQ := (rP.keep ((Keep.refl wP).alloc (.cells #[.int .i64 xx] 2))).kept hgrow (by
          cases hv : (Value.slice aa la.length ca).ownBlock with
          | none => exact .inl rfl
          | some k => exact .inr (fun e => by have h1 := oP.ge k e.symm; have h2 := hva k hv; omega))
        have oQ := own_hit hown'
        have hlQ : (L2 ++ [xx]).length ≤ 13 := by rw [List.length_append]; simp; omega
        clear hgrow hown' oP rP cP KP m1 m3
        go_wp2
        go_ret2
        exact ⟨_, _, la, L2 ++ [xx], rfl, rQ.base_le (by omega), oQ.row.base_le (by omega), hla, hlQ, KQ⟩
  · have oN := o3
    have rN := r3
    have KN := K3
    have cN := c3
    have hB := hs3
    clear o3 r3 K3 c3 hs3
    go_wp2_with fail
    refine (once_any _ _ _ _ cN (by omega)).mono ?_
    rintro e wM ⟨bb, rfl, cM, gM⟩
    have oM := oN.kept gM (own_ne' oN (by omega))
    have rM := rN.kept gM (row_ne rN)
    have KM := KN.grown gM (by simp)
    have hM := Nat.le_trans hB gM.size
    clear oN rN KN cN gM
    cases bb
    · go_wp2
      go_ret2
      exact ⟨_, _, la, L, rfl, rM.base_le (by omega), oM.row.base_le (by omega), hla, by omega, KM⟩
    · go_wp2_with fail
      refine (from_any _ _ _ _ _ cM (by omega) (by omega) (by omega)).mono ?_
      rintro e wP ⟨xx, rfl, xx0, xx1, cP, gP⟩
      have oP := oM.kept gP (own_ne' oM (by omega))
      have rP := rM.kept gP (row_ne rM)
      have KP := KM.grown gP (by simp)
      have hP := Nat.le_trans hM gP.size
      clear oM rM KM cM gP
      have m1 : L.length + 1 ≤ maxLen := by unfold maxLen; omega
      have m3 : (L.length + 1) * 8 ≤ 140737488355328 := by omega
      go_wp2_with (at_builtin; refine wpList_append_own _ rfl _ _ 25 rfl w2.heap.size 2 i0 (.int .i64 0) 1 8 Try.underlying25 hi hz0 hz1 hz2 rfl (by decide) _ _ _ rfl (World.ownsRow.alloc oP _) ⟨_, 0, none⟩ 1 1 [.int .i64 xx] rfl rfl (news_int _ _ _) (int_cell _) m1 m3 (by simp; omega) ?_)
      intro vQ wQ hown' hgrow _
      have KQ := (KP.alloc (.cells #[.int .i64 xx] 2)).grown hgrow (fun k hk => by have := oP.ge k hk; omega)
      have rQ := (rP.keep ((Keep.refl wP).alloc (.cells #[.int .i64 xx] 2))).kept hgrow (by
        cases hv : (Value.slice aa la.length ca).ownBlock with
        | none => exact .inl rfl
        | some k => exact .inr (fun e => by have h1 := oP.ge k e.symm; have h2 := hva k hv; omega))
      have oQ := own_hit hown'
      have hlQ : (L ++ [xx]).length ≤ 13 := by rw [List.length_append]; simp; omega
      clear hgrow hown' oP rP cP KP m1 m3
      go_wp2
      go_ret2
      exact ⟨_, _, la, L ++ [xx], rfl, rQ.base_le (by omega), oQ.row.base_le (by omega), hla, hlQ, KQ⟩
end Go.Proofs.Ytgclnfhkjnomaaa
