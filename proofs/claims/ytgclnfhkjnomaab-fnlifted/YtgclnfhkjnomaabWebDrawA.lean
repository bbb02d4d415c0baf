/- Contracts of the draws of webs: what is drawn is a new list of at most 13 numbers, and nothing but the cursor's own block and new memory is written. -/
import Derived.Test.YtgclnfhkjnomaabDrawA
import Derived.Test.YtgclnfhkjnomaabRow
namespace Go.Proofs.Ytgclnfhkjnomaab
open Go.ChangeShapes Go.WideShapes Go.ChangeAt Go.RowKit

theorem grown_new {a b c : World} {row row' : Option Nat} (h : a.grownBy b row) (k : b.grownBy c row') (hn : ∀ g, row' = some g → a.heap.size ≤ g) : a.grownBy c row :=
  ⟨k.os.trans h.os, k.tape.trans h.tape, k.output.trans h.output, Nat.le_trans h.size k.size, fun i hi hne =>
    (k.block i (Nat.lt_of_lt_of_le hi h.size) (fun e => by have := hn i e.symm; omega)).trans (h.block i hi hne)⟩
theorem grown_up {a b : World} {row : Option Nat} (k : Keep a b) : a.grownBy b row :=
  ⟨k.grownBy.os, k.grownBy.tape, k.grownBy.output, k.grownBy.size, fun i hi _ => k.grownBy.block i hi (by simp)⟩
theorem own_ne' {w : World} {g B : Nat} {v : Value} {zs : List Int} (h : Own w B v zs) (hg : g < B) : v.ownBlock = none ∨ v.ownBlock ≠ some g := own_ne (h.base_le hg)
theorem row_ne {w : World} {g : Nat} {v : Value} {zs : List Int} (h : Row w (g + 1) v zs) : v.ownBlock = none ∨ v.ownBlock ≠ some g := by
  cases hv : v.ownBlock with
  | none => exact .inl rfl
  | some k => exact .inr (fun e => by have := h.ge k hv; simp at e; omega)
theorem lit_at {w1 w2 : World} {e : TypeId} {row : Option Nat} (l : List Int) (hg : (w1.alloc (.cells (l.map (Value.int .i64)).toArray e)).grownBy w2 row) (hne : row ≠ some w1.heap.size) (j : Nat) (hj : j < l.length) :
    w2.cell? ⟨w1.heap.size, j, none⟩ = some (.int .i64 (l.getD j 0)) := by
  have h1 := heap_alloc_new w1 (.cells (l.map (Value.int .i64)).toArray e)
  rw [World.cell?_of_block (w := w1.alloc (.cells (l.map (Value.int .i64)).toArray e)) (hg.block w1.heap.size (by simp) (fun e => hne e.symm)), cell_of_row _ _ j _ _ _ h1, List.getD_eq_getElem?_getD]
  simp [hj]
theorem news_int (w : World) (x : Int) (e : TypeId) : ∀ j u, [Value.int .i64 x][j]? = some u → (w.alloc (.cells #[.int .i64 x] e)).cell? ((⟨w.heap.size, 0, none⟩ : Addr).add j) = some u := by
  intro j u hj
  match j, hj with
  | 0, hj => simp at hj; subst hj; simp [Addr.add]
theorem int_cell (x : Int) : ∀ u ∈ [Value.int .i64 x], u.oneCell' = true := by
  intro u hu; simp at hu; subst hu; rfl
set_option maxHeartbeats 2000000 in
theorem drawOf_any (w : World) (B g n : Nat) (hc : Cur w B g) (hn : n ≤ 13) :
    Calls Try.prog 36 #[.pointer (some ⟨g, 0, none⟩), .int .i64 n] w fun e w' => ∃ v l, e = .returned v ∧ Own w' w.heap.size v l ∧ l.length = n ∧ Cur w' B g ∧ w.grownBy w' (some g) := by
  obtain ⟨i0, hi, hz0, hz1, hz2⟩ := info_parts Try.infoI
  have hg0 := hc.lt
  have hown0 : Own (w.alloc (.cells #[] 2)) w.heap.size (.slice (some ⟨w.heap.size, 0, none⟩) 0 0) [] := World.ownsRow_lit w #[] 0 (Nat.le_refl _) (by decide) rfl
  have ca := hc.keep ((Keep.refl w).alloc (.cells #[] 2))
  have ga := World.grownBy_alloc w (.cells #[] 2) (some g)
  clear hc
  go_enter Try.func36, Try.ntmps36
  go_wp2
  go_loopw [5, 6] (fun v0 i wr => ∃ (v : Value) (k : Nat) (l : List Int), v = v0 ∧ k ≤ n ∧ i = .int .i64 k ∧ l.length = k ∧ Own wr w.heap.size v l ∧ Cur wr B g ∧ w.grownBy wr (some g)) (fun _ i _ => n - (intOf i).toNat)
  case atStart => exact ⟨_, 0, [], rfl, Nat.zero_le _, rfl, rfl, hown0, ca, ga⟩
  case round =>
    obtain ⟨v, k, l, rfl, hk, rfl, hl, ho, hcu, hG⟩ := hrel
    clear hown0 ca ga
    by_cases hlt : k < n
    · obtain ⟨wo, rfl⟩ : ∃ wo : World, wo = wr := ⟨_, rfl⟩
      go_wp2_with fail
      refine (below_any _ B g _ hcu (by omega)).mono ?_
      rintro e w2 ⟨x, rfl, x0, x1, c2, g2⟩
      have o2 := ho.kept g2 (own_ne' ho hg0)
      have G2 := grown_trans hG g2
      clear ho hcu hG g2
      go_wp2_with fail
      go_loopw [7, 8] (fun s i wr => ∃ y m : Int, s = .int .i64 y ∧ i = .int .i64 m ∧ 0 ≤ m ∧ m ≤ 2 ∧ Own wr w.heap.size v l ∧ Cur wr B g ∧ w.grownBy wr (some g)) (fun _ i _ => (intOf i).toNat)
      case atStart => exact ⟨0, x, rfl, rfl, x0, by omega, o2, c2, G2⟩
      case round =>
        clear o2 c2 G2
        obtain ⟨y, m, rfl, rfl, m0, m2, o2, c2, G2⟩ := hrel
        by_cases hm : 0 < m
        · have hn1 : (1 : Int) ≤ (n : Int) := by omega
          go_wp2_with fail
          refine (below_any _ B g _ c2 hn1).mono ?_
          rintro e w3 ⟨z, rfl, z0, z1, c3, g3⟩
          have o3 := o2.kept g3 (own_ne' o2 hg0)
          have G3 := grown_trans G2 g3
          clear o2 c2 G2 g3
          go_wp2
          go_roundw
          case rel => exact ⟨_, m - 1, rfl, by go_num, by omega, by omega, o3, c3, G3⟩
          case measure => simp [intOf]; omega
        · have hs2 := G2.size
          have m1 : l.length + 1 ≤ maxLen := by unfold maxLen; omega
          have m3 : (l.length + 1) * 8 ≤ 140737488355328 := by omega
          obtain ⟨w4, rfl⟩ : ∃ w4 : World, w4 = wr := ⟨_, rfl⟩
          go_wp2_with (at_builtin; refine wpList_append_own _ rfl _ _ 24 rfl w.heap.size 2 i0 (.int .i64 0) 1 8 Try.underlying24 hi hz0 hz1 hz2 rfl (by decide) _ _ _ rfl (World.ownsRow.alloc o2 _) ⟨_, 0, none⟩ 1 1 [.int .i64 y] rfl rfl (news_int _ _ _) (int_cell _) m1 m3 (by simp; omega) ?_)
          intro v' w5 hown' hgrow _
          have G5 : w.grownBy w5 (some g) := grown_new (grown_new G2 (World.grownBy_alloc _ _ none) (by simp)) hgrow o2.ge
          have c5 := (c2.keep ((Keep.refl _).alloc _)).kept hgrow (fun e => by have := o2.ge _ e; omega) (fun k hk => by have := o2.ge k hk; have := c2.1; omega)
          have o5 : Own w5 w.heap.size v' (l ++ [y]) := own_hit (by rw [hl]; exact hown')
          clear hgrow hown'
          go_wp2
          go_roundw
          case rel => exact ⟨_, k + 1, l ++ [y], rfl, by omega, by go_num, by simp [hl], o5, c5, G5⟩
          case measure => simp [intOf]; omega
    · obtain rfl : k = n := by omega
      go_wp2
      go_ret
      exact ⟨_, l, rfl, ho, hl, hcu, hG⟩
set_option maxHeartbeats 2000000 in
theorem l2Draw_any (w : World) (B g : Nat) (hc : Cur w B g) :
    Calls Try.prog 23 #[.pointer (some ⟨g, 0, none⟩)] w fun e w' => ∃ v l, e = .returned v ∧ Row w' w.heap.size v l ∧ l.length ≤ 13 ∧ Cur w' B g ∧ w.grownBy w' (some g) := by
  have hg0 := hc.lt
  go_enter Try.func23, Try.ntmps23
  go_wp2_with fail
  refine (below_any _ B g _ hc (by omega)).mono ?_
  rintro e w1 ⟨n, rfl, n0, n1, c1, g1⟩
  go_wp2_with fail
  refine (once_any _ B g _ c1 (by omega)).mono ?_
  rintro e w2 ⟨b, rfl, c2, g2⟩
  have G2 := grown_trans g1 g2
  have hs2 := G2.size
  clear c1 g1 g2 hc
  cases b
  · obtain ⟨N, rfl⟩ := Int.eq_ofNat_of_zero_le n0
    have hN : N ≤ 13 := by omega
    have HC : Hid (N ≤ 13) := hN
    clear n0 n1 hN
    go_wp2_with fail
    refine (drawOf_any _ B g N c2 HC.out).mono ?_
    rintro e w3 ⟨v, l, rfl, o3, hl3, c3, g3⟩
    have G3 := grown_trans G2 g3
    have hz := G2.size
    have r3 := (o3.base_le hz).row
    have hl13 : l.length ≤ 13 := by have := HC.out; omega
    clear o3 g3 hl3 G2
    rcases r3 with ⟨rfl, rfl⟩ | ⟨gg, cap, rfl, hgg, hr⟩
    · go_wp2
      go_ret
      exact ⟨_, [], rfl, .inl ⟨rfl, rfl⟩, by simp, c3, G3⟩
    · by_cases hp : 0 < l.length
      · go_wp2_with fail
        refine (once_any _ B g _ c3 (by omega)).mono ?_
        rintro e w4 ⟨b4, rfl, c4, g4⟩
        have hr4 := hr.kept g4 (fun e => by simp at e; omega)
        have G4 := grown_trans G3 g4
        have hs4 := c4.lt
        clear hr c3 g4 G3
        cases b4
        · go_wp2
          go_ret
          exact ⟨_, l, rfl, .inr ⟨gg, cap, rfl, hgg, hr4⟩, hl13, c4, G4⟩
        · have hlt4 := hr4.lt
          go_wp2_with fail
          refine (below_any _ B g _ (c4.keep ((Keep.refl w4).alloc _)) (by omega)).mono ?_
          rintro e w5 ⟨x5, rfl, y0, y1, c5, g5⟩
          obtain ⟨y, hy5⟩ := lit_int [-1, 1, _, _] g5 (by simp; omega) x5.toNat (by simp; omega)
          have G5 := grown_trans (grown_new G4 (World.grownBy_alloc w4 _ none) (by simp)) g5
          have hr5 := (hr4.keep ((Keep.refl w4).alloc _)).kept g5 (fun e => by simp at e; omega)
          clear hr4 c4 g5 G4
          have d1 := hr5.cell (j := 0) hp
          have d2 := hr5.free 0
          have hr6 := hr5.set 0 y
          have g6 := grown_set w5 gg 0 (.int .i64 y)
          have G6 := grown_new G5 g6 (by simp; omega)
          have c6 := c5.kept g6 (fun e => by simp at e; omega) (fun k hk => by simp at hk; have := c5.1; omega)
          have hl6 : (l.set 0 y).length = l.length := by simp
          generalize l.getD 0 0 = z at d1
          clear hr5 G5 g6 c5
          go_wp2
          go_ret
          exact ⟨_, l.set 0 y, rfl, row_new hr6 hgg hl6, by rw [hl6]; exact hl13, c6, G6⟩
      · go_wp2
        go_ret
        exact ⟨_, l, rfl, .inr ⟨gg, cap, rfl, hgg, hr⟩, hl13, c3, G3⟩
  · go_wp2_with fail
    refine (below_any _ B g _ (c2.keep ((Keep.refl w2).alloc _)) (by omega)).mono ?_
    rintro e w2' ⟨x, rfl, x0, x1, c2', g2'⟩
    have hy := lit_at [11, 12, 13] g2' (by simp; omega) x.toNat (by simp; omega)
    have G2'' := grown_trans (grown_new G2 (World.grownBy_alloc w2 _ none) (by simp)) g2'
    obtain ⟨N, hN, hN2⟩ : ∃ N : Nat, ([11, 12, 13] : List Int).getD x.toNat 0 = N ∧ N ≤ 13 := by
      have : x.toNat = 0 ∨ x.toNat = 1 ∨ x.toNat = 2 := by omega
      rcases this with e | e | e <;> rw [e]
      · exact ⟨11, rfl, by omega⟩
      · exact ⟨12, rfl, by omega⟩
      · exact ⟨13, rfl, by omega⟩
    rw [hN] at hy
    have HC : Hid (N ≤ 13) := hN2
    clear G2 g2' c2 hN hN2 n0 n1
    go_wp2_with fail
    refine (drawOf_any _ B g N c2' HC.out).mono ?_
    rintro e w3 ⟨v, l, rfl, o3, hl3, c3, g3⟩
    have G2 := G2''
    clear G2''
    have G3 := grown_trans G2 g3
    have hz := G2.size
    have r3 := (o3.base_le hz).row
    have hl13 : l.length ≤ 13 := by have := HC.out; omega
    clear o3 g3 hl3 G2
    rcases r3 with ⟨rfl, rfl⟩ | ⟨gg, cap, rfl, hgg, hr⟩
    · go_wp2
      go_ret
      exact ⟨_, [], rfl, .inl ⟨rfl, rfl⟩, by simp, c3, G3⟩
    · by_cases hp : 0 < l.length
      · go_wp2_with fail
        refine (once_any _ B g _ c3 (by omega)).mono ?_
        rintro e w4 ⟨b4, rfl, c4, g4⟩
        have hr4 := hr.kept g4 (fun e => by simp at e; omega)
        have G4 := grown_trans G3 g4
        have hs4 := c4.lt
        clear hr c3 g4 G3
        cases b4
        · go_wp2
          go_ret
          exact ⟨_, l, rfl, .inr ⟨gg, cap, rfl, hgg, hr4⟩, hl13, c4, G4⟩
        · have hlt4 := hr4.lt
          go_wp2_with fail
          refine (below_any _ B g _ (c4.keep ((Keep.refl w4).alloc _)) (by omega)).mono ?_
          rintro e w5 ⟨x5, rfl, y0, y1, c5, g5⟩
          obtain ⟨y, hy5⟩ := lit_int [-1, 1, _, _] g5 (by simp; omega) x5.toNat (by simp; omega)
          have G5 := grown_trans (grown_new G4 (World.grownBy_alloc w4 _ none) (by simp)) g5
          have hr5 := (hr4.keep ((Keep.refl w4).alloc _)).kept g5 (fun e => by simp at e; omega)
          clear hr4 c4 g5 G4
          have d1 := hr5.cell (j := 0) hp
          have d2 := hr5.free 0
          have hr6 := hr5.set 0 y
          have g6 := grown_set w5 gg 0 (.int .i64 y)
          have G6 := grown_new G5 g6 (by simp; omega)
          have c6 := c5.kept g6 (fun e => by simp at e; omega) (fun k hk => by simp at hk; have := c5.1; omega)
          have hl6 : (l.set 0 y).length = l.length := by simp
          generalize l.getD 0 0 = z at d1
          clear hr5 G5 g6 c5
          go_wp2
          go_ret
          exact ⟨_, l.set 0 y, rfl, row_new hr6 hgg hl6, by rw [hl6]; exact hl13, c6, G6⟩
      · go_wp2
        go_ret
        exact ⟨_, l, rfl, .inr ⟨gg, cap, rfl, hgg, hr⟩, hl13, c3, G3⟩
end Go.Proofs.Ytgclnfhkjnomaab
