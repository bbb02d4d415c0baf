/- Contract of the draw of a web and classes for it. -/
import Derived.Test.YtgclnfhkjnomaabOrderDraw
namespace Go.Proofs.Ytgclnfhkjnomaab
open Go.ChangeShapes Go.WideShapes Go.ChangeAt Go.RowKit

theorem row_far {w : World} {B b : Nat} {v : Value} {zs : List Int} {row : Option Nat} (_h : Row w B v zs) (hb : ∀ k, v.ownBlock = some k → k < b) (hr : ∀ k, row = some k → b ≤ k) : v.ownBlock = none ∨ v.ownBlock ≠ row := by
  cases hv : v.ownBlock with
  | none => exact .inl rfl
  | some k => exact .inr (fun e => by have h1 := hr k e.symm; have h2 := hb k hv; omega)
set_option maxHeartbeats 3000000 in
theorem drawLifted_any (w : World) (a : Option Addr) (cap : Nat) (zs : List Int) (hb : RdB w w.heap.size a zs) :
    Calls Try.prog 5 #[.slice a zs.length cap] w fun e w' => ∃ va vb la lb, e = .returned (.tuple #[va, vb]) ∧ Row w' w.heap.size va la ∧ Row w' w.heap.size vb lb ∧ la.length ≤ 13 ∧ lb.length ≤ 14 ∧ Keep w w' := by
  obtain ⟨i0, hi, hz0, hz1, hz2⟩ := info_parts Try.infoI
  go_enter Try.func5, Try.ntmps5
  go_wp2_with fail
  refine (new_any _ _ _ _ hb).mono ?_
  rintro e w1 ⟨rfl, c1, k1⟩
  have hs1 := c1.lt
  go_wp2_with fail
  refine (l3Draw_any _ _ _ c1).mono ?_
  rintro e w2 ⟨va, la, rfl, r2, hla, c2, g2⟩
  have k2 := k1.grown g2 (by simp)
  have hs2 := g2.size
  have r2' := r2.base_le (show w.heap.size + 1 ≤ w1.heap.size by omega)
  have hva : ∀ k, va.ownBlock = some k → k < w2.heap.size := fun k hk => (r2.lt k hk).2
  clear c1 g2 k1 r2
  obtain ⟨aa, ca, rfl, _⟩ := r2'.rd
  have kB : Keep w2 (w2.alloc (.cells #[] 2)) := (Keep.refl w2).alloc _
  have hown0 : Own (w2.alloc (.cells #[] 2)) w2.heap.size (.slice (some ⟨w2.heap.size, 0, none⟩) 0 0) [] := World.ownsRow_lit w2 #[] 0 (Nat.le_refl _) (by decide) rfl
  have r3 := r2'.keep kB
  have c3 := c2.keep kB
  have k3 := k2.trans kB
  have hg2 := c2.lt
  clear r2' c2 k2 kB
  go_wp2_with fail
  go_loopw [6, 7] (fun v0 i wr => ∃ (v : Value) (k : Nat) (l : List Int), v = v0 ∧ k ≤ la.length ∧ i = .int .i64 k ∧ l.length = k ∧ Own wr w2.heap.size v l ∧ Row wr (w.heap.size + 1) (.slice aa la.length ca) la ∧ Cur wr w.heap.size w.heap.size ∧ Keep w wr ∧ w2.heap.size ≤ wr.heap.size) (fun _ i _ => la.length - (intOf i).toNat)
  case atStart => exact ⟨_, 0, [], rfl, Nat.zero_le _, rfl, rfl, hown0, r3, c3, k3, by simp⟩
  case round =>
    clear hown0 r3 c3 k3
    obtain ⟨v, k, l, rfl, hk, rfl, hl, ho, hr, hcu, hK, hsz⟩ := hrel
    have HL : Hid (l.length = k) := hl
    have hl14 : l.length ≤ 13 := by omega
    clear hl
    have hks := hK.size
    by_cases hlt : k < la.length
    · go_wp2_with fail
      refine (below_any _ _ _ _ hcu (by omega)).mono ?_
      rintro e w4 ⟨x, rfl, x0, x1, c4, g4⟩
      have o4 := ho.kept g4 (own_ne' ho (by omega))
      have r4 := hr.kept g4 (row_ne hr)
      have K4 := hK.grown g4 (by simp)
      have h4 := Nat.le_trans hsz g4.size
      clear ho hr hcu hK g4
      have m1 : l.length + 1 ≤ maxLen := by unfold maxLen; omega
      have m3 : (l.length + 1) * 8 ≤ 140737488355328 := by omega
      go_wp2_with (at_builtin; refine wpList_append_own _ rfl _ _ 24 rfl w2.heap.size 2 i0 (.int .i64 0) 1 8 Try.underlying24 hi hz0 hz1 hz2 rfl (by decide) _ _ _ rfl (World.ownsRow.alloc o4 _) ⟨_, 0, none⟩ 1 1 [.int .i64 x] rfl rfl (news_int _ _ _) (int_cell _) m1 m3 (by simp; omega) ?_)
      intro v' w5 hown' hgrow _
      have K5 := (K4.alloc (.cells #[.int .i64 x] 2)).grown hgrow (fun k hk => by have := o4.ge k hk; omega)
      have r5 := (r4.keep ((Keep.refl w4).alloc (.cells #[.int .i64 x] 2))).kept hgrow (row_far r4 hva o4.ge)
      have o5 := own_hit hown'
      have c5 := (c4.keep ((Keep.refl w4).alloc (.cells #[.int .i64 x] 2))).kept hgrow (fun e => by have := o4.ge _ e; omega) (fun k hk => by have := o4.ge k hk; omega)
      have h5 : w2.heap.size ≤ w5.heap.size := Nat.le_trans h4 (Nat.le_trans (by simp) hgrow.size)
      clear hgrow hown' o4 r4 c4 K4 m1 m3
      go_wp2
      go_roundw
      case rel => exact ⟨_, k + 1, l ++ [x], rfl, by omega, by go_num, by rw [List.length_append, HL.out]; rfl, o5, r5, c5, K5, h5⟩
      case measure => simp [intOf]; omega
    · go_wp2_with fail
      refine (once_any _ _ _ _ hcu (by omega)).mono ?_
      rintro e w4 ⟨b, rfl, c4, g4⟩
      have o4 := ho.kept g4 (own_ne' ho (by omega))
      have r4 := hr.kept g4 (row_ne hr)
      have K4 := hK.grown g4 (by simp)
      have h4 := Nat.le_trans hsz g4.size
      clear ho hr hcu hK g4
      cases b
      · obtain ⟨av, cv, rfl, _⟩ := o4.rd
        go_wp2
        go_ret2
        exact ⟨_, _, la, l, rfl, r4.base_le (by omega), o4.row.base_le (by omega), hla, by omega, K4⟩
      · have m1 : l.length + 1 ≤ maxLen := by unfold maxLen; omega
        have m3 : (l.length + 1) * 8 ≤ 140737488355328 := by omega
        go_wp2_with (at_builtin; refine wpList_append_own _ rfl _ _ 24 rfl w2.heap.size 2 i0 (.int .i64 0) 1 8 Try.underlying24 hi hz0 hz1 hz2 rfl (by decide) _ _ _ rfl (World.ownsRow.alloc o4 _) ⟨_, 0, none⟩ 1 1 [.int .i64 (0 : Int)] rfl rfl (news_int _ _ _) (int_cell _) m1 m3 (by simp; omega) ?_)
        intro v' w5 hown' hgrow _
        have K5 := (K4.alloc (.cells #[.int .i64 (0 : Int)] 2)).grown hgrow (fun k hk => by have := o4.ge k hk; omega)
        have r5 := (r4.keep ((Keep.refl w4).alloc (.cells #[.int .i64 (0 : Int)] 2))).kept hgrow (row_far r4 hva o4.ge)
        have o5 := own_hit hown'
        have hl5 : (l ++ [(0 : Int)]).length ≤ 14 := by simp; omega
        clear hgrow hown' o4 r4 c4 K4 m1 m3
        go_wp2
        go_ret2
        exact ⟨_, _, la, l ++ [0], rfl, r5.base_le (by omega), o5.row.base_le (by omega), hla, hl5, K5⟩
end Go.Proofs.Ytgclnfhkjnomaab
