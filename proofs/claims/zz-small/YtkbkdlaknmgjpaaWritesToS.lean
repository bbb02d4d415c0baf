/- Contract of the specification's WritesTo: a new list of numbers. (Written by mkidx.py.) -/
import Derived.Test.YtkbkdlaknmgjpaaMB
import Derived.BigRegion
import Derived.Lib.Hide
namespace Go.Proofs.Ytkbkdlaknmgjpaa
open Go.ChangeShapes Go.WideShapes Go.ChangeAt Go.RowKit
set_option maxRecDepth 100000 in
set_option maxHeartbeats 1000000 in
theorem specWritesTo_any (w : World) (v : Value) (es : List Ev) (p : Int) (h : RdE w v es) (hx : es.length ≤ 1048576) :
  Calls Try.prog 50 #[v, .int .i64 p] w fun e w' => ∃ v', e = .returned v' ∧ Own w' w.heap.size v' (idxB (toE p) es) ∧ Keep w w' := by
 have hown0 : Own (w.alloc (.cells #[] 2)) w.heap.size (.slice (some ⟨w.heap.size, 0, none⟩) 0 0) [] := World.ownsRow_lit w #[] 0 (Nat.le_refl _) (by decide) rfl
 obtain ⟨a, cap, rfl, h⟩ := h
 by_cases hl : 12 < es.length
 ·
  have HE : Hid (idxB (toE p) es = []) := Lib.hid (by unfold idxB; rw [if_neg (by omega)])
  have l1 : (12 : Int) < (es.length : Int) := by omega
  go_enter Try.func50, Try.ntmps50
  go_wp2
  refine wp_loop_rounds 1 ?_
  rw [rounds_succ]
  go_wp2
  go_ret
  exact ⟨_, rfl, by rw [HE.out]; exact hown0, (Keep.refl _).alloc _⟩
 have l1 : es.length ≤ 12 := by omega
 clear hl
 have HE : Hid (idxB (toE p) es = idxK (toE p) es es.length) := Lib.hid (by unfold idxB; rw [if_pos l1])
 obtain ⟨i0, hi, hz0, hz1, hz2⟩ := info_parts Try.infoI
 go_enter Try.func50, Try.ntmps50
 go_wp2
 go_loopw [5, 6] (fun v i wr => ∃ k : Nat, k ≤ es.length ∧ i = .int .i64 k ∧ Own wr w.heap.size v (idxK (toE p) es k) ∧ Keep w wr) (fun _ i _ => es.length - (intOf i).toNat)
 case atStart => exact ⟨0, Nat.zero_le _, rfl, hown0, (Keep.refl _).alloc _⟩
 case round =>
  obtain ⟨k, hk, rfl, ho, hK⟩ := hrel
  clear hown0
  by_cases hlt : k < es.length
  ·
   rcases h with h | ⟨b, off, rfl, hb, hc⟩
   ·
    exfalso; rw [h] at hlt; simp at hlt
   have AT := (hc k _ (evs_get hlt)).keep hb hK
   have hbw : b < wr.heap.size := Nat.lt_of_lt_of_le hb hK.size
   clear hc
   have hml : (idxK (toE p) es k).length ≤ k := idxK_len (toE p) es k
   have hsz := hK.size
   have i1 : (0 : Int) ≤ (k : Int) := Int.natCast_nonneg _
   have i2 : (k : Int) < (es.length : Int) := by omega
   have l2 : (es.length : Int) ≤ 12 := by omega
   have HP : Hid (idxK (toE p) es (k + 1) = if toE p (es.getD k zE) = true then idxK (toE p) es k ++ [(k : Int)] else idxK (toE p) es k) := Lib.hid rfl
   obtain ⟨e, he⟩ : ∃ e, e = es.getD k zE := ⟨_, rfl⟩
   rw [← he] at AT HP
   clear he
   obtain ⟨x0, x1, x2, x3, x4, x5⟩ := e
   obtain ⟨-, -, A2, A3, -, -⟩ := atE AT
   clear AT
   cases x2
   ·
    by_cases hp : x3 = p
    ·
     subst hp
     have HM : Hid (idxK (toE x3) es (k + 1) = idxK (toE x3) es k ++ [(k : Int)]) := Lib.hid (by rw [HP.out]; simp [toE])
     clear HP
     go_wp2_with (at_builtin; refine wpList_append_own _ rfl _ _ 23 rfl w.heap.size 2 i0 (.int .i64 0) 1 8 Try.underlying23 hi hz0 hz1 hz2 rfl (by decide) _ _ _ rfl (World.ownsRow.alloc ho _) ⟨_, 0, none⟩ 1 1 [.int .i64 k] rfl rfl ?c1 ?c2 ?c3 ?c4 ?c5 ?_)
     case c1 =>
      intro j u hj
      match j, hj with
      | 0, hj => simp at hj; subst hj; simp [Addr.add]
     case c2 => intro u hu; simp at hu; subst hu; rfl
     case c3 => unfold maxLen; omega
     case c4 => omega
     case c5 => simp; omega
     intro v' w1 hown' hgrow _
     have hK1 : Keep w w1 := (hK.alloc _).grown hgrow ho.ge
     clear hgrow
     go_wp2
     go_roundw
     case rel => exact ⟨k + 1, by omega, by go_num, by rw [HM.out]; exact own_hit hown', hK1⟩
     case measure => simp [intOf]; omega
    ·
     have HM : Hid (idxK (toE p) es (k + 1) = idxK (toE p) es k) := Lib.hid (by rw [HP.out]; simp [toE, hp])
     clear HP
     go_wp2
     go_roundw
     case rel => exact ⟨k + 1, by omega, by go_num, by rw [HM.out]; exact ho, hK⟩
     case measure => simp [intOf]; omega
   ·
    have HM : Hid (idxK (toE p) es (k + 1) = idxK (toE p) es k) := Lib.hid (by rw [HP.out]; simp [toE])
    clear HP
    go_wp2
    go_roundw
    case rel => exact ⟨k + 1, by omega, by go_num, by rw [HM.out]; exact ho, hK⟩
    case measure => simp [intOf]; omega
  ·
   obtain rfl : k = es.length := by omega
   go_wp2
   go_ret
   exact ⟨_, rfl, by rw [HE.out]; exact ho, hK⟩
end Go.Proofs.Ytkbkdlaknmgjpaa
