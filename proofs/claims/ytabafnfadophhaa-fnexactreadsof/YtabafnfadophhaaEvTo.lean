/- Contracts of the laws' helpers on lists of events: how great one is, and a copy of it. -/
import Derived.Test.YtabafnfadophhaaEvPut
import Derived.Outline
import Derived.RegionTactic
import Derived.OwnWalk
import Derived.Lib.Hide
namespace Go.Proofs.Ytabafnfadophhaa
open Go.ChangeShapes Go.WideShapes Go.ChangeAt Go.RowKit

abbrev evV (e : Ev) : Value := .agg #[.int .i64 e.1, .int .i64 e.2.1, .bool e.2.2.1, .int .i64 e.2.2.2.1, .int .i64 e.2.2.2.2.1, .int .i64 e.2.2.2.2.2]
theorem szE_any (w : World) (v : Value) (es : List Ev) (h : RdE w v es) (left : Int) (h0 : 0 ≤ left) (h1 : left ≤ 1048576) (hn : es.length ≤ maxLen) :
    Calls Try.prog 33 #[v, .int .i64 left] w fun e w' => e = .returned (.int .i64 (if (es.length : Int) ≤ left then left - es.length else -1)) ∧ w' = w := by
  obtain ⟨a, cap, rfl, _⟩ := h
  have hm : maxLen = 9223372036854775807 := rfl
  by_cases hl : (es.length : Int) ≤ left
  · rw [if_pos hl]
    go_enter Try.func33, Try.ntmps33
    go_wp2
    go_ret
    exact ⟨rfl, rfl⟩
  · rw [if_neg hl]
    go_enter Try.func33, Try.ntmps33
    go_wp2
    go_ret
    exact ⟨rfl, rfl⟩
theorem toEvent_any (x0 x1 : Int) (r : Bool) (x3 x4 x5 : Int) (w : World) :
    Calls Try.prog 63 #[evV (x0, x1, r, x3, x4, x5)] w fun e w' => e = .returned (evV (x0, x1, r, x3, x4, x5)) ∧ Keep w w' := by
  go_enter Try.func63, Try.ntmps63
  go_wp2
  refine bodyPost_ret (results_row (by rfl) _ _ (w.heap.size + 1) _ _ _ _ rfl (by simp only [heap_at, heap_size]; repeat (first | exact if_pos rfl | exact if_pos trivial | rw [if_neg (by omega)])) Try.underlying43 rfl (by kernel_rfl)) rfl ?_
  exact ⟨rfl, (((Keep.refl w).alloc _).alloc _).alloc _⟩
set_option maxRecDepth 100000 in
set_option maxHeartbeats 1000000 in
theorem toE_any (w : World) (v : Value) (es : List Ev) (h : RdE w v es) (hn : es.length ≤ 1048576) :
    Calls Try.prog 34 #[v] w fun e w' => ∃ v', e = .returned v' ∧ AppE w' w.heap.size v' es ∧ Keep w w' := by
  obtain ⟨a, c, rfl, h⟩ := h
  obtain ⟨i0, hi, hz0, hz1, hz2⟩ := info_parts Try.infoE
  go_enter Try.func34, Try.ntmps34
  go_wp2_with (at_make; refine wpList_make_full _ rfl _ _ 26 rfl w.heap.size 43 i0 (.agg #[.int .i64 0, .int .i64 0, .bool false, .int .i64 0, .int .i64 0, .int .i64 0]) 6 Try.underlying26 hi hz0 hz1 .i64 .i64 _ _ es.length rfl rfl rfl rfl (by rw [hz2]; omega) (by unfold maxLen; omega) (Nat.le_refl _) ?_; intro w1 hown hgrow)
  have hk1 : Keep w w1 := (Keep.refl w).grown hgrow (by simp)
  have B1 := PutE.start hown
  clear hown hgrow hi hz0 hz1 hz2
  go_loopw [4] (fun i wr => ∃ j : Nat, j ≤ es.length ∧ i = .int .i64 j ∧ PutE wr w.heap.size w.heap.size es.length es.length j (es.take j) ∧ Keep w wr) (fun i _ => es.length - (intOf i).toNat)
  case atStart => exact ⟨0, Nat.zero_le _, rfl, B1, hk1⟩
  case round =>
    obtain ⟨j, hj, rfl, hB, hK⟩ := hrel
    clear B1 hk1
    by_cases hlt : j < es.length
    · rcases h with h | ⟨b, o, rfl, hb, hc⟩
      · exfalso; rw [h] at hlt; simp at hlt
      have AT := (hc j _ (evs_get hlt)).keep hb hK
      have HT := Lib.hid (take_moreE es j hlt)
      obtain ⟨e, he⟩ : ∃ e, e = es.getD j zE := ⟨_, rfl⟩
      rw [← he] at AT HT
      clear he hc
      obtain ⟨x0, x1, x2, x3, x4, x5⟩ := e
      obtain ⟨d0, d1, d2, d3, d4, d5⟩ := atE AT
      clear AT
      have hbs : b < wr.heap.size := Nat.lt_of_lt_of_le hb hK.size
      go_wp2_with fail
      refine (toEvent_any x0 x1 x2 x3 x4 x5 _).mono ?_
      rintro e w2 ⟨rfl, k2⟩
      have B2 := hB.keep k2
      obtain ⟨u0, e0⟩ := B2.cell (show j * 6 < es.length * 6 by omega)
      obtain ⟨u1, e1⟩ := B2.cell (show j * 6 + 1 < es.length * 6 by omega)
      obtain ⟨u2, e2⟩ := B2.cell (show j * 6 + 2 < es.length * 6 by omega)
      obtain ⟨u3, e3⟩ := B2.cell (show j * 6 + 3 < es.length * 6 by omega)
      obtain ⟨u4, e4⟩ := B2.cell (show j * 6 + 4 < es.length * 6 by omega)
      obtain ⟨u5, e5⟩ := B2.cell (show j * 6 + 5 < es.length * 6 by omega)
      have f0 := B2.free (j * 6)
      have f1 := B2.free (j * 6 + 1)
      have f2 := B2.free (j * 6 + 2)
      have f3 := B2.free (j * 6 + 3)
      have f4 := B2.free (j * 6 + 4)
      have f5 := B2.free (j * 6 + 5)
      have P := B2.put hlt (x0, x1, x2, x3, x4, x5)
      rw [← HT.out] at P
      go_wp2
      go_roundw
      case rel => exact ⟨j + 1, by omega, by go_num, P.1, (hK.trans k2).grown P.2 (by simp)⟩
      case measure => simp [intOf]; omega
    · obtain rfl : j = es.length := by omega
      rw [List.take_length] at hB
      go_wp2
      go_ret
      exact ⟨_, rfl, hB.app, hK⟩
end Go.Proofs.Ytabafnfadophhaa
