/- Contract of the specification's l12Others. -/
import Derived.Test.YtkbkdlaknmgjpaaMB
import Derived.BigRegion
import Derived.Deep.QuietTactic
import Derived.BigQuiet
import Derived.Lib.Hide
import Derived.Test.YtkbkdlaknmgjpaaFromS
namespace Go.Proofs.Ytkbkdlaknmgjpaa
open Go.ChangeShapes Go.WideShapes Go.ChangeAt Go.RowKit
theorem ow_three {es : List Ev} {f : List Int} : ∀ k : Nat, k ≤ 3 → offAll (owP es) es.length (fwL es f) k = fwL es f
 | 0, _ => rfl
 | k + 1, h => by
  rw [offAll, ow_three k (by omega)]
  exact offIn_none _ _ (fun j _ => by unfold owP; rw [decide_eq_false (show ¬ 3 ≤ k by omega)]; rfl)
set_option maxRecDepth 100000 in
set_option maxHeartbeats 4000000 in
theorem l12Others_any (w : World) (v vf : Value) (es : List Ev) (f : List Int) (h : RdE w v es) (hv : Rd w vf f) (h3 : 3 ≤ es.length) (hn : es.length ≤ 12) (HB : Web es.length (fwL es f)) (hl : (idxB rdE es).length ≤ f.length) (hb : ∀ i, i < (idxB rdE es).length → 0 ≤ f.getD i 0 ∧ f.getD i 0 < (es.length : Int)) :
  Calls Try.prog 16 #[v, vf] w fun e w' => ∃ v', e = .returned v' ∧ Row w' w.heap.size v' (owL es f) ∧ Keep w w' := by
 have HT := Lib.hid (ow_three (es := es) (f := f) 3 (Nat.le_refl _))
 have r := h
 obtain ⟨a, c, rfl, h⟩ := h
 go_enter Try.func16, Try.ntmps16
 go_wp2_with fail
 refine (l8Web_any _ _ _ _ _ r hv hn hl hb).mono ?_
 rintro e w1 ⟨v1, rfl, o1, k1⟩
 clear r hl hb hv
 obtain ⟨G, cap, rfl, hG, hR⟩ : ∃ g cap, v1 = .slice (some ⟨g, 0, none⟩) es.length cap ∧ w.heap.size ≤ g ∧ RowAt w1 g (fwL es f) := by
  rcases o1 with ⟨_, e⟩ | ⟨g, cap, e, hg, hr⟩
  ·
   exact absurd (congrArg List.length e) (by rw [HB.2.1]; show ¬ es.length = 0; omega)
  ·
   exact ⟨g, cap, by rw [e, HB.2.1], hg, hr⟩
 clear o1
 have HW0 := Lib.hid HB
 clear HB
 go_wp2
 go_loopw [6] (fun i wr => ∃ k : Nat, 3 ≤ k ∧ k ≤ es.length ∧ i = .int .i64 k ∧ RowAt wr G (offAll (owP es) es.length (fwL es f) k) ∧ Keep w wr) (fun i _ => es.length - (intOf i).toNat)
 case atStart => exact ⟨3, Nat.le_refl _, h3, rfl, by rw [HT.out]; exact hR, k1⟩
 case round =>
  obtain ⟨k, hk3, hk, rfl, hr, hK⟩ := hrel
  clear hR k1
  by_cases hlt : k < es.length
  ·
   rcases h with h | ⟨b, off, rfl, hb, hc⟩
   ·
    exfalso; rw [h] at hlt; simp at hlt
   have AT := hc k _ (evs_get hlt)
   have HW := Lib.hid (web_offAll (p := owP es) HW0.out k (by omega)).1
   have HE : Hid (offIn (owP es) k (offAll (owP es) es.length (fwL es f) k) es.length = offAll (owP es) es.length (fwL es f) (k + 1)) := Lib.hid rfl
   generalize offAll (owP es) es.length (fwL es f) k = T at *
   have HI : Hid (offIn (owP es) k T 3 = T) := Lib.hid (offIn_none _ _ (fun j hj => by unfold owP; rw [decide_eq_false (show ¬ 3 ≤ j by omega)]; simp))
   obtain ⟨wo, rfl⟩ : ∃ wo : World, wo = wr := ⟨_, rfl⟩
   have i1 : (0 : Int) ≤ (k : Int) := Int.natCast_nonneg _
   have i2 : (k : Int) < (es.length : Int) := by omega
   go_wp2
   go_loopw [7] (fun i wr => ∃ m : Nat, 3 ≤ m ∧ m ≤ es.length ∧ i = .int .i64 m ∧ RowAt wr G (offIn (owP es) k T m) ∧ Keep w wr) (fun i _ => es.length - (intOf i).toNat)
   case atStart => exact ⟨3, Nat.le_refl _, h3, rfl, by rw [HI.out]; exact hr, hK⟩
   case round =>
    clear hr hK
    obtain ⟨m, hm3, hm, rfl, hr, hK⟩ := hrel
    by_cases hml : m < es.length
    ·
     have AK := AT.keep hb hK
     have AM := (hc m _ (evs_get hml)).keep hb hK
     have hbw : b < wr.heap.size := Nat.lt_of_lt_of_le hb hK.size
     have hB := (web_offIn (p := owP es) hlt HW.out m hm).1
     have hBl : k < (offIn (owP es) k T m).length := by rw [hB.2.1]; exact hlt
     clear hB AT hc
     have HP : Hid (owP es k m = ((es.getD k zE).1 == (es.getD m zE).1)) := Lib.hid (by unfold owP; rw [decide_eq_true hk3, decide_eq_true hm3]; rfl)
     obtain ⟨e, he⟩ : ∃ e, e = es.getD k zE := ⟨_, rfl⟩
     rw [← he] at AK HP
     clear he
     obtain ⟨d, hd⟩ : ∃ d, d = es.getD m zE := ⟨_, rfl⟩
     rw [← hd] at AM HP
     clear hd
     obtain ⟨x0, x1, x2, x3, x4, x5⟩ := e
     obtain ⟨y0, y1, y2, y3, y4, y5⟩ := d
     obtain ⟨A3, -, -, -, -, -⟩ := atE AK
     obtain ⟨B3, -, -, -, -, -⟩ := atE AM
     clear AK AM
     have j1 : (0 : Int) ≤ (m : Int) := Int.natCast_nonneg _
     have j2 : (m : Int) < (es.length : Int) := by omega
     have j3 : (es.length : Int) ≤ 12 := by omega
     have HH : owP es k m = true → Hid (offIn (owP es) k T (m + 1) = (offIn (owP es) k T m).set k (bits .andNot .i64 ((offIn (owP es) k T m).getD k 0) (wrap64 (2 ^ (m : Int).toNat)))) := fun hp => Lib.hid (offIn_hit T hp)
     have HM : owP es k m = false → Hid (offIn (owP es) k T (m + 1) = offIn (owP es) k T m) := fun hp => Lib.hid (offIn_miss T hp)
     have d1 := hr.cell (j := k) hBl
     have d2 := hr.free k
     have hGl := hr.lt
     obtain ⟨S, hS⟩ : ∃ S, S = offIn (owP es) k T m := ⟨_, rfl⟩
     rw [← hS] at d1 hr HH HM
     clear hS hBl
     obtain ⟨x, hx⟩ : ∃ x, x = S.getD k 0 := ⟨_, rfl⟩
     rw [← hx] at d1 HH
     clear hx
     by_cases xy : x0 = y0
     ·
      subst xy
      have HE1 := HH (by rw [HP.out]; simp)
      clear HH HM HP
      go_wp2
      go_quiet (fail)
      go_wp2
      go_roundw
      case rel => exact ⟨m + 1, by omega, by omega, by go_num, by rw [HE1.out]; exact (hr.drewN _).set k _, (hK.grown (grown_draw wr _ none) (by simp)).grown (grown_set _ G k _) (by simp; exact hG)⟩
      case measure => simp [intOf]; omega
     ·
      have xb : (x0 == y0) = false := by simp [xy]
      have HE1 := HM (by rw [HP.out]; exact xb)
      clear HH HM HP d1 d2
      go_wp2
      go_quiet (fail)
      go_wp2
      go_roundw
      case rel => exact ⟨m + 1, by omega, by omega, by go_num, by rw [HE1.out]; exact hr.drewN _, hK.grown (grown_draw wr _ none) (by simp)⟩
      case measure => simp [intOf]; omega
    ·
     obtain rfl : m = es.length := by omega
     go_wp2
     go_roundw
     case rel => exact ⟨k + 1, by omega, by omega, by go_num, by rw [← HE.out]; exact hr, hK⟩
     case measure => simp [intOf]; omega
  ·
   obtain rfl : k = es.length := by omega
   have HL := (web_offAll (p := owP es) HW0.out es.length (Nat.le_refl _)).1.2.1
   go_wp2
   go_ret
   exact ⟨_, rfl, row_new hr hG HL, hK⟩
end Go.Proofs.Ytkbkdlaknmgjpaa
