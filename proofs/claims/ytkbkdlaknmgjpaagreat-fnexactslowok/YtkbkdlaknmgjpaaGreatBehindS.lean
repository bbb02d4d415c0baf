/- Contract of the specification's l7Behind. -/
import Derived.Test.YtkbkdlaknmgjpaaGreatMB
import Derived.BigRegion
import Derived.Deep.QuietTactic
import Derived.BigQuiet
import Derived.Lib.Hide
namespace Go.Proofs.YtkbkdlaknmgjpaaGreat
open Go.ChangeShapes Go.WideShapes Go.ChangeAt Go.RowKit

theorem made_noughts (n : Nat) : (madeCells (Value.int .i64 0).cells (n * 1)).toList = ((List.replicate n (0 : Int)).map (Value.int .i64)) := by
  rw [Nat.mul_one, List.map_replicate]
  exact toList_madeCells_one _ _
set_option maxRecDepth 100000 in
set_option maxHeartbeats 4000000 in
theorem l7Behind_any (w : World) (v : Value) (es : List Ev) (h : RdE w v es) (hn : es.length ≤ 12) :
    Calls Tryz.prog 153 #[v] w fun e w' => ∃ v', e = .returned v' ∧ Row w' w.heap.size v' (behL es) ∧ Keep w w' := by
  obtain ⟨a, c, rfl, h⟩ := h
  obtain ⟨i0, hi, hz0, hz1, hz2⟩ := info_parts Tryz.infoI
  go_enter Tryz.func153, Tryz.ntmps153
  go_wp2_with (at_make; refine wpList_make_full _ rfl _ _ 25 rfl w.heap.size 2 i0 (.int .i64 0) 1 Tryz.underlying25 hi hz0 hz1 .i64 .i64 _ _ es.length rfl rfl rfl rfl (by rw [hz2]; omega) (by unfold maxLen; omega) (Nat.le_refl _) ?_; intro w1 hown hgrow)
  rw [made_noughts] at hown
  have k1 : Keep w w1 := (Keep.refl w).grown hgrow (by simp)
  have rb : RowAt w1 w.heap.size (addAll (behP es) es.length 0) := by
    have o : Own w1 w.heap.size (.slice (some ⟨w.heap.size, 0, none⟩) es.length es.length) (List.replicate es.length 0) := by
      unfold Own; simpa using hown
    rcases o.row with ⟨e, _⟩ | ⟨g, cap, e, _, hr⟩
    · cases e
    · have e1 := congrArg Value.ownBlock e
      simp [Value.ownBlock] at e1
      rw [e1]; exact hr
  clear hgrow hown hi hz0 hz1 hz2
  go_loopw [4] (fun i wr => ∃ k : Nat, k ≤ es.length ∧ i = .int .i64 k ∧ RowAt wr w.heap.size (addAll (behP es) es.length k) ∧ Keep w wr) (fun i _ => es.length - (intOf i).toNat)
  case atStart => exact ⟨0, Nat.zero_le _, rfl, rb, k1⟩
  case round =>
    obtain ⟨k, hk, rfl, hr, hK⟩ := hrel
    clear rb k1
    by_cases hlt : k < es.length
    · rcases h with h | ⟨b, off, rfl, hb, hc⟩
      · exfalso; rw [h] at hlt; simp at hlt
      have AT := hc k _ (evs_get hlt)
      have HW := Lib.hid (web_addAll (p := behP es) hn k (by omega)).1
      have HE : Hid (addIn (behP es) k (addAll (behP es) es.length k) es.length = addAll (behP es) es.length (k + 1)) := Lib.hid rfl
      generalize addAll (behP es) es.length k = T at *
      obtain ⟨wo, rfl⟩ : ∃ wo : World, wo = wr := ⟨_, rfl⟩
      have i1 : (0 : Int) ≤ (k : Int) := Int.natCast_nonneg _
      have i2 : (k : Int) < (es.length : Int) := by omega
      have HST : Hid (addIn (behP es) k T (k + 1) = T) := Lib.hid (addIn_none T _ (fun j hj => behP_up (by omega)))
      go_wp2
      go_loopw [5] (fun i wr => ∃ m : Nat, k + 1 ≤ m ∧ m ≤ es.length ∧ i = .int .i64 m ∧ RowAt wr w.heap.size (addIn (behP es) k T m) ∧ Keep w wr) (fun i _ => es.length - (intOf i).toNat)
      case atStart => exact ⟨k + 1, Nat.le_refl _, by omega, by go_num, by rw [HST.out]; exact hr, hK⟩
      case round =>
        clear hr hK HST
        obtain ⟨m, hkm, hm, rfl, hr, hK⟩ := hrel
        by_cases hml : m < es.length
        · have AK := AT.keep hb hK
          have AM := (hc m _ (evs_get hml)).keep hb hK
          have hbw : b < wr.heap.size := Nat.lt_of_lt_of_le hb hK.size
          have hB := (web_addIn (p := behP es) hlt HW.out m hm).1
          have hrg := okB_range (hB.2.2 k hlt)
          have hBl : k < (addIn (behP es) k T m).length := by rw [hB.2.1]; exact hlt
          clear hB AT hc
          have HP : Hid (behP es k m = (decide (k < m) && ((decide (k < 3) && decide (3 ≤ m)) || (decide (3 ≤ k) && ((es.getD k zE).1 == (es.getD m zE).1))))) := Lib.hid rfl
          obtain ⟨e, he⟩ : ∃ e, e = es.getD k zE := ⟨_, rfl⟩
          rw [← he] at AK HP
          clear he
          obtain ⟨d, hd⟩ : ∃ d, d = es.getD m zE := ⟨_, rfl⟩
          rw [← hd] at AM HP
          clear hd
          obtain ⟨x0, x1, x2, x3, x4, x5⟩ := e
          obtain ⟨y0, y1, y2, y3, y4, y5⟩ := d
          obtain ⟨A0, -, -, -, -, -⟩ := atE AK
          obtain ⟨B0, -, -, -, -, -⟩ := atE AM
          clear AK AM
          have j1 : (0 : Int) ≤ (m : Int) := Int.natCast_nonneg _
          have j2 : (m : Int) < (es.length : Int) := by omega
          have j3 : (es.length : Int) ≤ 12 := by omega
          have HH : behP es k m = true → Hid (addIn (behP es) k T (m + 1) = (addIn (behP es) k T m).set k (bits .or .i64 ((addIn (behP es) k T m).getD k 0) (wrap64 (2 ^ (m : Int).toNat)))) := fun hp => Lib.hid (by
            rw [addIn_hit T hp, gAdd_ok _ _ hrg.1 (by unfold inB; simp; omega)])
          have HM : behP es k m = false → Hid (addIn (behP es) k T (m + 1) = addIn (behP es) k T m) := fun hp => Lib.hid (addIn_miss T hp)
          have d1 := hr.cell (j := k) hBl
          have d2 := hr.free k
          obtain ⟨S, hS⟩ : ∃ S, S = addIn (behP es) k T m := ⟨_, rfl⟩
          rw [← hS] at d1 hr HH HM hrg
          clear hS hBl
          obtain ⟨x, hx⟩ : ∃ x, x = S.getD k 0 := ⟨_, rfl⟩
          rw [← hx] at d1 HH hrg
          clear hx
          by_cases k3 : k < 3
          · have k4 : (k : Int) < 3 := by omega
            have k5 : decide ((3 : Int) ≤ (k : Int)) = false := decide_eq_false (by omega)
            by_cases m3 : m < 3
            · have m4 : decide ((3 : Int) ≤ (m : Int)) = false := decide_eq_false (by omega)
              have HE1 := HM (by rw [HP.out]; simp; omega)
              clear HH HM HP d1 d2
              go_wp2
              go_quiet (fail)
              go_wp2
              go_roundw
              case rel => exact ⟨m + 1, by omega, by omega, by go_num, by rw [HE1.out]; exact hr.drewN _, hK.grown (grown_draw wr _ none) (by simp)⟩
              case measure => simp [intOf]; omega
            · have m4 : (3 : Int) ≤ (m : Int) := by omega
              have HE1 := HH (by rw [HP.out]; simp; omega)
              clear HH HM HP
              go_wp2
              go_quiet (fail)
              go_wp2
              go_roundw
              case rel => exact ⟨m + 1, by omega, by omega, by go_num, by rw [HE1.out]; exact (hr.drewN _).set k _, (hK.grown (grown_draw wr _ none) (by simp)).grown (grown_set _ w.heap.size k _) (by simp)⟩
              case measure => simp [intOf]; omega
          · have k4 : (3 : Int) ≤ (k : Int) := by omega
            have k5 : decide ((k : Int) < 3) = false := decide_eq_false (by omega)
            by_cases xy : x0 = y0
            · subst xy
              have HE1 := HH (by rw [HP.out]; simp; omega)
              clear HH HM HP
              go_wp2
              go_quiet (fail)
              go_wp2
              go_roundw
              case rel => exact ⟨m + 1, by omega, by omega, by go_num, by rw [HE1.out]; exact (hr.drewN _).set k _, (hK.grown (grown_draw wr _ none) (by simp)).grown (grown_set _ w.heap.size k _) (by simp)⟩
              case measure => simp [intOf]; omega
            · have xb : (x0 == y0) = false := by simp [xy]
              have HE1 := HM (by rw [HP.out]; simp [xb]; omega)
              clear HH HM HP d1 d2
              go_wp2
              go_quiet (fail)
              go_wp2
              go_roundw
              case rel => exact ⟨m + 1, by omega, by omega, by go_num, by rw [HE1.out]; exact hr.drewN _, hK.grown (grown_draw wr _ none) (by simp)⟩
              case measure => simp [intOf]; omega
        · obtain rfl : m = es.length := by omega
          go_wp2
          go_roundw
          case rel => exact ⟨k + 1, by omega, by go_num, by rw [← HE.out]; exact hr, hK⟩
          case measure => simp [intOf]; omega
    · obtain rfl : k = es.length := by omega
      have HL := (web_addAll (p := behP es) hn es.length (Nat.le_refl _)).1.2.1
      go_wp2
      go_ret
      exact ⟨_, rfl, row_new hr (Nat.le_refl _) HL, hK⟩
end Go.Proofs.YtkbkdlaknmgjpaaGreat
