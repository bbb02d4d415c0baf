/- Contract of the specification's l7Place. -/
import Derived.Test.YtkbkdlaknmgjpaaGreatBehindS
namespace Go.Proofs.YtkbkdlaknmgjpaaGreat
open Go.ChangeShapes Go.WideShapes Go.ChangeAt Go.RowKit

set_option maxRecDepth 100000 in
set_option maxHeartbeats 4000000 in
theorem l7Place_any (w : World) (v : Value) (es : List Ev) (h : RdE w v es) (hn : es.length ≤ 12) :
    Calls Tryz.prog 118 #[v] w fun e w' => ∃ v', e = .returned v' ∧ Row w' w.heap.size v' (plcL es) ∧ Keep w w' := by
  have HB := (beh_line hn).1
  have r := h
  obtain ⟨a, c, rfl, h⟩ := h
  go_enter Tryz.func118, Tryz.ntmps118
  go_wp2_with fail
  refine (l7Behind_any _ _ _ r hn).mono ?_
  rintro e w1 ⟨v1, rfl, o1, k1⟩
  clear r
  by_cases h0 : es.length = 0
  · have e0 : es = [] := List.eq_nil_of_length_eq_zero h0
    subst e0
    go_wp2
    refine wp_loop_rounds 1 ?_
    rw [rounds_succ]
    go_wp2
    go_ret
    exact ⟨_, rfl, o1, k1⟩
  obtain ⟨G, cap, rfl, hG, hR⟩ : ∃ g cap, v1 = .slice (some ⟨g, 0, none⟩) es.length cap ∧ w.heap.size ≤ g ∧ RowAt w1 g (behL es) := by
    rcases o1 with ⟨_, e⟩ | ⟨g, cap, e, hg, hr⟩
    · exact absurd (HB.2.1.symm.trans (by rw [e]; rfl)) h0
    · exact ⟨g, cap, by rw [e, HB.2.1], hg, hr⟩
  clear o1 h0
  have HW0 := Lib.hid HB
  clear HB
  go_wp2
  go_loopw [4] (fun i wr => ∃ k : Nat, k ≤ es.length ∧ i = .int .i64 k ∧ RowAt wr G (offAll (plcP es) es.length (behL es) k) ∧ Keep w wr) (fun i _ => es.length - (intOf i).toNat)
  case atStart => exact ⟨0, Nat.zero_le _, rfl, hR, k1⟩
  case round =>
    obtain ⟨k, hk, rfl, hr, hK⟩ := hrel
    clear hR k1
    by_cases hlt : k < es.length
    · rcases h with h | ⟨b, off, rfl, hb, hc⟩
      · exfalso; rw [h] at hlt; simp at hlt
      have AT := hc k _ (evs_get hlt)
      have HW := Lib.hid (web_offAll (p := plcP es) HW0.out k (by omega)).1
      have HE : Hid (offIn (plcP es) k (offAll (plcP es) es.length (behL es) k) es.length = offAll (plcP es) es.length (behL es) (k + 1)) := Lib.hid rfl
      generalize offAll (plcP es) es.length (behL es) k = T at *
      obtain ⟨wo, rfl⟩ : ∃ wo : World, wo = wr := ⟨_, rfl⟩
      have i1 : (0 : Int) ≤ (k : Int) := Int.natCast_nonneg _
      have i2 : (k : Int) < (es.length : Int) := by omega
      go_wp2
      go_loopw [5] (fun i wr => ∃ m : Nat, m ≤ es.length ∧ i = .int .i64 m ∧ RowAt wr G (offIn (plcP es) k T m) ∧ Keep w wr) (fun i _ => es.length - (intOf i).toNat)
      case atStart => exact ⟨0, by omega, rfl, hr, hK⟩
      case round =>
        clear hr hK
        obtain ⟨m, hm, rfl, hr, hK⟩ := hrel
        by_cases hml : m < es.length
        · have AK := AT.keep hb hK
          have AM := (hc m _ (evs_get hml)).keep hb hK
          have hbw : b < wr.heap.size := Nat.lt_of_lt_of_le hb hK.size
          have hB := (web_offIn (p := plcP es) hlt HW.out m hm).1
          have hBl : k < (offIn (plcP es) k T m).length := by rw [hB.2.1]; exact hlt
          clear hB AT hc
          have HP : Hid (plcP es k m = ((es.getD k zE).2.2.2.1 != (es.getD m zE).2.2.2.1)) := Lib.hid rfl
          obtain ⟨e, he⟩ : ∃ e, e = es.getD k zE := ⟨_, rfl⟩
          rw [← he] at AK HP
          clear he
          obtain ⟨d, hd⟩ : ∃ d, d = es.getD m zE := ⟨_, rfl⟩
          rw [← hd] at AM HP
          clear hd
          obtain ⟨x0, x1, x2, x3, x4, x5⟩ := e
          obtain ⟨y0, y1, y2, y3, y4, y5⟩ := d
          obtain ⟨-, -, -, A3, -, -⟩ := atE AK
          obtain ⟨-, -, -, B3, -, -⟩ := atE AM
          clear AK AM
          have j1 : (0 : Int) ≤ (m : Int) := Int.natCast_nonneg _
          have j2 : (m : Int) < (es.length : Int) := by omega
          have j3 : (es.length : Int) ≤ 12 := by omega
          have HH : plcP es k m = true → Hid (offIn (plcP es) k T (m + 1) = (offIn (plcP es) k T m).set k (bits .andNot .i64 ((offIn (plcP es) k T m).getD k 0) (wrap64 (2 ^ (m : Int).toNat)))) := fun hp => Lib.hid (offIn_hit T hp)
          have HM : plcP es k m = false → Hid (offIn (plcP es) k T (m + 1) = offIn (plcP es) k T m) := fun hp => Lib.hid (offIn_miss T hp)
          have d1 := hr.cell (j := k) hBl
          have d2 := hr.free k
          have hGl := hr.lt
          obtain ⟨S, hS⟩ : ∃ S, S = offIn (plcP es) k T m := ⟨_, rfl⟩
          rw [← hS] at d1 hr HH HM
          clear hS hBl
          obtain ⟨x, hx⟩ : ∃ x, x = S.getD k 0 := ⟨_, rfl⟩
          rw [← hx] at d1 HH
          clear hx
          by_cases xy : x3 = y3
          · subst xy
            have HE1 := HM (by rw [HP.out]; simp)
            clear HH HM HP d1 d2
            go_wp2
            go_quiet (fail)
            go_wp2
            go_roundw
            case rel => exact ⟨m + 1, by omega, by go_num, by rw [HE1.out]; exact hr.drewN _, hK.grown (grown_draw wr _ none) (by simp)⟩
            case measure => simp [intOf]; omega
          · have xb : (x3 != y3) = true := by simp [xy]
            have HE1 := HH (by rw [HP.out]; exact xb)
            clear HH HM HP xy
            go_wp2
            go_quiet (fail)
            go_wp2
            go_roundw
            case rel => exact ⟨m + 1, by omega, by go_num, by rw [HE1.out]; exact (hr.drewN _).set k _, (hK.grown (grown_draw wr _ none) (by simp)).grown (grown_set _ G k _) (by simp; exact hG)⟩
            case measure => simp [intOf]; omega
        · obtain rfl : m = es.length := by omega
          go_wp2
          go_roundw
          case rel => exact ⟨k + 1, by omega, by go_num, by rw [← HE.out]; exact hr, hK⟩
          case measure => simp [intOf]; omega
    · obtain rfl : k = es.length := by omega
      have HL := (web_offAll (p := plcP es) HW0.out es.length (Nat.le_refl _)).1.2.1
      go_wp2
      go_ret
      exact ⟨_, rfl, row_new hr hG HL, hK⟩
end Go.Proofs.YtkbkdlaknmgjpaaGreat
