/- Contract of the program's mates: a new web with a line between each two of one class. -/
import Derived.Test.YtkbkdlaknmgjpaaGreatMB
import Derived.Test.YtkbkdlaknmgjpaaGreatME
import Derived.Test.YtkbkdlaknmgjpaaGreatMatesPlain
namespace Go.Proofs.YtkbkdlaknmgjpaaGreat
open Go.ChangeShapes Go.WideShapes Go.ChangeAt Go.RowKit

theorem mate_hit (cl : List Int) (c : Int) (m : Nat) (h : c = cl.getD m 0) : mateS cl c (m + 1) = gAdd (mateS cl c m) m := by
  conv => lhs; unfold mateS
  rw [if_pos h]
theorem mate_miss (cl : List Int) (c : Int) (m : Nat) (h : ¬ c = cl.getD m 0) : mateS cl c (m + 1) = mateS cl c m := by
  conv => lhs; unfold mateS
  rw [if_neg h]
set_option maxRecDepth 100000 in
set_option maxHeartbeats 3200000 in
theorem mates_any (w : World) (v : Value) (cl : List Int) (h : Rd w v cl) (hn : cl.length ≤ 12) :
    Calls Tryz.prog 78 #[v] w fun e w' => ∃ v', e = .returned v' ∧ Row w' w.heap.size v' (matesL cl) ∧ Keep w w' := by
  obtain ⟨a, c, rfl, h⟩ := h
  have HB : Hid (mapK (fun c => mateS cl c cl.length) cl cl.length = matesL cl) := mapK_end _ _
  have HZ : Hid (mapK (fun c => mateS cl c cl.length) cl 0 = List.replicate cl.length 0) := mapK_zero _ _
  go_enter Tryz.func78, Tryz.ntmps78
  go_wp2_with fail
  refine (blank_any _ _ hn).mono ?_
  rintro e w1 ⟨rfl, rb, k1⟩
  rw [← HZ.out] at rb
  go_wp2_with fail
  go_loopw [13] (fun i wr => ∃ k : Nat, k ≤ cl.length ∧ i = .int .i64 k ∧ RowAt wr w.heap.size (mapK (fun c => mateS cl c cl.length) cl k) ∧ Keep w wr) (fun i _ => cl.length - (intOf i).toNat)
  case atStart => exact ⟨0, Nat.zero_le _, rfl, rb, k1⟩
  case round =>
    obtain ⟨k, hk, rfl, hr, hK⟩ := hrel
    clear rb k1
    by_cases hlt : k < cl.length
    · rcases h with h | ⟨b1, o1, rfl, hb1, hc1⟩
      · exfalso; rw [h] at hlt; simp at hlt
      have d0 := (hK.cell hb1).trans (hc1 k hlt)
      have HE : Hid ((mapK (fun c => mateS cl c cl.length) cl k).set k (mateS cl (cl.getD k 0) cl.length) = mapK (fun c => mateS cl c cl.length) cl (k + 1)) := mapK_set _ cl hlt
      have HS : Hid ((mapK (fun c => mateS cl c cl.length) cl k).set k (mateS cl (cl.getD k 0) 0) = mapK (fun c => mateS cl c cl.length) cl k) := mapK_same _ cl hlt
      have hTl : (mapK (fun c => mateS cl c cl.length) cl k).length = cl.length := mapK_len _ cl hk
      rw [← HS.out] at hr
      obtain ⟨p, hp⟩ : ∃ p, p = cl.getD k 0 := ⟨_, rfl⟩
      have HC : Hid (p = cl.getD k 0) := hp
      rw [← hp] at d0 hr HE
      generalize mapK (fun c => mateS cl c cl.length) cl k = T at *
      clear hp HS
      obtain ⟨wo, rfl⟩ : ∃ wo : World, wo = wr := ⟨_, rfl⟩
      go_wp2_with fail
      go_loopw [20] (fun i wr => ∃ m : Nat, m ≤ cl.length ∧ i = .int .i64 m ∧ RowAt wr w.heap.size (T.set k (mateS cl p m)) ∧ Keep w wr) (fun i _ => cl.length - (intOf i).toNat)
      case atStart => exact ⟨0, Nat.zero_le _, rfl, hr, hK⟩
      case round =>
        clear hr hK
        obtain ⟨m, hm, rfl, hr, hK⟩ := hrel
        by_cases hml : m < cl.length
        · have d1 := (hK.cell hb1).trans (hc1 m hml)
          obtain ⟨q, hq⟩ : ∃ q, q = cl.getD m 0 := ⟨_, rfl⟩
          have HQ : Hid (q = cl.getD m 0) := hq
          rw [← hq] at d1
          clear hq hc1
          have hGl : (T.set k (mateS cl p m)).length = cl.length := by rw [List.length_set, hTl]
          cases he : p == q
          · have HM : Hid (mateS cl p (m + 1) = mateS cl p m) := mate_miss cl p m (by rw [← HQ.out]; simpa using he)
            rw [← HM.out] at hr
            go_wp2
            go_roundw
            case rel => exact ⟨m + 1, by omega, by go_num, hr, hK⟩
            case measure => simp [intOf]; omega
          · have HM : Hid ((T.set k (mateS cl p m)).set k (gAdd ((T.set k (mateS cl p m)).getD k 0) m) = T.set k (mateS cl p (m + 1))) := by
              show _ = _
              rw [getD_set_same T (by omega), set_set_same, mate_hit cl p m (by rw [← HQ.out]; simpa using he)]
            go_wp2_with fail
            refine (line_any _ _ _ _ _ k m hr hGl hlt).mono ?_
            rintro e w4 ⟨rfl, hr4, g4⟩
            rw [HM.out] at hr4
            have hK4 := hK.grown g4 (by simp)
            clear hr hK g4
            go_wp2
            go_roundw
            case rel => exact ⟨m + 1, by omega, by go_num, hr4, hK4⟩
            case measure => simp [intOf]; omega
        · obtain rfl : m = cl.length := by omega
          rw [HE.out] at hr
          go_wp2
          go_roundw
          case rel => exact ⟨k + 1, by omega, by go_num, hr, hK⟩
          case measure => simp [intOf]; omega
    · obtain rfl : k = cl.length := by omega
      go_wp2
      go_ret
      refine ⟨_, rfl, ?_, hK⟩
      rw [← HB.out]
      exact row_new hr (Nat.le_refl _) (mapK_len _ cl (Nat.le_refl _))
end Go.Proofs.YtkbkdlaknmgjpaaGreat
