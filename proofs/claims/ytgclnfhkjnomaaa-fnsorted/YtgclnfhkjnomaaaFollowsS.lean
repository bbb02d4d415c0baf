/- Contract of the specification's Follows. -/
import Derived.Test.YtgclnfhkjnomaaaWebOk
import Derived.Test.YtgclnfhkjnomaaaFolPlain
namespace Go.Proofs.Ytgclnfhkjnomaaa
open Go.ChangeShapes Go.WideShapes Go.ChangeAt Go.RowKit

set_option maxRecDepth 100000 in
set_option maxHeartbeats 1600000 in
theorem specFollows_any (w : World) (v1 v2 : Value) (xs ys : List Int) (h1 : Rd w v1 xs) (h2 : Rd w v2 ys) (n1 : xs.length ≤ 1048576) (_n2 : ys.length ≤ 1048576) :
    Calls Try.prog 49 #[v1, v2] w fun e w' => e = .returned (.bool (followsB xs ys)) ∧ w' = w := by
  have r1 := h1
  obtain ⟨a1, c1, rfl, h1⟩ := h1
  obtain ⟨a2, c2, rfl, h2⟩ := h2
  cases ha : webB xs
  · go_enter Try.func49, Try.ntmps49
    go_wp2_with fail
    refine (specWebOk_any _ _ _ r1 n1).mono ?_
    rintro e w' ⟨rfl, rfl⟩
    go_wp2
    go_ret
    exact ⟨ret_bool (by simp [followsB, ha]), rfl⟩
  · by_cases hl : ys.length = xs.length
    · have hlb : ((ys.length : Int) != (xs.length : Int)) = false := by simp [hl]
      have HL : Hid (ys.length = xs.length) := hl
      have hl1 : ys.length ≤ xs.length := by omega
      have hl2 : xs.length ≤ ys.length := by omega
      have hx12 := webB_len ha
      have HA : Hid (webB xs = true) := ha
      have HW : Hid (Web xs.length xs) := web_iff.1 ha
      clear hl
      go_enter Try.func49, Try.ntmps49
      go_wp2_with fail
      refine (specWebOk_any _ _ _ r1 n1).mono ?_
      rintro e w' ⟨rfl, rfl⟩
      clear r1
      go_wp2
      clear ha hlb
      go_loop [5, 6] (fun s i => ∃ (k : Nat) (t : Int), k ≤ ys.length ∧ i = .int .i64 k ∧ s = .int .i64 t ∧ folK xs ys k = some t) (fun _ i => ys.length - (intOf i).toNat)
      case atStart => exact ⟨0, 0, Nat.zero_le _, rfl, rfl, rfl⟩
      case round =>
        obtain ⟨k, t, hk, rfl, rfl, hf⟩ := hrel
        have HF : Hid (folK xs ys k = some t) := hf
        have htr := okB_range (fol_ok HW.out k t hf)
        clear hf
        by_cases hlt : k < ys.length
        · rcases h2 with h2 | ⟨b2, o2, rfl, hb2, hc2⟩
          · exfalso; rw [h2] at hlt; simp at hlt
          rcases h1 with h1 | ⟨b1, o1, rfl, hb1, hc1⟩
          · exfalso; rw [h1] at hl1; simp at hl1; rw [hl1] at hlt; simp at hlt
          have d0 := hc2 k hlt
          obtain ⟨p, hp⟩ : ∃ p, p = ys.getD k 0 := ⟨_, rfl⟩
          have HP : Hid (p = ys.getD k 0) := hp
          rw [← hp] at d0
          clear hc2 hp
          cases hi : inB p 0 ((xs.length : Int) - 1)
          · have HR : Hid (followsB xs ys = false) := fol_bad hlt HF.out (by rw [← HP.out]; exact folB_out hi)
            clear hc1
            go_wp2_with fail
            refine (l1In_any _ _ _ _).mono ?_
            rintro e w' ⟨rfl, rfl⟩
            go_wp2
            go_ret
            exact ⟨ret_bool HR.out.symm, rfl⟩
          · have hi' := hi
            simp only [inB, decide_eq_true_eq] at hi'
            obtain ⟨m, rfl⟩ : ∃ m : Nat, p = m := ⟨p.toNat, by omega⟩
            have hm : m < xs.length := by omega
            have hm12 : m < 12 := by omega
            have d1 := hc1 m hm
            have hbit : inSetB t m = bitB t m := inSetB_bit htr hm12
            have HB : Hid (folB xs t (ys.getD k 0) = (!inSetB t m && (andI (xs.getD m 0) (gAdd t m) == 0))) := by rw [← HP.out]; exact folB_in hm
            have hki : inB (m : Int) 0 11 = true := by unfold inB; simp; omega
            have HG : Hid (gAdd t m = bits .or .i64 t (wrap64 (2 ^ (m : Int).toNat))) := gAdd_ok _ _ htr.1 hki
            clear hc1 hki
            obtain ⟨x, hx⟩ : ∃ x, x = xs.getD m 0 := ⟨_, rfl⟩
            have HX : Hid (x = xs.getD m 0) := hx
            rw [← hx] at d1
            clear hx
            cases hb : bitB t m
            · cases hz : bits .and .i64 x (bits .or .i64 t (wrap64 (2 ^ m))) != 0
              · have HN : Hid (folK xs ys (k + 1) = some (bits .or .i64 t (wrap64 (2 ^ m)))) := by
                  have := fol_next HF.out (by rw [HB.out, hbit, hb, HG.out, ← HX.out]; unfold andI; simpa using hz)
                  rw [← HP.out, HG.out] at this
                  exact this
                clear hbit HB
                go_wp2_with fail
                refine (l1In_any _ _ _ _).mono ?_
                rintro e w' ⟨rfl, rfl⟩
                go_wp2_with fail
                refine (l1Has_any _ _ _ (by omega) (by omega)).mono ?_
                rintro e w' ⟨rfl, rfl⟩
                go_wp2
                go_round
                case rel => exact ⟨k + 1, _, by omega, by go_num, rfl, HN.out⟩
                case measure => simp [intOf]; omega
              · have HR : Hid (followsB xs ys = false) := fol_bad hlt HF.out (by rw [HB.out, hbit, hb, HG.out, ← HX.out]; unfold andI; simpa using hz)
                clear hbit HB
                go_wp2_with fail
                refine (l1In_any _ _ _ _).mono ?_
                rintro e w' ⟨rfl, rfl⟩
                go_wp2_with fail
                refine (l1Has_any _ _ _ (by omega) (by omega)).mono ?_
                rintro e w' ⟨rfl, rfl⟩
                go_wp2
                go_ret
                exact ⟨ret_bool HR.out.symm, rfl⟩
            · have HR : Hid (followsB xs ys = false) := fol_bad hlt HF.out (by rw [HB.out, hbit, hb]; rfl)
              clear hbit HB
              go_wp2_with fail
              refine (l1In_any _ _ _ _).mono ?_
              rintro e w' ⟨rfl, rfl⟩
              go_wp2_with fail
              refine (l1Has_any _ _ _ (by omega) (by omega)).mono ?_
              rintro e w' ⟨rfl, rfl⟩
              go_wp2
              go_ret
              exact ⟨ret_bool HR.out.symm, rfl⟩
        · obtain rfl : k = ys.length := by omega
          have HR : Hid (followsB xs ys = true) := fol_end HA.out HL.out HF.out
          go_wp2
          go_ret
          exact ⟨ret_bool HR.out.symm, rfl⟩
    · have hlb : ((ys.length : Int) != (xs.length : Int)) = true := by simp; omega
      have HL : Hid (¬ ys.length = xs.length) := hl
      clear hl
      go_enter Try.func49, Try.ntmps49
      go_wp2_with fail
      refine (specWebOk_any _ _ _ r1 n1).mono ?_
      rintro e w' ⟨rfl, rfl⟩
      go_wp2
      go_ret
      exact ⟨ret_bool (by simp [followsB, HL.out]), rfl⟩
end Go.Proofs.Ytgclnfhkjnomaaa
