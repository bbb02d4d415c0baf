/- Contract of the program's Ways. -/
import Derived.Test.YtkbkdlaknmgjpaaGreatMB
import Derived.Test.YtkbkdlaknmgjpaaGreatInSetI
import Derived.Test.YtkbkdlaknmgjpaaGreatME
import Derived.RegionTactic
import Derived.BigRegion
namespace Go.Proofs.YtkbkdlaknmgjpaaGreat
open Go.ChangeShapes Go.WideShapes Go.ChangeAt Go.RowKit

theorem wayIn_hit (k : Nat) (st : List Int) (i : Nat) (h : inSetB ((wayIn k st i).getD i 0) k = true) : wayIn k st (i + 1) = (wayIn k st i).set i (orI ((wayIn k st i).getD i 0) ((wayIn k st i).getD k 0)) := by
  conv => lhs; unfold wayIn
  rw [if_pos h]
theorem wayIn_miss (k : Nat) (st : List Int) (i : Nat) (h : inSetB ((wayIn k st i).getD i 0) k = false) : wayIn k st (i + 1) = wayIn k st i := by
  conv => lhs; unfold wayIn
  rw [h]; rfl
set_option maxRecDepth 100000 in
set_option maxHeartbeats 3200000 in
theorem implWays_any (w : World) (v : Value) (zs : List Int) (h : Rd w v zs) (hn : zs.length ≤ 1048576) :
    Calls Tryz.prog 76 #[v] w fun e w' => ∃ v', e = .returned v' ∧ Row w' w.heap.size v' (waysL zs) ∧ Keep w w' := by
  cases ht : webB zs
  · go_enter Tryz.func76, Tryz.ntmps76
    go_wp2_with fail
    refine (implWebOk_any _ _ _ h hn).mono ?_
    rintro e w' ⟨rfl, rfl⟩
    go_wp2
    go_ret
    exact ⟨_, rfl, by unfold waysL; rw [ht]; exact row_empty _ _, (Keep.refl _).alloc _⟩
  · have hz12 := webB_len ht
    have HX : Hid (Web zs.length zs) := web_iff.1 ht
    have HB : Hid (waysL zs = wayAll zs zs.length) := by show _ = _; unfold waysL; rw [if_pos ht]
    go_enter Tryz.func76, Tryz.ntmps76
    go_wp2_with fail
    refine (implWebOk_any _ _ _ h hn).mono ?_
    rintro e w' ⟨rfl, rfl⟩
    go_wp2_with fail
    refine (owned_any _ _ _ h hz12).mono ?_
    rintro e w1 ⟨rfl, rb, k1⟩
    clear h
    go_wp2_with fail
    go_loopw [15] (fun i wr => ∃ k : Nat, k ≤ zs.length ∧ i = .int .i64 k ∧ RowAt wr w'.heap.size (wayAll zs k) ∧ Keep w' wr) (fun i _ => zs.length - (intOf i).toNat)
    case atStart => exact ⟨0, Nat.zero_le _, rfl, rb, k1⟩
    case round =>
      obtain ⟨k, hk, rfl, hr, hK⟩ := hrel
      clear rb k1
      by_cases hlt : k < zs.length
      · have HT : Hid (Web zs.length (wayAll zs k)) := web_wayAll HX.out k hk
        have HE : Hid (wayIn k (wayAll zs k) zs.length = wayAll zs (k + 1)) := rfl
        generalize wayAll zs k = T at *
        obtain ⟨wo, rfl⟩ : ∃ wo : World, wo = wr := ⟨_, rfl⟩
        go_wp2_with fail
        go_loopw [20] (fun i wr => ∃ m : Nat, m ≤ zs.length ∧ i = .int .i64 m ∧ RowAt wr w'.heap.size (wayIn k T m) ∧ Keep w' wr) (fun i _ => zs.length - (intOf i).toNat)
        case atStart => exact ⟨0, Nat.zero_le _, rfl, hr, hK⟩
        case round =>
          clear hr hK
          obtain ⟨m, hm, rfl, hr, hK⟩ := hrel
          by_cases hml : m < zs.length
          · have hB := (web_wayIn hlt HT.out m hm).1
            have hBl := hB.2.1
            clear hB
            have d0 := hr.cell (j := m) (by omega)
            have d1 := hr.cell (j := k) (by omega)
            have d2 := hr.free m
            cases hb : inSetB ((wayIn k T m).getD m 0) k
            · have HM : Hid (wayIn k T (m + 1) = wayIn k T m) := wayIn_miss k T m hb
              rw [← HM.out] at hr
              generalize (wayIn k T m).getD m 0 = x at *
              generalize (wayIn k T m).getD k 0 = y at *
              clear d1 d2 HM
              go_wp2_with fail
              refine (implInSet_any _ _ _).mono ?_
              rintro e w2 ⟨rfl, rfl⟩
              go_wp2
              go_roundw
              case rel => exact ⟨m + 1, by omega, by go_num, hr, hK⟩
              case measure => simp [intOf]; omega
            · have HM : Hid (wayIn k T (m + 1) = (wayIn k T m).set m (orI ((wayIn k T m).getD m 0) ((wayIn k T m).getD k 0))) := wayIn_hit k T m hb
              have hs := hr.set m (orI ((wayIn k T m).getD m 0) ((wayIn k T m).getD k 0))
              rw [← HM.out] at hs
              have hK2 := hK.grown (grown_set wr w'.heap.size m (.int .i64 (orI ((wayIn k T m).getD m 0) ((wayIn k T m).getD k 0)))) (by simp)
              clear HM hr
              generalize (wayIn k T m).getD m 0 = x at *
              generalize (wayIn k T m).getD k 0 = y at *
              have i1 : (0 : Int) ≤ (m : Int) := Int.natCast_nonneg _
              have i2 : (m : Int) < (zs.length : Int) := by omega
              have i3 : (0 : Int) ≤ (k : Int) := Int.natCast_nonneg _
              have i4 : (k : Int) < (zs.length : Int) := by omega
              go_wp2_with fail
              refine (implInSet_any _ _ _).mono ?_
              rintro e w2 ⟨rfl, rfl⟩
              go_wp2
              go_region
              go_wp2
              go_roundw
              case rel => exact ⟨m + 1, by omega, by go_num, hs.drew, hK2.drew⟩
              case measure => simp [intOf]; omega
          · obtain rfl : m = zs.length := by omega
            rw [HE.out] at hr
            go_wp2
            go_roundw
            case rel => exact ⟨k + 1, by omega, by go_num, hr, hK⟩
            case measure => simp [intOf]; omega
      · obtain rfl : k = zs.length := by omega
        go_wp2
        go_ret
        refine ⟨_, rfl, ?_, hK⟩
        rw [HB.out]
        exact row_new hr (Nat.le_refl _) (wayAll_len zs _)
end Go.Proofs.YtkbkdlaknmgjpaaGreat
