/- Contract of the specification's Back. -/
import Derived.Test.YtgolhjmbloiakaaGreatWebOkS
import Derived.Test.YtgolhjmbloiakaaGreatL1Has
import Derived.Test.YtgolhjmbloiakaaGreatMB
import Derived.Test.YtgolhjmbloiakaaGreatThenPlain
import Derived.Outline
namespace Go.Proofs.YtgolhjmbloiakaaGreat
open Go.ChangeShapes Go.WideShapes Go.ChangeAt Go.RowKit

theorem made_zeros (n : Nat) : (madeCells (Value.int .i64 0).cells (n * 1)).toList = ((List.replicate n (0 : Int)).map (Value.int .i64)) := by
  rw [Nat.mul_one, List.map_replicate]
  exact toList_madeCells_one _ _
theorem backIn_hit (i : Nat) (x : Int) (st : List Int) (k : Nat) (h : inSetB x k = true) : backIn i x st (k + 1) = (backIn i x st k).set k (gAdd ((backIn i x st k).getD k 0) i) := by
  conv => lhs; unfold backIn
  rw [if_pos h]
theorem backIn_miss (i : Nat) (x : Int) (st : List Int) (k : Nat) (h : inSetB x k = false) : backIn i x st (k + 1) = backIn i x st k := by
  conv => lhs; unfold backIn
  rw [h]; rfl
set_option maxHeartbeats 3200000 in
theorem specBack_any (w : World) (v : Value) (zs : List Int) (h : Rd w v zs) (hn : zs.length ≤ 1048576) :
    Calls Tryz.prog 13 #[v] w fun e w' => ∃ v', e = .returned v' ∧ Row w' w.heap.size v' (backL zs) ∧ Keep w w' := by
  cases ht : webB zs
  · go_enter Tryz.func13, Tryz.ntmps13
    go_wp2_with fail
    refine (specWebOk_any _ _ _ h hn).mono ?_
    rintro e w' ⟨rfl, rfl⟩
    go_wp2
    go_ret
    exact ⟨_, rfl, by unfold backL; rw [ht]; exact row_empty _ _, (Keep.refl _).alloc _⟩
  · have r := h
    obtain ⟨a, c, rfl, h⟩ := h
    obtain ⟨i0, hi, hz0, hz1, hz2⟩ := info_parts Tryz.infoI
    have hz12 := webB_len ht
    have HX : Hid (Web zs.length zs) := web_iff.1 ht
    have HB : Hid (backL zs = backAll zs zs.length) := by show _ = _; unfold backL; rw [if_pos ht]
    go_enter Tryz.func13, Tryz.ntmps13
    go_wp2_with fail
    refine (specWebOk_any _ _ _ r hn).mono ?_
    rintro e w' ⟨rfl, rfl⟩
    go_wp2_with (at_make; refine wpList_make_full _ rfl _ _ 25 rfl w'.heap.size 2 i0 (.int .i64 0) 1 Tryz.underlying25 hi hz0 hz1 .i64 .i64 _ _ zs.length rfl rfl rfl rfl (by rw [hz2]; omega) (by unfold maxLen; omega) (Nat.le_refl _) ?_; intro w1 hown hgrow)
    rw [made_zeros] at hown
    have k1 : Keep w' w1 := (Keep.refl w').grown hgrow (by simp)
    have rb : RowAt w1 w'.heap.size (backAll zs 0) := by
      have o : Own w1 w'.heap.size (.slice (some ⟨w'.heap.size, 0, none⟩) zs.length zs.length) (List.replicate zs.length 0) := by
        unfold Own; simpa using hown
      rcases o.row with ⟨e, _⟩ | ⟨g, cap, e, _, hr⟩
      · cases e
      · have e1 := congrArg Value.ownBlock e
        simp [Value.ownBlock] at e1
        rw [e1]; exact hr
    clear hgrow hown
    go_loopw [4] (fun i wr => ∃ k : Nat, k ≤ zs.length ∧ i = .int .i64 k ∧ RowAt wr w'.heap.size (backAll zs k) ∧ Keep w' wr) (fun i _ => zs.length - (intOf i).toNat)
    case atStart => exact ⟨0, Nat.zero_le _, rfl, rb, k1⟩
    case round =>
      obtain ⟨k, hk, rfl, hr, hK⟩ := hrel
      clear rb k1
      by_cases hlt : k < zs.length
      · rcases h with h | ⟨b1, o1, rfl, hb1, hc1⟩
        · exfalso; rw [h] at hlt; simp at hlt
        have c0 := hc1 k hlt
        have HP : Hid (okB zs.length (zs.getD k 0) = true) := HX.out.2.2 k hlt
        have HE : Hid (backIn k (zs.getD k 0) (backAll zs k) zs.length = backAll zs (k + 1)) := (backIn_stop HP.out k _ hz12).symm
        have HT : Hid (Web zs.length (backAll zs k)) := (web_backAll HX.out k hk).1
        clear hc1
        generalize zs.getD k 0 = p at *
        generalize backAll zs k = T at *
        obtain ⟨wo, rfl⟩ : ∃ wo : World, wo = wr := ⟨_, rfl⟩
        go_wp2_with fail
        go_loopw [5] (fun i wr => ∃ m : Nat, m ≤ zs.length ∧ i = .int .i64 m ∧ RowAt wr w'.heap.size (backIn k p T m) ∧ Keep w' wr) (fun i _ => zs.length - (intOf i).toNat)
        case atStart => exact ⟨0, Nat.zero_le _, rfl, hr, hK⟩
        case round =>
          clear hr hK
          obtain ⟨m, hm, rfl, hr, hK⟩ := hrel
          by_cases hml : m < zs.length
          · have d0 := (hK.cell hb1).trans c0
            have hbit : inSetB p m = bitB p m := inSetB_bit (okB_range HP.out) (by omega)
            have hB := (web_backIn HP.out hlt HT.out m).1
            have hok := hB.2.2 m hml
            have hrg := okB_range hok
            have hBl := hB.2.1
            clear hB hok
            cases hb : bitB p m
            · rw [hb] at hbit
              have HM : Hid (backIn k p T (m + 1) = backIn k p T m) := backIn_miss k p T m hbit
              clear hbit
              go_wp2_with fail
              refine (l1Has_any _ _ _ (by omega) (by omega)).mono ?_
              rintro e w2 ⟨rfl, rfl⟩
              go_wp2
              go_roundw
              case rel => exact ⟨m + 1, by omega, by go_num, by rw [HM.out]; exact hr, hK⟩
              case measure => simp [intOf]; omega
            · rw [hb] at hbit
              have hki : inB (k : Int) 0 11 = true := by unfold inB; simp; omega
              have HM : Hid (backIn k p T (m + 1) = (backIn k p T m).set m (bits .or .i64 ((backIn k p T m).getD m 0) (wrap64 (2 ^ (k : Int).toNat)))) := by
                show _ = _
                rw [backIn_hit k p T m hbit, gAdd_ok _ _ hrg.1 hki]
              clear hbit
              have d1 := hr.cell (j := m) (by omega)
              have d2 := hr.free m
              have hs := hr.set m (bits .or .i64 ((backIn k p T m).getD m 0) (wrap64 (2 ^ (k : Int).toNat)))
              rw [← HM.out] at hs
              have hK2 := hK.grown (grown_set wr w'.heap.size m (.int .i64 (bits .or .i64 ((backIn k p T m).getD m 0) (wrap64 (2 ^ (k : Int).toNat))))) (by simp)
              clear HM
              generalize (backIn k p T m).getD m 0 = x at *
              go_wp2_with fail
              refine (l1Has_any _ _ _ (by omega) (by omega)).mono ?_
              rintro e w2 ⟨rfl, rfl⟩
              go_wp2
              go_roundw
              case rel => exact ⟨m + 1, by omega, by go_num, hs, hK2⟩
              case measure => simp [intOf]; omega
          · obtain rfl : m = zs.length := by omega
            rw [HE.out] at hr
            go_wp2
            go_roundw
            case rel => exact ⟨k + 1, by omega, by go_num, hr, hK⟩
            case measure => simp [intOf]; omega
      · obtain rfl : k = zs.length := by omega
        go_wp2
        go_ret
        refine ⟨_, rfl, ?_, hK⟩
        rw [HB.out]
        exact row_new hr (Nat.le_refl _) (backAll_len zs _)
end Go.Proofs.YtgolhjmbloiakaaGreat
