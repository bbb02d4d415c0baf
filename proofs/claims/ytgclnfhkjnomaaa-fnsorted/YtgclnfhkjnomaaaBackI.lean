/- Contract of the program's Back. -/
import Derived.Test.YtgclnfhkjnomaaaWebOk
import Derived.Test.YtgclnfhkjnomaaaBlank
import Derived.Test.YtgclnfhkjnomaaaMembersI
import Derived.Test.YtgclnfhkjnomaaaLineI
import Derived.Test.YtgclnfhkjnomaaaThenPlain
namespace Go.Proofs.Ytgclnfhkjnomaaa
open Go.ChangeShapes Go.WideShapes Go.ChangeAt Go.RowKit

set_option maxHeartbeats 3200000 in
theorem implBack_any (w : World) (v : Value) (zs : List Int) (h : Rd w v zs) (hn : zs.length ≤ 1048576) :
    Calls Try.prog 36 #[v] w fun e w' => ∃ v', e = .returned v' ∧ Row w' w.heap.size v' (backL zs) ∧ Keep w w' := by
  cases ht : webB zs
  · go_enter Try.func36, Try.ntmps36
    go_wp2_with fail
    refine (implWebOk_any _ _ _ h hn).mono ?_
    rintro e w' ⟨rfl, rfl⟩
    go_wp2
    go_ret
    exact ⟨_, rfl, by unfold backL; rw [ht]; exact row_empty _ _, (Keep.refl _).alloc _⟩
  · have r := h
    obtain ⟨a, c, rfl, h⟩ := h
    have hz12 := webB_len ht
    have HX : Hid (webB zs = true) := ht
    have HB : Hid (backL zs = backAll zs zs.length) := by show _ = _; unfold backL; rw [if_pos ht]
    go_enter Try.func36, Try.ntmps36
    go_wp2_with fail
    refine (implWebOk_any _ _ _ r hn).mono ?_
    rintro e w' ⟨rfl, rfl⟩
    go_wp2_with fail
    refine (blank_any _ _ hz12).mono ?_
    rintro e w1 ⟨rfl, rb, k1⟩
    go_wp2_with fail
    go_loopw [17] (fun i wr => ∃ k : Nat, k ≤ zs.length ∧ i = .int .i64 k ∧ RowAt wr w'.heap.size (backAll zs k) ∧ Keep w' wr) (fun i _ => zs.length - (intOf i).toNat)
    case atStart => exact ⟨0, Nat.zero_le _, rfl, rb, k1⟩
    case round =>
      obtain ⟨k, hk, rfl, hr, hK⟩ := hrel
      clear rb k1
      by_cases hlt : k < zs.length
      · rcases h with h | ⟨b1, o1, rfl, hb1, hc1⟩
        · exfalso; rw [h] at hlt; simp at hlt
        have d0 := (hK.cell hb1).trans (hc1 k hlt)
        have HP : Hid (okB zs.length (zs.getD k 0) = true) := webB_get HX.out hlt
        have HE : Hid ((mem (zs.getD k 0) 12).foldl (backF k) (backAll zs k) = backAll zs (k + 1)) := backIn_fold k _ _ 12
        have hTl := backAll_len zs k
        clear hc1
        generalize zs.getD k 0 = p at *
        have hml := mem_len p 12
        obtain ⟨wo, rfl⟩ : ∃ wo : World, wo = wr := ⟨_, rfl⟩
        go_wp2_with fail
        refine (implMembers_any _ _).mono ?_
        rintro e w3 ⟨vm, rfl, om, k3⟩
        have K3 := hK.trans k3
        have hr3 := hr.keep k3
        have hgo := hr.lt
        obtain ⟨am, cm, rfl, hm⟩ := om.rd
        clear hr hK k3 hm
        generalize backAll zs k = T at *
        go_wp2_with fail
        go_loopw [25] (fun i wr => ∃ j : Nat, j ≤ (mem p 12).length ∧ i = .int .i64 j ∧ RowAt wr w'.heap.size (((mem p 12).take j).foldl (backF k) T) ∧ Own wr wo.heap.size (.slice am (mem p 12).length cm) (mem p 12) ∧ Keep w' wr) (fun i _ => (mem p 12).length - (intOf i).toNat)
        case atStart => exact ⟨0, Nat.zero_le _, rfl, hr3, om, K3⟩
        case round =>
          obtain ⟨j, hj, rfl, hr, ho, hK⟩ := hrel
          clear hr3 om K3
          by_cases hjl : j < (mem p 12).length
          · obtain ⟨m, hm, hmn⟩ := mem_at HP.out hjl
            obtain ⟨am', cm', hv, hcm⟩ := ho.rd
            cases hv
            rcases hcm with h | ⟨b3, o3, rfl, hb3, hc3⟩
            · exfalso; rw [h] at hjl; simp at hjl
            have d1 := hc3 j hjl
            rw [hm] at d1
            have hGl : (((mem p 12).take j).foldl (backF k) T).length = zs.length := by rw [backF_len, hTl]
            have HF : Hid (((mem p 12).take (j + 1)).foldl (backF k) T = (((mem p 12).take j).foldl (backF k) T).set m (gAdd ((((mem p 12).take j).foldl (backF k) T).getD m 0) k)) := by
              show _ = _
              rw [foldl_snoc _ _ _ hjl, hm]; rfl
            clear hc3 hm
            go_wp2_with fail
            refine (line_any _ _ _ _ _ m k hr hGl hmn).mono ?_
            rintro e w4 ⟨rfl, hr4, g4⟩
            have ho4 := ho.kept g4 (by right; intro e; have := ho.ge _ e; omega)
            have hK4 := hK.grown g4 (by simp)
            rw [← HF.out] at hr4
            clear hr ho hK g4 d1
            go_wp2
            go_roundw
            case rel => exact ⟨j + 1, by omega, by go_num, hr4, ho4, hK4⟩
            case measure => simp [intOf]; omega
          · obtain rfl : j = (mem p 12).length := by omega
            rw [List.take_length, HE.out] at hr
            go_wp2
            go_roundw
            case rel => exact ⟨k + 1, by omega, by go_num, hr, hK⟩
            case measure => simp [intOf]; omega
      · obtain rfl : k = zs.length := by omega
        go_wp2
        go_ret
        refine ⟨_, rfl, ?_, hK⟩
        rw [HB.out]
        exact row_new hr (Nat.le_refl _) (backAll_len zs _)
end Go.Proofs.Ytgclnfhkjnomaaa
