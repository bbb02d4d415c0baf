/- Contracts of the specification's l2Ways, and of its copy of a list. -/
import Derived.Test.YtkbkdlaknmgjpaaGreatMB
import Derived.Test.YtkbkdlaknmgjpaaGreatME
import Derived.Test.YtkbkdlaknmgjpaaGreatL1Has
import Derived.Outline
import Derived.RegionTactic
import Derived.BigRegion
import Derived.Laws.AppendOwnNone
namespace Go.Proofs.YtkbkdlaknmgjpaaGreat
open Go.ChangeShapes Go.WideShapes Go.ChangeAt Go.RowKit

set_option maxHeartbeats 400000 in
theorem l1Copy_any (w : World) (base : Nat) (v : Value) (zs : List Int) (h : Row w base v zs) (hn : zs.length ≤ 1048576) :
    Calls Tryz.prog 158 #[v] w fun e w' => ∃ v', e = .returned v' ∧ Own w' w.heap.size v' zs ∧ Keep w w' := by
  have ho : Own (w.alloc (.cells #[] 2)) w.heap.size (.slice (some ⟨w.heap.size, 0, none⟩) 0 0) [] := World.ownsRow_lit w #[] 0 (Nat.le_refl _) (by decide) rfl
  have hK : Keep w (w.alloc (.cells #[] 2)) := (Keep.refl w).alloc _
  obtain ⟨i0, hi, hz0, hz1, hz2⟩ := info_parts Tryz.infoI
  rcases h with ⟨rfl, rfl⟩ | ⟨g, cap, rfl, hg, hr⟩
  · go_enter Tryz.func158, Tryz.ntmps158
    go_wp2_with (at_builtin; refine wpList_append_own_none rfl _ _ 25 rfl w.heap.size 2 i0 1 Tryz.underlying25 hi _ _ _ rfl ho rfl ?_)
    go_wp2
    go_ret
    exact ⟨_, rfl, ho, hK⟩
  · go_enter Tryz.func158, Tryz.ntmps158
    go_wp2_with (at_builtin; refine wpList_append_own _ rfl _ _ 25 rfl w.heap.size 2 i0 (.int .i64 0) 1 8 Tryz.underlying25 hi hz0 hz1 hz2 rfl (by decide) _ _ _ rfl ho ⟨g, 0, none⟩ zs.length cap (zs.map (Value.int .i64)) rfl (by simp) ?c1 ?c2 ?c3 ?c4 ?c5 ?_)
    case c1 =>
      intro j u hj
      rw [List.getElem?_map] at hj
      have hjl : j < zs.length := by
        apply Classical.byContradiction
        intro hno
        rw [List.getElem?_eq_none (by omega)] at hj
        cases hj
      have e1 : (⟨g, 0, none⟩ : Addr).add j = ⟨g, j, none⟩ := by unfold Addr.add; split <;> simp_all
      rw [e1, hK.cell hr.lt, hr.cell hjl, List.getD_eq_getElem?_getD]
      rw [List.getElem?_eq_getElem hjl] at hj ⊢
      simpa using hj
    case c2 =>
      intro u hu
      obtain ⟨y, _, rfl⟩ := List.mem_map.1 hu
      rfl
    case c3 => simp; unfold maxLen; omega
    case c4 => simp; omega
    case c5 => simp
    intro v' w1 hown' hgrow _
    have k1 : Keep w w1 := hK.grown hgrow ho.ge
    have o1 : Own w1 w.heap.size v' zs := by unfold Own; simpa using hown'
    clear hgrow hown'
    go_wp2
    go_ret
    exact ⟨_, rfl, o1, k1⟩
theorem wayS_hit (k : Nat) (st : List Int) (i : Nat) (h : inSetB ((wayIn k st i).getD i 0) k = true) : wayIn k st (i + 1) = (wayIn k st i).set i (orI ((wayIn k st i).getD i 0) ((wayIn k st i).getD k 0)) := by
  conv => lhs; unfold wayIn
  rw [if_pos h]
theorem wayS_miss (k : Nat) (st : List Int) (i : Nat) (h : inSetB ((wayIn k st i).getD i 0) k = false) : wayIn k st (i + 1) = wayIn k st i := by
  conv => lhs; unfold wayIn
  rw [h]; rfl
set_option maxRecDepth 100000 in
set_option maxHeartbeats 3200000 in
theorem l2Ways_any (w : World) (base : Nat) (v : Value) (zs : List Int) (h : Row w base v zs) (ht : Web zs.length zs) :
    Calls Tryz.prog 116 #[v] w fun e w' => ∃ v', e = .returned v' ∧ Row w' w.heap.size v' (wayAll zs zs.length) ∧ Keep w w' := by
  have hz12 := ht.1
  have HX : Hid (Web zs.length zs) := ht
  clear ht
  go_enter Tryz.func116, Tryz.ntmps116
  go_wp2_with fail
  refine (l1Copy_any _ _ _ _ h (by omega)).mono ?_
  rintro e w1 ⟨vo, rfl, oo, k1⟩
  clear h
  have hrow := oo.row
  clear oo
  rcases hrow with ⟨rfl, hnil⟩ | ⟨g, cap, rfl, hg, rb⟩
  · subst hnil
    go_wp2
    refine wp_loop_rounds 1 ?_
    rw [rounds_succ]
    go_wp2
    go_ret
    exact ⟨_, rfl, .inl ⟨rfl, rfl⟩, k1⟩
  · go_wp2_with fail
    go_loopw [4] (fun i wr => ∃ k : Nat, k ≤ zs.length ∧ i = .int .i64 k ∧ RowAt wr g (wayAll zs k) ∧ Keep w wr) (fun i _ => zs.length - (intOf i).toNat)
    case atStart => exact ⟨0, Nat.zero_le _, rfl, rb, k1⟩
    case round =>
      obtain ⟨k, hk, rfl, hr, hK⟩ := hrel
      clear rb k1
      by_cases hlt : k < zs.length
      · have HT : Hid (Web zs.length (wayAll zs k)) := web_wayAll HX.out k hk
        have HE : Hid (wayIn k (wayAll zs k) zs.length = wayAll zs (k + 1)) := rfl
        generalize wayAll zs k = T at *
        obtain ⟨wo, rfl⟩ : ∃ wo : World, wo = wr := ⟨_, rfl⟩
        go_wp2_with fail
        go_loopw [5] (fun i wr => ∃ m : Nat, m ≤ zs.length ∧ i = .int .i64 m ∧ RowAt wr g (wayIn k T m) ∧ Keep w wr) (fun i _ => zs.length - (intOf i).toNat)
        case atStart => exact ⟨0, Nat.zero_le _, rfl, hr, hK⟩
        case round =>
          clear hr hK
          obtain ⟨m, hm, rfl, hr, hK⟩ := hrel
          by_cases hml : m < zs.length
          · have hB := (web_wayIn hlt HT.out m hm).1
            have hBl := hB.2.1
            have hbit : inSetB ((wayIn k T m).getD m 0) k = bitB ((wayIn k T m).getD m 0) k := inSetB_bit (okB_range (hB.2.2 m hml)) (by omega)
            clear hB
            have d0 := hr.cell (j := m) (by omega)
            have d1 := hr.cell (j := k) (by omega)
            have d2 := hr.free m
            cases hb : bitB ((wayIn k T m).getD m 0) k
            · rw [hb] at hbit
              have HM : Hid (wayIn k T (m + 1) = wayIn k T m) := wayS_miss k T m hbit
              rw [← HM.out] at hr
              clear hbit
              generalize (wayIn k T m).getD m 0 = x at *
              generalize (wayIn k T m).getD k 0 = y at *
              clear d1 d2 HM
              go_wp2_with fail
              refine (l1Has_any _ _ _ (by omega) (by omega)).mono ?_
              rintro e w2 ⟨rfl, rfl⟩
              go_wp2
              go_roundw
              case rel => exact ⟨m + 1, by omega, by go_num, hr, hK⟩
              case measure => simp [intOf]; omega
            · rw [hb] at hbit
              have HM : Hid (wayIn k T (m + 1) = (wayIn k T m).set m (orI ((wayIn k T m).getD m 0) ((wayIn k T m).getD k 0))) := wayS_hit k T m hbit
              have hs := hr.set m (orI ((wayIn k T m).getD m 0) ((wayIn k T m).getD k 0))
              rw [← HM.out] at hs
              have hK2 := hK.grown (grown_set wr g m (.int .i64 (orI ((wayIn k T m).getD m 0) ((wayIn k T m).getD k 0)))) (by simp; exact hg)
              clear HM hr hbit
              generalize (wayIn k T m).getD m 0 = x at *
              generalize (wayIn k T m).getD k 0 = y at *
              have i1 : (0 : Int) ≤ (m : Int) := Int.natCast_nonneg _
              have i2 : (m : Int) < (zs.length : Int) := by omega
              have i3 : (0 : Int) ≤ (k : Int) := Int.natCast_nonneg _
              have i4 : (k : Int) < (zs.length : Int) := by omega
              go_wp2_with fail
              refine (l1Has_any _ _ _ (by omega) (by omega)).mono ?_
              rintro e w2 ⟨rfl, rfl⟩
              go_wp2
              go_region
              go_wp2
              go_roundw
              case rel => exact ⟨m + 1, by omega, by go_num, hs.drew, hK2.drew⟩
              case measure => simp [intOf]; omega
          · obtain rfl : m = zs.length := by omega
            rw [HE.out] at hr
            go_wp2
            go_roundw
            case rel => exact ⟨k + 1, by omega, by go_num, hr, hK⟩
            case measure => simp [intOf]; omega
      · obtain rfl : k = zs.length := by omega
        go_wp2
        go_ret
        exact ⟨_, rfl, row_new hr hg (wayAll_len zs _), hK⟩
end Go.Proofs.YtkbkdlaknmgjpaaGreat
