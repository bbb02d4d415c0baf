/- Contract of the specification's Then. -/
import Derived.Test.YtgolhjmbloiakaaGreatTwo
import Derived.Test.YtgolhjmbloiakaaGreatMB
import Derived.Test.YtgolhjmbloiakaaGreatThenPlain
import Derived.Outline
namespace Go.Proofs.YtgolhjmbloiakaaGreat
open Go.ChangeShapes Go.WideShapes Go.ChangeAt Go.RowKit

theorem news_one (w : World) (x : Int) (e : TypeId) : ∀ j u, [Value.int .i64 x][j]? = some u → (w.alloc (.cells #[.int .i64 x] e)).cell? ((⟨w.heap.size, 0, none⟩ : Addr).add j) = some u := by
  intro j u hj
  match j, hj with
  | 0, hj => simp at hj; subst hj; simp [Addr.add]
theorem one_cell (x : Int) : ∀ u ∈ [Value.int .i64 x], u.oneCell' = true := by
  intro u hu; simp at hu; subst hu; rfl
theorem map_step (f : Int → Int) {l : List Int} {k : Nat} (hk : k < l.length) : (l.map f).take (k + 1) = (l.map f).take k ++ [f (l.getD k 0)] := by
  have hz : k < (l.map f).length := by simpa using hk
  rw [List.take_succ_eq_append_getElem hz, List.getElem_map, List.getD_eq_getElem?_getD, List.getElem?_eq_getElem hk]
  rfl
set_option maxHeartbeats 3200000 in
theorem specThen_web (w : World) (v1 v2 : Value) (xs ys : List Int) (h1 : Rd w v1 xs) (h2 : Rd w v2 ys) (ht : twoB xs ys = true) :
    Calls Tryz.prog 12 #[v1, v2] w fun e w' => ∃ v', e = .returned v' ∧ Own w' w.heap.size v' (xs.map (fun x => thenS x ys 12)) ∧ Keep w w' := by
  have r1 := h1
  have r2 := h2
  obtain ⟨a1, c1, rfl, h1⟩ := h1
  obtain ⟨a2, c2, rfl, h2⟩ := h2
  obtain ⟨hl, wx, wy⟩ := twoB_iff.1 ht
  have hx12 := webB_len wx
  have hl1 : xs.length ≤ ys.length := by omega
  have hl2 : ys.length ≤ xs.length := by omega
  have HX : Hid (webB xs = true) := wx
  clear wx wy hl
  have hown0 : Own (w.alloc (.cells #[] 2)) w.heap.size (.slice (some ⟨w.heap.size, 0, none⟩) 0 0) [] := World.ownsRow_lit w #[] 0 (Nat.le_refl _) (by decide) rfl
  obtain ⟨i0, hi, hz0, hz1, hz2⟩ := info_parts Tryz.infoI
  go_enter Tryz.func12, Tryz.ntmps12
  go_wp2
  go_loopw [5, 6] (fun v i wr => ∃ k : Nat, k ≤ xs.length ∧ i = .int .i64 k ∧ Own wr w.heap.size v ((xs.map (fun x => thenS x ys 12)).take k) ∧ Keep w wr) (fun _ i _ => xs.length - (intOf i).toNat)
  case atStart => exact ⟨0, Nat.zero_le _, rfl, hown0, (Keep.refl _).alloc _⟩
  case round =>
    obtain ⟨k, hk, rfl, ho, hK⟩ := hrel
    clear hown0
    by_cases hlt : k < xs.length
    · rcases h1 with h | ⟨b1, o1, rfl, hb1, hc1⟩
      · exfalso; rw [h] at hlt; simp at hlt
      rcases h2 with h | ⟨b2, o2, rfl, hb2, hc2⟩
      · exfalso; rw [h] at hl1; simp only [List.length_nil] at hl1; omega
      have d1 := (hK.cell hb1).trans (hc1 k hlt)
      have hp : okB xs.length (xs.getD k 0) = true := webB_get HX.out hlt
      have HS : Hid ((xs.map (fun x => thenS x ys 12)).take (k + 1) = (xs.map (fun x => thenS x ys 12)).take k ++ [thenS (xs.getD k 0) ys 12]) := map_step _ hlt
      have HP : Hid (okB xs.length (xs.getD k 0) = true) := hp
      have hLl : ((xs.map (fun x => thenS x ys 12)).take k).length ≤ 12 := by rw [List.length_take, List.length_map]; omega
      have hsz := hK.size
      have rr1 := r1.keep hK
      have rr2 := r2.keep hK
      clear hc1 hp
      generalize xs.getD k 0 = p at *
      generalize (xs.map (fun x => thenS x ys 12)).take k = L at *
      obtain ⟨wo, rfl⟩ : ∃ wo : World, wo = wr := ⟨_, rfl⟩
      go_wp2_with fail
      refine (l2Two_any _ _ _ _ _ rr1 rr2 (by omega) (by omega)).mono ?_
      rintro e wo ⟨rfl, rfl⟩
      go_wp2_with fail
      go_loop [7, 8] (fun s i => ∃ m : Nat, m ≤ ys.length ∧ i = .int .i64 m ∧ s = .int .i64 (thenS p ys m)) (fun _ i => ys.length - (intOf i).toNat)
      case atStart => exact ⟨0, Nat.zero_le _, rfl, rfl⟩
      case round =>
        obtain ⟨m, hm, rfl, rfl⟩ := hrel
        by_cases hml : m < ys.length
        · have d2 := (hK.cell hb2).trans (hc2 m hml)
          have hbit : inSetB p m = bitB p m := inSetB_bit (okB_range HP.out) (by omega)
          cases hb : bitB p m
          · have HM : Hid (thenS p ys (m + 1) = thenS p ys m) := by
              show _ = _
              conv => lhs; unfold thenS
              rw [hbit, hb]; rfl
            clear hbit
            go_wp2_with fail
            refine (l1Has_any _ _ _ (by omega) (by omega)).mono ?_
            rintro e w2 ⟨rfl, rfl⟩
            go_wp2
            go_round
            case rel => exact ⟨m + 1, by omega, by go_num, by rw [HM.out]⟩
            case measure => simp [intOf]; omega
          · have HM : Hid (thenS p ys (m + 1) = orI (thenS p ys m) (ys.getD m 0)) := by
              show _ = _
              conv => lhs; unfold thenS
              rw [hbit, hb]; rfl
            clear hbit
            generalize ys.getD m 0 = q at *
            go_wp2_with fail
            refine (l1Has_any _ _ _ (by omega) (by omega)).mono ?_
            rintro e w2 ⟨rfl, rfl⟩
            go_wp2
            go_round
            case rel => exact ⟨m + 1, by omega, by go_num, by rw [HM.out]; rfl⟩
            case measure => simp [intOf]; omega
        · have HT : Hid (thenS p ys 12 = thenS p ys m) := by
            show _ = _
            obtain rfl : m = xs.length := by omega
            exact thenS_stop HP.out ys hx12
          clear hm
          have m1 : L.length + 1 ≤ maxLen := by unfold maxLen; omega
          have m2 : (L.length + 1) * 8 ≤ 140737488355328 := by omega
          go_wp2_with (at_builtin; refine wpList_append_own _ rfl _ _ 25 rfl w.heap.size 2 i0 (.int .i64 0) 1 8 Tryz.underlying25 hi hz0 hz1 hz2 rfl (by decide) _ _ _ rfl (World.ownsRow.alloc ho _) ⟨_, 0, none⟩ 1 1 [.int .i64 (thenS p ys m)] rfl rfl (news_one _ _ _) (one_cell _) m1 m2 (by simp; omega) ?_)
          intro v' w1 hown' hgrow _
          have hK1 : Keep w w1 := (hK.alloc _).grown hgrow ho.ge
          clear hgrow
          go_wp2
          go_roundw
          case rel => exact ⟨k + 1, by omega, by go_num, by rw [HS.out, HT.out]; exact own_hit hown', hK1⟩
          case measure => simp [intOf]; omega
    · obtain rfl : k = xs.length := by omega
      go_wp2
      go_ret
      refine ⟨_, rfl, ?_, hK⟩
      rw [List.take_of_length_le (by simp)] at ho
      exact ho
set_option maxHeartbeats 400000 in
theorem specThen_any (w : World) (v1 v2 : Value) (xs ys : List Int) (h1 : Rd w v1 xs) (h2 : Rd w v2 ys) (n1 : xs.length ≤ 1048576) (n2 : ys.length ≤ 1048576) :
    Calls Tryz.prog 12 #[v1, v2] w fun e w' => ∃ v', e = .returned v' ∧ Row w' w.heap.size v' (thenL xs ys) ∧ Keep w w' := by
  have e0 : Row (w.alloc (.cells #[] 2)) w.heap.size (.slice (some ⟨w.heap.size, 0, none⟩) 0 0) [] := row_empty _ _
  cases ht : twoB xs ys
  · have r1 := h1
    obtain ⟨a1, c1, rfl, _⟩ := r1
    have e1 := (h1.keep ((Keep.refl w).alloc (.cells #[] 2)))
    have e2 := (h2.keep ((Keep.refl w).alloc (.cells #[] 2)))
    by_cases h0 : 0 < xs.length
    · go_enter Tryz.func12, Tryz.ntmps12
      go_wp2
      refine wp_loop_rounds 1 ?_
      rw [rounds_succ]
      go_wp2_with fail
      refine (l2Two_any _ _ _ _ _ e1 e2 n1 n2).mono ?_
      rintro e w' ⟨rfl, rfl⟩
      go_wp2
      go_ret
      exact ⟨_, rfl, by unfold thenL; rw [ht]; exact e0, (Keep.refl _).alloc _⟩
    · have hz : xs.length = 0 := by omega
      go_enter Tryz.func12, Tryz.ntmps12
      go_wp2
      refine wp_loop_rounds 1 ?_
      rw [rounds_succ]
      go_wp2
      go_ret
      exact ⟨_, rfl, by unfold thenL; rw [ht]; exact e0, (Keep.refl _).alloc _⟩
  · refine (specThen_web _ _ _ _ _ h1 h2 ht).mono ?_
    rintro e w2 ⟨v', rfl, o, k⟩
    exact ⟨_, rfl, by unfold thenL; rw [ht]; exact o.row, k⟩
end Go.Proofs.YtgolhjmbloiakaaGreat
