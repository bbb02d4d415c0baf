/- Contract of the draw of any work: some list of at most six lists of at most seven deeds; nothing but the cursor's own block and new memory is written. -/
import Derived.Test.YtkbkdlaknmgjpaaGreatWorkDrawC
namespace Go.Proofs.YtkbkdlaknmgjpaaGreat
open Go.ChangeShapes Go.WideShapes Go.ChangeAt Go.RowKit

theorem flat_one (xs : List Dd) : ∀ u, u ∈ xs.flatMap cD → u.oneCell' = true := by
  intro u hu
  obtain ⟨d, _, hd⟩ := List.mem_flatMap.1 hu
  simp [cD] at hd
  rcases hd with rfl | rfl | rfl | rfl <;> rfl
theorem Dr.drew {w wr : World} {B c : Nat} (h : Dr w wr B c) : Dr w wr.drew B c :=
  ⟨h.1.keep (Keep.refl wr).drew, grown_trans h.2 ⟨rfl, rfl, rfl, Nat.le_refl _, fun _ _ _ => rfl⟩⟩
theorem new_cells (w : World) (d : Dd) : ∀ j u, (cD d)[j]? = some u → (w.alloc (.cells #[.int .i64 d.1, .int .i64 d.2.1, .int .i64 d.2.2.1, .int .i64 d.2.2.2] 96)).cell? ((⟨w.heap.size, 0, none⟩ : Addr).add j) = some u := by
  intro j u hj
  rw [plain_add, new_cell _ _ _ _ j rfl]
  rw [← List.getElem?_toArray] at hj
  exact hj
theorem set0_small {dss : List (List Dd)} {es : List Dd} (h1 : 0 < dss.length) (h3 : dss.length ≤ 3) (h4 : ∀ i, i < dss.length → (dss.getD i []).length ≤ 4) (he : es.length ≤ 7) : (dss.set 0 es).length ≤ 6 ∧ ∀ i, i < (dss.set 0 es).length → ((dss.set 0 es).getD i []).length ≤ 7 := by
  refine ⟨by rw [List.length_set]; omega, fun i hi => ?_⟩
  rw [List.length_set] at hi
  rw [getD_setW dss 0 i es [] h1]
  split
  · exact he
  · have := h4 i hi; omega
theorem twice_small {dss : List (List Dd)} (h3 : dss.length ≤ 3) (h4 : ∀ i, i < dss.length → (dss.getD i []).length ≤ 4) : (dss ++ dss).length ≤ 6 ∧ ∀ i, i < (dss ++ dss).length → ((dss ++ dss).getD i []).length ≤ 7 := by
  refine ⟨by rw [List.length_append]; omega, fun i hi => ?_⟩
  rw [List.length_append] at hi
  by_cases e : i < dss.length
  · rw [getD_left dss dss i [] e]; have := h4 i e; omega
  · have : (dss ++ dss).getD i [] = dss.getD (i - dss.length) [] := by
      rw [List.getD_eq_getElem?_getD, List.getElem?_append_right (by omega), List.getD_eq_getElem?_getD]
    rw [this]
    have := h4 (i - dss.length) (by omega)
    omega
set_option maxRecDepth 100000 in
set_option maxHeartbeats 8000000 in
theorem l5DrawAny_any (w : World) (B c : Nat) (hc : Cur w B c) :
    Calls Tryz.prog 146 #[.pointer (some ⟨c, 0, none⟩)] w fun e w' => ∃ v dss, e = .returned v ∧ RdX w' w.heap.size v dss ∧ (dss.length ≤ 6 ∧ ∀ i, i < dss.length → (dss.getD i []).length ≤ 7) ∧ Dr w w' B c := by
  have hcl := hc.lt
  have hB := hc.1
  obtain ⟨i0, hi, hz0, hz1, hz2⟩ := info_parts Tryz.infoD
  obtain ⟨j0, hj, hy0, hy1, hy2⟩ := info_parts Tryz.infoDS
  go_enter Tryz.func146, Tryz.ntmps146
  go_wp2_with fail
  refine (l5Draw_any _ B c hc).mono ?_
  rintro e w1 ⟨v1, V1, dss1, rfl, hX1, n1, n3, l4, D1⟩
  go_wp2_with fail
  refine (once_any _ B c _ D1.1 (by omega)).mono ?_
  rintro e w2 ⟨b, rfl, c2, g2⟩
  have hX2 := (hX1.kept g2 hcl).up g2.size
  have D2 := D1.step c2 g2
  clear hX1 D1 c2 g2
  go_upto_if 7 with fail
  go_cut [3] from 4 (fun s3 wx => ∃ V dss, AppX wx w.heap.size wx.heap.size s3 V dss ∧ 1 ≤ dss.length ∧ dss.length ≤ 3 ∧ Hid (∀ i, i < dss.length → (dss.getD i []).length ≤ 4) ∧ Dr w wx B c)
  case first =>
    cases b
    · go_wp2
      go_meet
      case rel => exact ⟨_, _, hX2, n1, n3, Lib.hid l4, D2⟩
    · go_wp2_with fail
      refine (l5DrawKnown_any _ B c D2.1).mono ?_
      rintro e w3 ⟨v3, V3, dss3, rfl, hX3, m1, m3, k4, D3⟩
      go_wp2
      go_meet
      case rel => exact ⟨_, _, hX3.low D2.2.size, m1, m3, Lib.hid k4, D2.trans D3⟩
  case rest =>
    clear hX2 D2 n1 n3 l4
    obtain ⟨V, dss, hX, n1, n3, l4, D2⟩ := hcut
    go_wp2_with fail
    refine (once_any _ B c _ D2.1 (by omega)).mono ?_
    rintro e w4 ⟨b2, rfl, c4, g4⟩
    have hX4 := (hX.kept g4 hcl).up g4.size
    have D4 := D2.step c4 g4
    clear hX D2 c4 g4
    have HN : Hid (dss.length ≤ 6 ∧ ∀ i, i < dss.length → (dss.getD i []).length ≤ 7) := Lib.hid ⟨by omega, fun i hi => by have := l4.out i hi; omega⟩
    cases b2
    · have HR := Lib.hid hX4.rdX
      go_wp2
      go_ret
      exact ⟨_, dss, rfl, HR.out, HN.out, D4⟩
    · go_wp2_with fail
      refine (below_any _ B c _ D4.1 (by omega)).mono ?_
      rintro e w5 ⟨x, rfl, x0, x1, c5, g5⟩
      have hX5 := (hX4.kept g5 hcl).up g5.size
      have D5 := D4.step c5 g5
      clear hX4 D4 c5 g5 HN
      have hx : x = 0 ∨ x = 1 ∨ x = 2 ∨ x = 3 := by omega
      clear x0 x1
      obtain ⟨g, cx, rfl, hgb, hgN, hgw, hcx, hcell, hfree⟩ := hX5.at (by omega)
      have d0 := hcell 0 (by omega)
      have f0 := hfree 0
      have hA0 := hX5.each 0 (by omega)
      have hl0 := l4.out 0 (by omega)
      have hout0 : ∀ k, (V 0).ownBlock = some k → w.heap.size ≤ k ∧ k < w5.heap.size := hA0.lt
      have i1 : (0 : Int) < (dss.length : Int) := by omega
      have h01 : 0 < dss.length := by omega
      rcases hx with rfl | rfl | rfl | rfl
      · obtain ⟨a5, c5, hV0⟩ := hA0.shape
        have HV := Lib.hid hV0
        rw [hV0] at d0 hA0 hout0
        clear hV0
        obtain ⟨L, hL⟩ : ∃ L, L = dss.getD 0 [] := ⟨_, rfl⟩
        rw [← hL] at d0 hA0 hl0 hout0 HV
        clear hL hcell hfree
        have hsz5 := D5.2.size
        have D5' := D5.drew
        have hX5' := hX5.keep (Keep.refl w5).drew
        have hA5' := hA0.keep (Keep.refl w5).drew
        have gne : (Value.slice a5 L.length c5).ownBlock ≠ some g := fun e => hX5.out 0 (by omega) g (by rw [HV.out]; exact e) rfl
        have cg : g ≠ c := by omega
        go_wp2
        go_region_law ((first
          | (refine step_append_at rfl (.tmp 19) (.tmp 22) 80 rfl w.heap.size 96 i0 (.agg #[.int .i64 0, .int .i64 0, .int .i64 0, .int .i64 0]) 4 32 Tryz.underlying80 hi hz0 hz1 hz2 rfl (by decide) (.slice a5 L.length c5) L.length (L.flatMap cD) (by simp [Act.eval]) (hA6.keep ((Keep.refl w6).alloc (.cells #[.int .i64 kq, .int .i64 pq, .int .i64 vq, .int .i64 gq] 96))) ⟨w6.heap.size, 0, none⟩ 1 1 (cD (kq, pq, vq, gq)) (by simp [Act.eval]) rfl (new_cells w6 (kq, pq, vq, gq)) (flat_one [(kq, pq, vq, gq)]) (by unfold maxLen; omega) (by omega) (by rw [heap_size]; omega) ?_
             intro v' w7 hown' hgrow hblk
             have hA7 : AppD w7 w.heap.size v' (L ++ [(kq, pq, vq, gq)]) := appD_hit hown'
             have hgV : (V 0).ownBlock = (Value.slice a5 L.length c5).ownBlock := by rw [HV.out]
             have HR := Lib.hid ((hX6.keep ((Keep.refl w6).alloc (.cells #[.int .i64 kq, .int .i64 pq, .int .i64 vq, .int .i64 gq] 96))).first (by omega) rfl hA7 (by rw [hgV]; exact hgrow) (by rw [hgV]; exact hblk))
             have HS := Lib.hid (set0_small (es := L ++ [(kq, pq, vq, gq)]) (by omega) n3 l4.out (by simp; omega))
             have D7 := ((D6.alloc (.cells #[.int .i64 kq, .int .i64 pq, .int .i64 vq, .int .i64 gq] 96)).grow hgrow (fun k hk => (hout0 k hk).1) hcl hB).set hgb hcl hB 0 v'
             have hb7 : w7.heap[g]? = w6.heap[g]? := (hgrow.block g (by rw [heap_size]; omega) (fun e => gne e.symm)).trans (by rw [heap_at, if_neg (by omega)])
             have d7 := (cell_same hb7 0).trans d6
             have f7 : w7.frozen? ⟨g, 0, none⟩ = false := by rw [frozen_same hb7 0]; exact f6
             have hg7 : g < w7.heap.size := Nat.lt_of_lt_of_le (by rw [heap_size]; omega) hgrow.size
             obtain ⟨a7, c7, hv7⟩ := hA7.shape
             generalize (L ++ [(kq, pq, vq, gq)]).length = n7 at hv7
             subst hv7
             clear hgrow hown' hblk hA7 hb7 d6 f6 hg6)
          | (go_simp
             refine (l4DrawAny_any _ B c D5'.1).mono ?_
             rintro e w6 ⟨kq, pq, vq, gq, rfl, D6'⟩
             have D6 := D5'.trans D6'
             have hX6 := hX5'.kept D6'.2 hcl
             have hA6 := hA5'.kept D6'.2 (ne_of_ge hA5'.ge hcl)
             have hb6 : w6.heap[g]? = w5.heap[g]? := D6'.2.block g hgw (by simp; omega)
             have d6 := (cell_same hb6 0).trans d0
             have f6 : w6.frozen? ⟨g, 0, none⟩ = false := by rw [frozen_same hb6 0]; exact f0
             have hg6 : g < w6.heap.size := Nat.lt_of_lt_of_le hgw D6'.2.size
             have hs6 := D6.2.size
             clear D6' hb6)))
        all_goals
          go_wp2
          go_ret
          exact ⟨_, _, rfl, HR.out, HS.out, D7⟩
      · have hN : Hid ((dss ++ dss).length ≤ 6 ∧ ∀ i, i < (dss ++ dss).length → ((dss ++ dss).getD i []).length ≤ 7) := Lib.hid (twice_small n3 l4.out)
        have hsz5 := D5.2.size
        go_wp2_with (at_builtin; refine wpList_append_own_at _ rfl _ _ 24 rfl w.heap.size 80 j0 (.slice none 0 0) 1 24 Tryz.underlying24 hj hy0 hy1 hy2 rfl (by decide) _ _ _ rfl hX5.row ⟨g, 0, none⟩ dss.length cx ((List.range dss.length).map V) rfl ?b1 ?b2 ?b3 ?b4 ?b5 ?b6 ?_)
        case b1 => simp
        case b2 =>
          intro j u hj
          have hj' : j < dss.length := by have := (List.getElem?_eq_some_iff.1 hj).1; simpa using this
          rw [range_getV V _ j hj'] at hj
          rw [plain_add, Nat.zero_add, hcell j hj']
          exact hj
        case b3 =>
          intro u hu
          obtain ⟨i, hi, rfl⟩ := List.mem_map.1 hu
          rw [List.mem_range] at hi
          obtain ⟨a, cc, e⟩ := (hX5.each i hi).shape
          rw [e]; rfl
        case b4 => unfold maxLen; omega
        case b5 => omega
        case b6 => exact hsz5
        intro v' w6 hown' hgrow _ _
        have HR := Lib.hid (hX5.twice (by omega) hown' hgrow)
        have D6 := D5.grow hgrow (fun k hk => (World.ownsRow.lt hX5.row k hk).1) hcl hB
        clear hgrow hown' hX5
        go_wp2
        go_ret
        exact ⟨_, _, rfl, HR.out, hN.out, D6⟩
      · go_wp2
        go_ret
        exact ⟨_, [], rfl, ⟨_, _, rfl, .inl rfl⟩, ⟨by simp, by simp⟩, D5.alloc _⟩
      · obtain ⟨a5, c5, hV0⟩ := hA0.shape
        have HV := Lib.hid hV0
        rw [hV0] at d0 hA0 hout0
        clear hV0
        obtain ⟨L, hL⟩ : ∃ L, L = dss.getD 0 [] := ⟨_, rfl⟩
        rw [← hL] at d0 hA0 hl0 hout0 HV
        clear hL hcell hfree
        have hsz5 := D5.2.size
        have hA1 := hA0.keep ((Keep.refl w5).alloc (.cells #[.int .i64 1, .int .i64 0, .int .i64 0, .int .i64 1, .int .i64 4, .int .i64 0, .int .i64 0, .int .i64 0, .int .i64 1, .int .i64 0, .int .i64 0, .int .i64 1] 96))
        have hX6 := hX5.keep ((Keep.refl w5).alloc (.cells #[.int .i64 1, .int .i64 0, .int .i64 0, .int .i64 1, .int .i64 4, .int .i64 0, .int .i64 0, .int .i64 0, .int .i64 1, .int .i64 0, .int .i64 0, .int .i64 1] 96))
        go_wp2_with (at_builtin; refine wpList_append_own_at _ rfl _ _ 80 rfl w.heap.size 96 i0 (.agg #[.int .i64 0, .int .i64 0, .int .i64 0, .int .i64 0]) 4 32 Tryz.underlying80 hi hz0 hz1 hz2 rfl (by decide) _ _ _ rfl hA1 ⟨_, 0, none⟩ 3 3 (([(1, 0, 0, 1), (4, 0, 0, 0), (1, 0, 0, 1)] : List Dd).flatMap cD) rfl rfl ?d1 ?d2 ?d3 ?d4 ?d5 ?_)
        case d1 =>
          intro j u hj
          rw [plain_add, new_cell _ _ _ _ j rfl]
          rw [← List.getElem?_toArray] at hj
          exact hj
        case d2 => exact flat_one _
        case d3 => unfold maxLen; first | omega | (simp; omega)
        case d4 => first | omega | (simp; omega)
        case d5 => first | omega | (simp; omega)
        intro v' w6 hown' hgrow _ hblk
        have hA6 : AppD w6 w.heap.size v' (L ++ [(1, 0, 0, 1), (4, 0, 0, 0), (1, 0, 0, 1)]) := by
          unfold AppD; rw [List.flatMap_append]; simpa using hown'
        have hgV : (V 0).ownBlock = (Value.slice a5 L.length c5).ownBlock := by rw [HV.out]
        have HR := Lib.hid (hX6.first (by omega) rfl hA6 (by rw [hgV]; exact hgrow) (by rw [hgV, heap_size]; exact hblk))
        have HS := Lib.hid (set0_small (es := L ++ [(1, 0, 0, 1), (4, 0, 0, 0), (1, 0, 0, 1)]) (by omega) n3 l4.out (by simp; omega))
        have D6 := (D5.alloc (.cells #[.int .i64 1, .int .i64 0, .int .i64 0, .int .i64 1, .int .i64 4, .int .i64 0, .int .i64 0, .int .i64 0, .int .i64 1, .int .i64 0, .int .i64 0, .int .i64 1] 96)).grow hgrow (fun k hk => (hout0 k hk).1) hcl hB
        have D7 := D6.set hgb hcl hB 0 v'
        have gne : (Value.slice a5 L.length c5).ownBlock ≠ some g := fun e => hX6.out 0 (by omega) g (by rw [hgV]; exact e) rfl
        have hb6 : w6.heap[g]? = w5.heap[g]? := (hgrow.block g (by rw [heap_size]; omega) (fun e => gne e.symm)).trans (by rw [heap_at, if_neg (by omega)])
        have d6 := (cell_same hb6 0).trans d0
        have f6 : w6.frozen? ⟨g, 0, none⟩ = false := by rw [← f0]; exact frozen_same hb6 0
        have hg6 : g < w6.heap.size := Nat.lt_of_lt_of_le (by rw [heap_size]; omega) hgrow.size
        obtain ⟨a7, c7, hv7⟩ := hA6.shape
        generalize (L ++ [(1, 0, 0, 1), (4, 0, 0, 0), (1, 0, 0, 1)]).length = n7 at hv7
        subst hv7
        clear hgrow hown' hblk hX5 hX6 hA1 hA0 hA6 D6
        go_wp2
        go_ret
        exact ⟨_, _, rfl, HR.out, HS.out, D7⟩
end Go.Proofs.YtkbkdlaknmgjpaaGreat
