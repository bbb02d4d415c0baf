/- Contract of the specification's ReadWork: a work out of its text. -/
import Derived.Test.YtljamlgnobpjeaaGreatDoorCutS
import Derived.Test.YtljamlgnobpjeaaGreatDoorMC
import Derived.Test.YtljamlgnobpjeaaGreatDoorReadDS
import Derived.Test.YtljamlgnobpjeaaGreatDoorWorkOkS
import Derived.Test.YtljamlgnobpjeaaGreatDoorAppD
namespace Go.Proofs.YtljamlgnobpjeaaGreatDoor
open Go.ChangeShapes Go.WideShapes Go.ChangeAt Go.RowKit

theorem appW_emptyR (w w2 : World) (k : Keep (w.alloc (.cells #[] 36)) w2) : AppW w2 w.heap.size (.slice (some ⟨w.heap.size, 0, none⟩) 0 0) [] := by
  have h : AppW (w.alloc (.cells #[] 36)) w.heap.size (.slice (some ⟨w.heap.size, 0, none⟩) 0 0) [] := ⟨[], rfl, World.ownsRow_lit w #[] 0 (Nat.le_refl _) (by decide) rfl, by simp, by simp, by simp⟩
  exact h.keep k
theorem appD_emptyR (w : World) : AppD (w.alloc (.cells #[] 53)) w.heap.size (.slice (some ⟨w.heap.size, 0, none⟩) 0 0) [] :=
  World.ownsRow_lit w #[] 0 (Nat.le_refl _) (by decide) rfl
/-- A list of texts that is not empty: where it lies. -/
theorem OwnS.at {w : World} {base : Nat} {v : Value} {ts : List (List UInt8)} (h : OwnS w base v ts) (hne : ts ≠ []) :
    ∃ g c, v = .slice (some ⟨g, 0, none⟩) ts.length c ∧ base ≤ g ∧ g < w.heap.size ∧ ∀ i, i < ts.length → w.cell? ⟨g, i, none⟩ = some (strV (ts.getD i [])) := by
  have h2 := h
  have hlt := World.ownsRow.lt h
  rcases h.2 with ⟨_, hn⟩ | ⟨g, cap, cur, rfl, hb, hg, _⟩
  · exact absurd (List.eq_nil_of_length_eq_zero hn) hne
  · refine ⟨g, cap, rfl, hb, (hlt g rfl).2, fun i hi => ?_⟩
    rw [World.ownsRow.cellAt h2 i (by simpa using hi), List.getElem?_map, List.getElem?_eq_getElem hi, List.getD_eq_getElem?_getD, List.getElem?_eq_getElem hi]
    rfl
set_option maxRecDepth 100000 in
set_option maxHeartbeats 8000000 in
theorem specReadWork_any (s : List UInt8) (w : World) (hl : s.length ≤ 1048576) :
    Calls Tryz.prog 10 #[strV s] w fun e w' => ∃ v', e = .returned (.tuple #[v', .bool (readW s).isSome]) ∧ OwnW w' w.heap.size v' ((readW s).getD []) ∧ Keep w w' := by
  obtain ⟨i0, hi, hz0, hz1, hz2⟩ := info_parts Tryz.infoD
  obtain ⟨j0, hj, hy0, hy1, hy2⟩ := info_parts Tryz.infoDS
  have hne := cutL_ne [32, 124, 32] s
  have hcl := cutL_len [32, 124, 32] s (by simp)
  have hcp := fun t ht => cutL_part [32, 124, 32] s t ht
  have HW : Hid (readWo s = seqO readC (cutL [32, 124, 32] s)) := Lib.hid rfl
  have HST : Hid (∀ t, t ∈ cutL [32, 124, 32] s → readC t = none → readW s = none) := Lib.hid (fun t ht hn => readW_bad (readWo_stop ht hn))
  go_enter Tryz.func10, Tryz.ntmps10
  go_wp2_with fail
  refine (l5Cut_any [32, 124, 32] s _ (by simp) (by simp) hl).mono ?_
  rintro e w1 ⟨v1, rfl, o1, k1⟩
  have hsz1 := k1.size
  rw [heap_size, heap_size] at hsz1
  have K1 : Keep w w1 := (((Keep.refl w).alloc _).alloc _).trans k1
  have ap : AppW w1 w.heap.size (.slice (some ⟨w.heap.size + 1, 0, none⟩) 0 0) [] := by
    have := appW_emptyR (w.alloc (.cells #[] 36)) w1 k1
    rw [heap_size] at this
    obtain ⟨vs, q1, q2, q3⟩ := this
    refine ⟨vs, q1, ⟨q2.1, ?_⟩, by simp, by simp, by simp⟩
    rcases q2.2 with q | ⟨g, cap, cur, e, hb, r⟩
    · exact .inl q
    · exact .inr ⟨g, cap, cur, e, by omega, r⟩
  obtain ⟨g6, c6, rfl, hg6, hg6w, hcell⟩ := o1.at hne
  rw [heap_size, heap_size] at hg6
  obtain ⟨all, hall⟩ : ∃ all, all = cutL [32, 124, 32] s := ⟨_, rfl⟩
  rw [← hall] at hcl hcp HW HST hcell ⊢
  clear hall hne o1 k1
  go_wp2
  go_loopw [5, 7] (fun x i wr => ∃ (k : Nat) (D : List (List Dd)), k ≤ all.length ∧ i = .int .i64 k ∧ Hid (seqO readC (all.take k) = some D) ∧ AppW wr w.heap.size x D ∧ x.ownBlock ≠ some g6 ∧ wr.heap[g6]? = w1.heap[g6]? ∧ g6 < wr.heap.size ∧ Keep w wr) (fun _ i _ => all.length - (intOf i).toNat)
  case atStart => exact ⟨0, [], Nat.zero_le _, rfl, Lib.hid rfl, ap, by simp [Value.ownBlock]; omega, rfl, hg6w, K1⟩
  case round =>
    obtain ⟨k, D, hk, rfl, hS, ho, hnb, hG, hgw, hK⟩ := hrel
    clear ap K1
    have hDl : D.length ≤ k := by rw [seqO_len hS.out, List.length_take]; omega
    by_cases hlt : k < all.length
    · have d1 := (cell_same hG k).trans (hcell k hlt)
      have hmem := getD_mem [] hlt
      have hpl := hcp _ hmem
      have HST2 : Hid (readC (all.getD k []) = none → readW s = none) := Lib.hid (fun h => HST.out _ hmem h)
      have HMO : ∀ L, readC (all.getD k []) = some L → Hid (seqO readC (all.take (k + 1)) = some (D ++ [L])) := fun L h => Lib.hid (seqO_more [] hlt hS.out h)
      clear hcell hmem hcp HST hS
      obtain ⟨t, ht⟩ : ∃ t, t = all.getD k [] := ⟨_, rfl⟩
      rw [← ht] at d1 hpl HST2 HMO
      clear ht
      have i1 : (0 : Int) ≤ (k : Int) := Int.natCast_nonneg _
      have i2 : (k : Int) < (all.length : Int) := by omega
      have hsz2 := hK.size
      have ad0 := appD_emptyR wr
      by_cases hm : t = [45]
      · have HO : Hid (seqO readC (all.take (k + 1)) = some (D ++ [[]])) := HMO [] (by rw [readC, if_pos hm])
        have em : (t != [45]) = false := by simp [hm]
        have em2 : (t == [45]) = true := by simp [hm]
        clear HMO hm HST2
        have hQ : Keep wr (wr.alloc (.cells #[] 53)) := (Keep.refl wr).alloc _
        have hLown : OwnD (wr.alloc (.cells #[] 53)) wr.heap.size (.slice (some ⟨wr.heap.size, 0, none⟩) 0 0) [] := ad0.ownD
        obtain ⟨vs, hvs, hov, h3, h4, h5⟩ := ho
        have hov2 := World.ownsRow.kept hov (hQ.alloc (.cells #[.slice (some ⟨wr.heap.size, 0, none⟩) 0 0] 36)).grownBy (by cases u5.ownBlock <;> simp)
        go_wp2_with (at_builtin; refine wpList_append_own_at _ rfl _ _ 24 rfl w.heap.size 36 j0 (.slice none 0 0) 1 24 Tryz.underlying24 hj hy0 hy1 hy2 rfl (by decide) _ _ _ rfl hov2 ⟨_, 0, none⟩ 1 1 [.slice (some ⟨wr.heap.size, 0, none⟩) 0 0] rfl rfl ?d1 ?d2 ?d3 ?d4 ?d5 ?_)
        case d1 =>
          intro j u hj
          match j, hj with
          | 0, hj => simp at hj; subst hj; simp [Addr.add]
        case d2 => intro u hu; simp at hu; subst hu; rfl
        case d3 => unfold maxLen; first | omega | (simp; omega)
        case d4 => first | omega | (simp; omega)
        case d5 => first | omega | (simp; omega)
        have hsA := heap_size wr (.cells #[] 53)
        intro v' w5 hown' hgrow _ hblk
        have hP : AppW w5 w.heap.size v' (D ++ [[]]) := AppW.push hvs hov h3 h4 h5 (hQ.alloc _) (Nat.le_refl _) hsz2 (hLown.keep ((Keep.refl _).alloc _)) hown' hgrow (by rw [heap_size, heap_size]; exact hblk)
        have hK5 : Keep w w5 := ((hK.trans hQ).alloc _).grown hgrow (fun g hg => (World.ownsRow.lt hov g hg).1)
        have gb : w5.heap[g6]? = w1.heap[g6]? := ((hgrow.block g6 (by rw [heap_size]; omega) (fun e => hnb e.symm)).trans (by rw [heap_at, if_neg (by omega)]; exact Below.block hQ g6 hgw)).trans hG
        have hne5 : v'.ownBlock ≠ some g6 := by
          rcases hblk with e | e
          · rw [e]; exact hnb
          · rw [e]; simp only [ne_eq, Option.some.injEq]; omega
        have hg5 : g6 < w5.heap.size := Nat.lt_of_lt_of_le (by rw [heap_size]; omega) hgrow.size
        clear hgrow hown' hblk hov2 h3 h4 h5 hov
        go_wp2
        go_roundw
        case rel => exact ⟨k + 1, D ++ [[]], by omega, by go_num, HO, hP, hne5, gb, hg5, hK5⟩
        case measure => simp [intOf]; omega
      · have em : (t != [45]) = true := by simp [hm]
        have em2 : (t == [45]) = false := by simp [hm]
        have HC : Hid (readC t = seqO rdD (cutL [59, 32] t)) := Lib.hid (by rw [readC, if_neg hm])
        have hcl2 := cutL_len [59, 32] t (by simp)
        have hne2 := cutL_ne [59, 32] t
        have hcp2 := fun p hp => cutL_part [59, 32] t p hp
        have HS2 : Hid (∀ p, p ∈ cutL [59, 32] t → rdD p = none → readW s = none) := Lib.hid (fun p hp hn => HST2.out (readC_stop hm hp hn))
        clear hm HST2
        go_wp2_with fail
        refine (l5Cut_any [59, 32] t _ (by simp) (by simp) (by omega)).mono ?_
        rintro e w2 ⟨v2, rfl, o2, k2⟩
        obtain ⟨g9, c9, rfl, hg9, hg9w, hcell9⟩ := o2.at hne2
        rw [heap_size] at hg9
        have ad2 := ad0.keep k2
        have K2 : Keep wr w2 := ((Keep.refl wr).alloc _).trans k2
        obtain ⟨ps, hps⟩ : ∃ ps, ps = cutL [59, 32] t := ⟨_, rfl⟩
        rw [← hps] at hcl2 hcp2 HC HS2 hcell9 ⊢
        clear hps hne2 o2 k2 ad0 d1
        go_wp2
        obtain ⟨wo, hwo⟩ : ∃ wo : World, wo = wr := ⟨_, rfl⟩
        subst hwo
        go_loopw [8, 10] (fun x i wq => ∃ (q : Nat) (L : List Dd), q ≤ ps.length ∧ i = .int .i64 q ∧ Hid (seqO rdD (ps.take q) = some L) ∧ AppD wq wo.heap.size x L ∧ x.ownBlock ≠ some g9 ∧ wq.heap[g9]? = w2.heap[g9]? ∧ g9 < wq.heap.size ∧ Keep wo wq) (fun _ i _ => ps.length - (intOf i).toNat)
        case atStart => exact ⟨0, [], Nat.zero_le _, rfl, Lib.hid rfl, ad2, by simp [Value.ownBlock]; omega, rfl, hg9w, K2⟩
        case round =>
          obtain ⟨q, L, hq, rfl, hQS, hA, hnb9, hG9, hg9q, hQ⟩ := hrel
          clear ad2 K2
          have hLl : L.length ≤ q := by rw [seqO_len hQS.out, List.length_take]; omega
          by_cases hlq : q < ps.length
          · have e1 := (cell_same hG9 q).trans (hcell9 q hlq)
            have hmem := getD_mem [] hlq
            have hpl9 := hcp2 _ hmem
            have HS3 : Hid (rdD (ps.getD q []) = none → readW s = none) := Lib.hid (fun h => HS2.out _ hmem h)
            have HMQ : Hid (rdD (ps.getD q []) = some (rdZ (ps.getD q [])) → seqO rdD (ps.take (q + 1)) = some (L ++ [rdZ (ps.getD q [])])) := Lib.hid (fun h => seqO_more [] hlq hQS.out h)
            clear hcell9 hmem hcp2 HS2 hQS
            obtain ⟨p, hp⟩ : ∃ p, p = ps.getD q [] := ⟨_, rfl⟩
            rw [← hp] at e1 hpl9 HS3 HMQ
            clear hp
            have j1 : (0 : Int) ≤ (q : Int) := Int.natCast_nonneg _
            have j2 : (q : Int) < (ps.length : Int) := by omega
            have HRV := Lib.hid (readV_S p)
            obtain ⟨b, hb⟩ : ∃ b, (rdD p).isSome = b := ⟨_, rfl⟩
            have HB := rdD_some hb
            rw [hb] at HRV
            clear hb
            obtain ⟨d, hd⟩ : ∃ d, d = rdZ p := ⟨_, rfl⟩
            rw [← hd] at HRV HMQ HB
            clear hd
            obtain ⟨x0, x1, x2, x3⟩ := d
            have hsz := hQ.size
            go_wp2_with fail
            refine (specReadDeed_any p _ (by omega)).mono ?_
            rw [HRV.out]
            rintro e w4 ⟨rfl, k4⟩
            cases b
            · have HE : Hid (readW s = none) := Lib.hid (HS3.out (by simpa using HB))
              clear HB HMQ HS3
              go_wp2
              go_ret2
              refine ⟨_, by rw [HE.out]; rfl, by rw [HE.out]; exact ⟨_, _, rfl, .inl rfl⟩, ((hK.trans hQ).trans k4).alloc _⟩
            · have HM2 : Hid (seqO rdD (ps.take (q + 1)) = some (L ++ [(x0, x1, x2, x3)])) := Lib.hid (HMQ.out (by simpa using HB))
              clear HB HMQ HS3
              have hA4 := hA.keep k4
              have hge := hA.ge
              have hsz4 := k4.size
              have hlt5 := fun k hk => (World.ownsRow.lt hA k hk).2
              obtain ⟨a5, c5, rfl⟩ := hA.shape
              clear e1
              go_wp2_with (at_builtin; refine wpList_append_own_at _ rfl _ _ 36 rfl wo.heap.size 53 i0 (.agg #[.int .i64 0, .int .i64 0, .int .i64 0, .int .i64 0]) 4 32 Tryz.underlying36 hi hz0 hz1 hz2 rfl (by decide) _ _ _ rfl (hA4.keep (((Keep.refl w4).alloc _).alloc _)) ⟨_, 0, none⟩ 1 1 (cD (x0, x1, x2, x3)) rfl rfl ?c1 ?c2 ?c3 ?c4 ?c5 ?_)
              case c1 =>
                intro j u hj
                match j, hj with
                | 0, hj => simp [cD] at hj; subst hj; simp [Addr.add]
                | 1, hj => simp [cD] at hj; subst hj; simp [Addr.add]
                | 2, hj => simp [cD] at hj; subst hj; simp [Addr.add]
                | 3, hj => simp [cD] at hj; subst hj; simp [Addr.add]
                | n + 4, hj => simp [cD] at hj
              case c2 => intro u hu; simp [cD] at hu; rcases hu with rfl | rfl | rfl | rfl <;> rfl
              case c3 => unfold maxLen; first | (simp; done) | omega | (simp; omega)
              case c4 => first | (simp; done) | omega | (simp; omega)
              case c5 => first | (simp; done) | omega | (simp; omega)
              intro v' w5 hown' hgrow _ hblk
              have hA5 : AppD w5 wo.heap.size v' (L ++ [(x0, x1, x2, x3)]) := appD_hit hown'
              have hQ5 : Keep wo w5 := (((hQ.trans k4).alloc _).alloc _).grown hgrow hge
              have gb : w5.heap[g9]? = w2.heap[g9]? := ((hgrow.block g9 (by rw [heap_size, heap_size]; omega) (fun e => hnb9 e.symm)).trans (by rw [heap_at, if_neg (by rw [heap_size]; omega), heap_at, if_neg (by omega)]; exact Below.block k4 g9 hg9q)).trans hG9
              have hne5 : v'.ownBlock ≠ some g9 := by
                rcases hblk with e | e
                · rw [e]; exact hnb9
                · rw [e]; simp only [ne_eq, Option.some.injEq]; omega
              have hg5 : g9 < w5.heap.size := Nat.lt_of_lt_of_le (by rw [heap_size, heap_size]; omega) hgrow.size
              clear hgrow hown' hblk hA4 hlt5 hA
              go_wp2
              go_roundw
              case rel => exact ⟨q + 1, L ++ [(x0, x1, x2, x3)], by omega, by go_num, HM2, hA5, hne5, gb, hg5, hQ5⟩
              case measure => simp [intOf]; omega
          · obtain rfl : q = ps.length := by omega
            rw [List.take_length] at hQS
            have HO := HMO L (by rw [HC.out, hQS.out])
            clear HMO hQS HC
            have hLown : OwnD wr wo.heap.size u8 L := hA.ownD
            have hsz := hQ.size
            obtain ⟨a5, c5, rfl⟩ := hA.shape
            clear hA
            obtain ⟨vs, hvs, hov, h3, h4, h5⟩ := ho
            have hov2 := World.ownsRow.kept hov (hQ.alloc (.cells #[.slice a5 L.length c5] 36)).grownBy (by cases u5.ownBlock <;> simp)
            go_wp2_with (at_builtin; refine wpList_append_own_at _ rfl _ _ 24 rfl w.heap.size 36 j0 (.slice none 0 0) 1 24 Tryz.underlying24 hj hy0 hy1 hy2 rfl (by decide) _ _ _ rfl hov2 ⟨_, 0, none⟩ 1 1 [.slice a5 L.length c5] rfl rfl ?b1 ?b2 ?b3 ?b4 ?b5 ?_)
            case b1 =>
              intro j u hj
              match j, hj with
              | 0, hj => simp at hj; subst hj; simp [Addr.add]
            case b2 => intro u hu; simp at hu; subst hu; rfl
            case b3 => unfold maxLen; first | omega | (simp; omega)
            case b4 => first | omega | (simp; omega)
            case b5 => first | omega | (simp; omega)
            intro v' w5 hown' hgrow _ hblk
            have hP : AppW w5 w.heap.size v' (D ++ [L]) := AppW.push hvs hov h3 h4 h5 (hQ.alloc _) (Nat.le_refl _) hsz2 (hLown.keep ((Keep.refl _).alloc _)) hown' hgrow (by rw [heap_size]; exact hblk)
            have hK5 : Keep w w5 := ((hK.trans hQ).alloc _).grown hgrow (fun g hg => (World.ownsRow.lt hov g hg).1)
            have gb : w5.heap[g6]? = w1.heap[g6]? := ((hgrow.block g6 (by rw [heap_size]; omega) (fun e => hnb e.symm)).trans (by rw [heap_at, if_neg (by omega)]; exact Below.block hQ g6 hgw)).trans hG
            have hne5 : v'.ownBlock ≠ some g6 := by
              rcases hblk with e | e
              · rw [e]; exact hnb
              · rw [e]; simp only [ne_eq, Option.some.injEq]; omega
            have hg5 : g6 < w5.heap.size := Nat.lt_of_lt_of_le (by rw [heap_size]; omega) hgrow.size
            clear hgrow hown' hblk hov2 h3 h4 h5 hov
            go_wp2
            go_roundw
            case rel => exact ⟨k + 1, D ++ [L], by omega, by go_num, HO, hP, hne5, gb, hg5, hK5⟩
            case measure => simp [intOf]; omega
    · obtain rfl : k = all.length := by omega
      rw [List.take_length] at hS
      have HR : Hid (readW s = if workB D = true then some D else none) := Lib.hid (by rw [readW, HW.out, hS.out])
      have wm : ∀ i, i < D.length → (D.getD i []).length ≤ 1048576 := by
        intro i hi
        have hi' : i < all.length := by rw [seqO_len hS.out] at hi; exact hi
        have h1 := readC_len (seqO_getD [] [] hS.out i hi')
        have h2 := hcp _ (getD_mem [] hi')
        omega
      have wl : D.length ≤ 1048576 := by rw [seqO_len hS.out]; omega
      clear hcell hcp HW HST hS
      cases hw : workB D
      · have HE : Hid (readW s = none) := Lib.hid (by rw [HR.out, hw]; rfl)
        clear HR
        go_wp2_with fail
        refine (specWorkOk_any _ _ _ ho.ownW.rd wl wm).mono ?_
        rintro e wz ⟨rfl, kk⟩
        go_wp2
        go_ret2
        exact ⟨_, by rw [HE.out]; rfl, by rw [HE.out]; exact ⟨_, _, rfl, .inl rfl⟩, hK.trans kk⟩
      · have HE : Hid (readW s = some D) := Lib.hid (by rw [HR.out, if_pos hw])
        clear HR
        go_wp2_with fail
        refine (specWorkOk_any _ _ _ ho.ownW.rd wl wm).mono ?_
        rintro e wz ⟨rfl, kk⟩
        have hov := (ho.keep kk).ownW
        go_wp2
        go_ret2
        exact ⟨_, by rw [HE.out]; rfl, by rw [HE.out]; exact hov, hK.trans kk⟩
end Go.Proofs.YtljamlgnobpjeaaGreatDoor
