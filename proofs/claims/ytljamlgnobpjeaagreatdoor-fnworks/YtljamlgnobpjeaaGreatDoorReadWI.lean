/- Contracts of the program's readDeeds and ReadWork: a work out of its text. -/
import Derived.Test.YtljamlgnobpjeaaGreatDoorMC
import Derived.Test.YtljamlgnobpjeaaGreatDoorReadDI
import Derived.Test.YtljamlgnobpjeaaGreatDoorWorkOkI
import Derived.Test.YtljamlgnobpjeaaGreatDoorAppD
import Derived.Test.YtljamlgnobpjeaaGreatDoorShelf
namespace Go.Proofs.YtljamlgnobpjeaaGreatDoor
open Go.ChangeShapes Go.WideShapes Go.ChangeAt Go.RowKit

theorem appW_emptyRI (w w2 : World) (k : Keep (w.alloc (.cells #[] 36)) w2) : AppW w2 w.heap.size (.slice (some ⟨w.heap.size, 0, none⟩) 0 0) [] := by
  have h : AppW (w.alloc (.cells #[] 36)) w.heap.size (.slice (some ⟨w.heap.size, 0, none⟩) 0 0) [] := ⟨[], rfl, World.ownsRow_lit w #[] 0 (Nat.le_refl _) (by decide) rfl, by simp, by simp, by simp⟩
  exact h.keep k
theorem appD_emptyRI (w : World) : AppD (w.alloc (.cells #[] 53)) w.heap.size (.slice (some ⟨w.heap.size, 0, none⟩) 0 0) [] :=
  World.ownsRow_lit w #[] 0 (Nat.le_refl _) (by decide) rfl
theorem splitN_same (s b : List UInt8) (n : Nat) : (Lib.splitB ⟨b.toArray⟩ 0 (min n ((⟨s.toArray⟩ : ByteArray).size + 1) - 1) ⟨s.toArray⟩).map (fun x : ByteArray => x.data.toList) = Lib.splitN s b n := by
  rw [Lib.splitB_data]
  rfl
/-- Texts that lie in a block. -/
def AtS (w : World) (g : Nat) (ts : List (List UInt8)) : Prop := ∀ i, i < ts.length → w.cell? ⟨g, i, none⟩ = some (strV (ts.getD i []))
theorem split_any (s b : List UInt8) (n : Nat) (w : World) (hl : s.length ≤ 1048576) (hb : 1 ≤ b.length) (hn : 1 ≤ n) (hn6 : n ≤ 100) (hm : ∃ m, w.cell? ⟨0, 0, none⟩ = some (.int .i64 m)) :
    Calls Tryz.prog 25 #[strV s, strV b, .int .i64 n] w fun e w' => ∃ c, e = .returned (.slice (some ⟨w.heap.size, 0, none⟩) (Lib.splitN s b n).length c) ∧ AtS w' w.heap.size (Lib.splitN s b n) ∧ w.heap.size < w'.heap.size ∧ Keep w w' := by
  obtain ⟨m, hm⟩ := hm
  have hsz : (⟨s.toArray⟩ : ByteArray).size = s.length := by simp [ByteArray.size]
  have hbz : (⟨b.toArray⟩ : ByteArray).size = b.length := by simp [ByteArray.size]
  have hs := splitN_same s b n
  refine (Tryz.strings_SplitN ⟨s.toArray⟩ ⟨b.toArray⟩ n m w (by omega) hm (by omega) hn (by omega)).mono ?_
  rintro e w' ⟨rfl, rfl⟩
  generalize Lib.splitB ⟨b.toArray⟩ 0 (min n ((⟨s.toArray⟩ : ByteArray).size + 1) - 1) ⟨s.toArray⟩ = xs at hs
  rw [← hs]
  refine ⟨_, by rw [List.length_map], fun i hi => ?_, by rw [heap_size]; omega, (Keep.refl w).alloc _⟩
  rw [List.length_map] at hi
  rw [cell_of_row _ w.heap.size i _ _ (0, 0) (heap_alloc_new w _)]
  unfold Lib.cellsOf
  rw [List.getElem?_toArray, List.getElem?_append_left (by simpa using hi), List.getElem?_map, List.getElem?_eq_getElem hi, List.getD_eq_getElem?_getD, List.getElem?_map, List.getElem?_eq_getElem hi]
  rfl
theorem splitN_part (s b p : List UInt8) (n : Nat) (h : p ∈ Lib.splitN s b n) : p.length ≤ s.length := splitK_le b _ s p h
theorem map_moreZ (ps : List (List UInt8)) (q : Nat) (h : q < ps.length) : (ps.take (q + 1)).map rdZ = (ps.take q).map rdZ ++ [rdZ (ps.getD q [])] := by
  rw [take_moreL ps q [] h, List.map_append]; rfl
theorem map_moreP (ps : List (List UInt8)) (q : Nat) (h : q < ps.length) : (ps.take (q + 1)).map readP = (ps.take q).map readP ++ [readP (ps.getD q [])] := by
  rw [take_moreL ps q [] h, List.map_append]; rfl
set_option maxRecDepth 100000 in
set_option maxHeartbeats 8000000 in
theorem readDeeds_any (s : List UInt8) (w : World) (hl : s.length ≤ 1048576) (hw : LibW w) :
    Calls Tryz.prog 26 #[strV s] w fun e w' => ∃ v', e = .returned v' ∧ AppD w' w.heap.size v' (readP s) ∧ Keep w w' := by
  obtain ⟨i0, hi, hz0, hz1, hz2⟩ := info_parts Tryz.infoD
  have ad0 := appD_emptyRI w
  by_cases hm : s = [45]
  · have em2 : (s == [45]) = true := by simp [hm]
    have HE : Hid (readP s = []) := Lib.hid (by rw [readP, if_pos hm])
    clear hm
    go_enter Tryz.func26, Tryz.ntmps26
    go_wp2
    go_ret
    exact ⟨_, rfl, by rw [HE.out]; exact ad0, (Keep.refl w).alloc _⟩
  · have em2 : (s == [45]) = false := by simp [hm]
    have HE : Hid (readP s = (Lib.splitN s [59, 32] 6).map rdZ) := Lib.hid (by rw [readP, if_neg hm])
    have hn6 := (splitN_cut (b := [59, 32]) (by simp) (n := 6) (by omega) s).1
    have hcp := fun p hp => splitN_part s [59, 32] p 6 hp
    clear hm
    go_enter Tryz.func26, Tryz.ntmps26
    go_wp2_with fail
    refine (split_any s [59, 32] 6 _ hl (by simp) (by omega) (by omega) (hw.keep ((Keep.refl w).alloc _)).1).mono ?_
    rintro e w2 ⟨c9, rfl, hcell9, hg9w, k2⟩
    rw [heap_size] at hcell9 hg9w ⊢
    obtain ⟨g9, hg9⟩ : ∃ g9, g9 = w.heap.size + 1 := ⟨_, rfl⟩
    rw [← hg9] at hcell9 hg9w ⊢
    have hg9a : w.heap.size < g9 := by omega
    clear hg9
    have ad2 := ad0.keep k2
    have K2 : Keep w w2 := ((Keep.refl w).alloc _).trans k2
    obtain ⟨ps, hps⟩ : ∃ ps, ps = Lib.splitN s [59, 32] 6 := ⟨_, rfl⟩
    rw [← hps] at hn6 hcp HE hcell9 ⊢
    clear hps k2 ad0
    go_wp2
    go_loopw [3, 15] (fun x i wq => ∃ (q : Nat), q ≤ ps.length ∧ i = .int .i64 q ∧ AppD wq w.heap.size x ((ps.take q).map rdZ) ∧ x.ownBlock ≠ some g9 ∧ wq.heap[g9]? = w2.heap[g9]? ∧ g9 < wq.heap.size ∧ Keep w wq) (fun _ i _ => ps.length - (intOf i).toNat)
    case atStart => exact ⟨0, Nat.zero_le _, rfl, ad2, by simp [Value.ownBlock]; omega, rfl, hg9w, K2⟩
    case round =>
      obtain ⟨q, hq, rfl, hA, hnb9, hG9, hg9q, hQ⟩ := hrel
      clear ad2 K2
      by_cases hlq : q < ps.length
      · have e1 := (cell_same hG9 q).trans (hcell9 q hlq)
        have hmem := getD_mem [] hlq
        have hpl9 := hcp _ hmem
        have HM2 := Lib.hid (map_moreZ ps q hlq)
        have hLl : ((ps.take q).map rdZ).length ≤ 6 := by simp; omega
        clear hcell9 hmem hcp
        obtain ⟨p, hp⟩ : ∃ p, p = ps.getD q [] := ⟨_, rfl⟩
        rw [← hp] at e1 hpl9 HM2
        clear hp
        generalize (ps.take q).map rdZ = L at hA HM2 hLl
        have j1 : (0 : Int) ≤ (q : Int) := Int.natCast_nonneg _
        have j2 : (q : Int) < (ps.length : Int) := by omega
        have HRV := Lib.hid (readV_I p)
        generalize (rdD p).isSome = b at HRV
        obtain ⟨d, hd⟩ : ∃ d, d = rdZ p := ⟨_, rfl⟩
        rw [← hd] at HRV HM2
        clear hd
        obtain ⟨x0, x1, x2, x3⟩ := d
        have hsz := hQ.size
        go_wp2_with fail
        refine (implReadDeed_any p _ (by omega) (hw.keep hQ)).mono ?_
        rw [HRV.out]
        rintro e w4 ⟨rfl, k4⟩
        have hA4 := hA.keep k4
        have hge := hA.ge
        have hsz4 := k4.size
        obtain ⟨a5, c5, rfl⟩ := hA.shape
        clear e1
        go_wp2_with (at_builtin; refine wpList_append_own_at _ rfl _ _ 36 rfl w.heap.size 53 i0 (.agg #[.int .i64 0, .int .i64 0, .int .i64 0, .int .i64 0]) 4 32 Tryz.underlying36 hi hz0 hz1 hz2 rfl (by decide) _ _ _ rfl (hA4.keep (((Keep.refl w4).alloc _).alloc _)) ⟨_, 0, none⟩ 1 1 (cD (x0, x1, x2, x3)) rfl rfl ?c1 ?c2 ?c3 ?c4 ?c5 ?_)
        case c1 =>
          intro j u hj
          match j, hj with
          | 0, hj => simp [cD] at hj; subst hj; simp [Addr.add]
          | 1, hj => simp [cD] at hj; subst hj; simp [Addr.add]
          | 2, hj => simp [cD] at hj; subst hj; simp [Addr.add]
          | 3, hj => simp [cD] at hj; subst hj; simp [Addr.add]
          | n + 4, hj => simp [cD] at hj
        case c2 => intro u hu; simp [cD] at hu; rcases hu with rfl | rfl | rfl | rfl <;> rfl
        case c3 => unfold maxLen; first | (simp; done) | omega | (simp; omega)
        case c4 => first | (simp; done) | omega | (simp; omega)
        case c5 => first | (simp; done) | omega | (simp; omega)
        intro v' w5 hown' hgrow _ hblk
        have hA5 : AppD w5 w.heap.size v' (L ++ [(x0, x1, x2, x3)]) := appD_hit hown'
        have hQ5 : Keep w w5 := (((hQ.trans k4).alloc _).alloc _).grown hgrow hge
        have gb : w5.heap[g9]? = w2.heap[g9]? := ((hgrow.block g9 (by rw [heap_size, heap_size]; omega) (fun e => hnb9 e.symm)).trans (by rw [heap_at, if_neg (by rw [heap_size]; omega), heap_at, if_neg (by omega)]; exact Below.block k4 g9 hg9q)).trans hG9
        have hne5 : v'.ownBlock ≠ some g9 := by
          rcases hblk with e | e
          · rw [e]; exact hnb9
          · rw [e]; simp only [ne_eq, Option.some.injEq]; omega
        have hg5 : g9 < w5.heap.size := Nat.lt_of_lt_of_le (by rw [heap_size, heap_size]; omega) hgrow.size
        clear hgrow hown' hblk hA4 hA
        go_wp2
        go_roundw
        case rel => exact ⟨q + 1, by omega, by go_num, by rw [HM2.out]; exact hA5, hne5, gb, hg5, hQ5⟩
        case measure => simp [intOf]; omega
      · obtain rfl : q = ps.length := by omega
        rw [List.take_length] at hA
        go_wp2
        go_ret
        exact ⟨_, rfl, by rw [HE.out]; exact hA, hQ⟩
set_option maxRecDepth 100000 in
set_option maxHeartbeats 8000000 in
theorem implReadWork_any (s : List UInt8) (w : World) (hl : s.length ≤ 1048576) (hw : LibW w) :
    Calls Tryz.prog 9 #[strV s] w fun e w' => ∃ v', e = .returned (.tuple #[v', .bool (readW s).isSome]) ∧ OwnW w' w.heap.size v' ((readW s).getD []) ∧ Keep w w' := by
  obtain ⟨j0, hj, hy0, hy1, hy2⟩ := info_parts Tryz.infoDS
  have HW := Lib.hid (readW_same s)
  have HP : Hid (readWP s = (Lib.splitN s [32, 124, 32] 4).map readP) := Lib.hid rfl
  have hn4 := (splitN_cut (b := [32, 124, 32]) (by simp) (n := 4) (by omega) s).1
  have hcp := fun p hp => splitN_part s [32, 124, 32] p 4 hp
  have hrp : ∀ t, (readP t).length ≤ 6 := by
    intro t
    unfold readP
    split
    · simp
    · rw [List.length_map]; exact (splitN_cut (b := [59, 32]) (by simp) (n := 6) (by omega) t).1
  go_enter Tryz.func9, Tryz.ntmps9
  go_wp2_with fail
  refine (split_any s [32, 124, 32] 4 _ hl (by simp) (by omega) (by omega) (hw.keep ((Keep.refl w).alloc _)).1).mono ?_
  rintro e w1 ⟨c6, rfl, hcell, hg6w, k1⟩
  rw [heap_size] at hcell hg6w ⊢
  obtain ⟨g6, hg6⟩ : ∃ g6, g6 = w.heap.size + 1 := ⟨_, rfl⟩
  rw [← hg6] at hcell hg6w ⊢
  have hg6a : w.heap.size < g6 := by omega
  clear hg6
  have ap := appW_emptyRI w w1 k1
  have K1 : Keep w w1 := ((Keep.refl w).alloc _).trans k1
  obtain ⟨all, hall⟩ : ∃ all, all = Lib.splitN s [32, 124, 32] 4 := ⟨_, rfl⟩
  rw [← hall] at hn4 hcp HP hcell ⊢
  clear hall k1
  go_wp2
  go_loopw [4, 11] (fun x i wr => ∃ (k : Nat), k ≤ all.length ∧ i = .int .i64 k ∧ AppW wr w.heap.size x ((all.take k).map readP) ∧ x.ownBlock ≠ some g6 ∧ wr.heap[g6]? = w1.heap[g6]? ∧ g6 < wr.heap.size ∧ Keep w wr) (fun _ i _ => all.length - (intOf i).toNat)
  case atStart => exact ⟨0, Nat.zero_le _, rfl, ap, by simp [Value.ownBlock]; omega, rfl, hg6w, K1⟩
  case round =>
    obtain ⟨k, hk, rfl, ho, hnb, hG, hgw, hK⟩ := hrel
    clear ap K1
    by_cases hlt : k < all.length
    · have d1 := (cell_same hG k).trans (hcell k hlt)
      have hmem := getD_mem [] hlt
      have hpl := hcp _ hmem
      have HO := Lib.hid (map_moreP all k hlt)
      have hDl : ((all.take k).map readP).length ≤ 4 := by simp; omega
      clear hcell hmem hcp
      obtain ⟨t, ht⟩ : ∃ t, t = all.getD k [] := ⟨_, rfl⟩
      rw [← ht] at d1 hpl HO
      clear ht
      have hrt := hrp t
      clear hrp
      have i1 : (0 : Int) ≤ (k : Int) := Int.natCast_nonneg _
      have i2 : (k : Int) < (all.length : Int) := by omega
      have hsz2 := hK.size
      go_wp2_with fail
      refine (readDeeds_any t _ (by omega) (hw.keep hK)).mono ?_
      rintro e w4 ⟨v4, rfl, hA, hQ⟩
      have hsz4 := hQ.size
      have hLown : OwnD w4 wr.heap.size v4 (readP t) := hA.ownD
      generalize (all.take k).map readP = D at ho hDl HO
      generalize readP t = L at hA HO hrt hLown
      obtain ⟨vs, hvs, hov, h3, h4, h5⟩ := ho
      obtain ⟨a5, c5, rfl⟩ := hA.shape
      have hov2 := World.ownsRow.kept hov (hQ.alloc (.cells #[.slice a5 L.length c5] 36)).grownBy (by cases u4.ownBlock <;> simp)
      clear d1 hA
      go_wp2_with (at_builtin; refine wpList_append_own_at _ rfl _ _ 24 rfl w.heap.size 36 j0 (.slice none 0 0) 1 24 Tryz.underlying24 hj hy0 hy1 hy2 rfl (by decide) _ _ _ rfl hov2 ⟨_, 0, none⟩ 1 1 [.slice a5 L.length c5] rfl rfl ?b1 ?b2 ?b3 ?b4 ?b5 ?_)
      case b1 =>
        intro j u hj
        match j, hj with
        | 0, hj => simp at hj; subst hj; simp [Addr.add]
      case b2 => intro u hu; simp at hu; subst hu; rfl
      case b3 => unfold maxLen; first | omega | (simp; omega)
      case b4 => first | omega | (simp; omega)
      case b5 => first | omega | (simp; omega)
      intro v' w5 hown' hgrow _ hblk
      have hP : AppW w5 w.heap.size v' (D ++ [L]) := AppW.push hvs hov h3 h4 h5 (hQ.alloc _) (Nat.le_refl _) hsz2 (hLown.keep ((Keep.refl _).alloc _)) hown' hgrow (by rw [heap_size]; exact hblk)
      have hK5 : Keep w w5 := ((hK.trans hQ).alloc _).grown hgrow (fun g hg => (World.ownsRow.lt hov g hg).1)
      have gb : w5.heap[g6]? = w1.heap[g6]? := ((hgrow.block g6 (by rw [heap_size]; omega) (fun e => hnb e.symm)).trans (by rw [heap_at, if_neg (by omega)]; exact Below.block hQ g6 hgw)).trans hG
      have hne5 : v'.ownBlock ≠ some g6 := by
        rcases hblk with e | e
        · rw [e]; exact hnb
        · rw [e]; simp only [ne_eq, Option.some.injEq]; omega
      have hg5 : g6 < w5.heap.size := Nat.lt_of_lt_of_le (by rw [heap_size]; omega) hgrow.size
      clear hgrow hown' hblk hov2 h3 h4 h5 hov
      go_wp2
      go_roundw
      case rel => exact ⟨k + 1, by omega, by go_num, by rw [HO.out]; exact hP, hne5, gb, hg5, hK5⟩
      case measure => simp [intOf]; omega
    · obtain rfl : k = all.length := by omega
      rw [List.take_length, ← HP.out] at ho
      have wl : (readWP s).length ≤ 1048576 := by rw [HP.out, List.length_map]; omega
      have wm : ∀ i, i < (readWP s).length → ((readWP s).getD i []).length ≤ 1048576 := by
        intro i hi
        have hm := getD_mem [] hi
        rw [HP.out] at hm
        obtain ⟨t, _, ht⟩ := List.mem_map.1 hm
        have := hrp t
        rw [HP.out, ← ht]
        omega
      generalize readWP s = R at ho wl wm HW
      clear hcell hcp HP hrp
      cases hw2 : workB R
      · have HE : Hid (readW s = none) := Lib.hid (by rw [HW.out, hw2]; rfl)
        clear HW
        go_wp2_with fail
        refine (implWorkOk_any _ _ _ ho.ownW.rd wl wm).mono ?_
        rintro e wz ⟨rfl, kk⟩
        go_wp2
        go_ret2
        exact ⟨_, by rw [HE.out]; rfl, by rw [HE.out]; exact ⟨_, _, rfl, .inl rfl⟩, (hK.trans kk).alloc _⟩
      · have HE : Hid (readW s = some R) := Lib.hid (by rw [HW.out, if_pos hw2])
        clear HW
        go_wp2_with fail
        refine (implWorkOk_any _ _ _ ho.ownW.rd wl wm).mono ?_
        rintro e wz ⟨rfl, kk⟩
        have hov := (ho.keep kk).ownW
        go_wp2
        go_ret2
        exact ⟨_, by rw [HE.out]; rfl, by rw [HE.out]; exact hov, hK.trans kk⟩
end Go.Proofs.YtljamlgnobpjeaaGreatDoor
