/- Contracts of the program's waited (of one clerk) and Waited. -/
import Derived.Test.YtljamlgnobpjeaaWorkOkI
import Derived.Test.YtljamlgnobpjeaaAppD
import Derived.Test.YtljamlgnobpjeaaWaitPlain
import Derived.BigRegion
import Derived.Deep.Cut
namespace Go.Proofs.Ytljamlgnobpjeaa
open Go.ChangeShapes Go.WideShapes Go.ChangeAt Go.RowKit

theorem appW_emptyI (w : World) : AppW (w.alloc (.cells #[] 30)) w.heap.size (.slice (some ⟨w.heap.size, 0, none⟩) 0 0) [] :=
  ⟨[], rfl, World.ownsRow_lit w #[] 0 (Nat.le_refl _) (by decide) rfl, by simp, by simp, by simp⟩
theorem appD_emptyI (w : World) : AppD (w.alloc (.cells #[] 32)) w.heap.size (.slice (some ⟨w.heap.size, 0, none⟩) 0 0) [] :=
  World.ownsRow_lit w #[] 0 (Nat.le_refl _) (by decide) rfl
theorem map_moreI (dss : List (List Dd)) (k : Nat) (h : k < dss.length) : (dss.take (k + 1)).map waitC = (dss.take k).map waitC ++ [waitC (dss.getD k [])] := by
  rw [take_moreW dss k [] h, List.map_append]; rfl
set_option maxRecDepth 100000 in
set_option maxHeartbeats 4000000 in
theorem waited_any (w : World) (v : Value) (ds : List Dd) (h : RdD w v ds) (hx : ds.length ≤ 1048576) :
    Calls Try.prog 20 #[v] w fun e w' => ∃ v', e = .returned v' ∧ AppD w' w.heap.size v' (waitC ds) ∧ Keep w w' := by
  have ad0 := appD_emptyI w
  obtain ⟨i0, hi, hz0, hz1, hz2⟩ := info_parts Try.infoD
  obtain ⟨a, c, rfl, r1⟩ := h
  go_enter Try.func20, Try.ntmps20
  go_wp2
  go_loopw [3, 9] (fun x i wq => ∃ q : Nat, q ≤ ds.length ∧ i = .int .i64 q ∧ AppD wq w.heap.size x (waitK ds q) ∧ Keep w wq) (fun _ i _ => ds.length - (intOf i).toNat)
  case atStart => exact ⟨0, Nat.zero_le _, rfl, ad0, (Keep.refl w).alloc _⟩
  case round =>
    obtain ⟨q, hq, rfl, hA, hQ⟩ := hrel
    clear ad0
    by_cases hlq : q < ds.length
    · rcases r1 with h | ⟨b2, o2, rfl, hb2, hc2⟩
      · exfalso; rw [h] at hlq; simp at hlq
      have AT := (hc2 q hlq).keep hb2 hQ
      clear hc2
      have hb3 : b2 < wr.heap.size := Nat.lt_of_lt_of_le hb2 hQ.size
      have j1 : (0 : Int) ≤ (q : Int) := Int.natCast_nonneg _
      have j2 : (q : Int) < (ds.length : Int) := by omega
      have W4 : (ds.getD q zD).1 = 4 → Hid (waitK ds (q + 1) = waitK ds q) := fun e => Lib.hid (by rw [waitK, if_pos e])
      have W1 : (ds.getD q zD).1 ≠ 4 → waitK ds q = [] → Hid (waitK ds (q + 1) = [bareD (ds.getD q zD)]) := fun e e2 => Lib.hid (by rw [waitK, if_neg e, if_pos e2])
      have W2 : (ds.getD q zD).1 ≠ 4 → waitK ds q ≠ [] → Hid (waitK ds (q + 1) = waitK ds q ++ [waitD] ++ [bareD (ds.getD q zD)]) := fun e e2 => Lib.hid (by rw [waitK, if_neg e, if_neg e2])
      obtain ⟨d, hd⟩ : ∃ d, d = ds.getD q zD := ⟨_, rfl⟩
      rw [← hd] at AT W4 W1 W2
      clear hd
      obtain ⟨x0, x1, x2, x3⟩ := d
      obtain ⟨A0, A1, A2, A3⟩ := AT
      simp only [bareD] at A0 A1 A2 A3 W4 W1 W2
      have wl := waitK_len ds q
      by_cases x4 : x0 = 4
      · have HW := W4 x4
        clear W4 W1 W2
        have ex : (x0 == 4) = true := by simp [x4]
        clear x4
        go_wp2
        go_roundw
        case rel => exact ⟨q + 1, by omega, by go_num, by rw [HW.out]; exact hA.keep ((Keep.refl wr).alloc _), hQ.alloc _⟩
        case measure => simp [intOf]; omega
      · have ex : (x0 == 4) = false := by simp [x4]
        by_cases l0 : waitK ds q = []
        · have HW := W1 x4 l0
          clear W4 W1 W2 x4
          obtain ⟨L, hL⟩ : ∃ L, L = waitK ds q := ⟨_, rfl⟩
          rw [← hL] at hA l0 wl
          clear hL
          subst l0
          obtain ⟨a5, c5, rfl⟩ := hA.shape
          have hsz := hQ.size
          go_wp2_with (at_builtin; refine wpList_append_own_at _ rfl _ _ 39 rfl w.heap.size 32 i0 (.agg #[.int .i64 0, .int .i64 0, .int .i64 0, .int .i64 0]) 4 32 Try.underlying39 hi hz0 hz1 hz2 rfl (by decide) _ _ _ rfl (hA.keep (((Keep.refl wr).alloc _).alloc _)) ⟨_, 0, none⟩ 1 1 (cD (x0, x1, x2, 0)) rfl rfl ?c1 ?c2 ?c3 ?c4 ?c5 ?_)
          case c1 =>
            intro j u hj
            match j, hj with
            | 0, hj => simp [cD] at hj; subst hj; simp [Addr.add]
            | 1, hj => simp [cD] at hj; subst hj; simp [Addr.add]
            | 2, hj => simp [cD] at hj; subst hj; simp [Addr.add]
            | 3, hj => simp [cD] at hj; subst hj; simp [Addr.add]
            | n + 4, hj => simp [cD] at hj
          case c2 => intro u hu; simp [cD] at hu; rcases hu with rfl | rfl | rfl | rfl <;> rfl
          case c3 => unfold maxLen; first | (simp; done) | omega | (simp; omega)
          case c4 => first | (simp; done) | omega | (simp; omega)
          case c5 => first | (simp; done) | omega | (simp; omega)
          intro v' w2 hown' hgrow _ _
          have hA2 : AppD w2 w.heap.size v' [(x0, x1, x2, 0)] := appD_hit (ds := []) hown'
          have hQ2 : Keep w w2 := ((hQ.alloc _).alloc _).grown hgrow hA.ge
          clear hgrow hown' hA hQ
          go_wp2
          go_roundw
          case rel => exact ⟨q + 1, by omega, by go_num, by rw [HW.out]; exact hA2, hQ2⟩
          case measure => simp [intOf]; omega
        · have HW := W2 x4 l0
          clear W4 W1 W2 x4
          obtain ⟨L, hL⟩ : ∃ L, L = waitK ds q := ⟨_, rfl⟩
          rw [← hL] at hA l0 wl HW
          clear hL
          have lp : 0 < L.length := List.length_pos_iff.2 l0
          clear l0
          obtain ⟨a5, c5, rfl⟩ := hA.shape
          have hsz := hQ.size
          go_wp2_with (at_builtin; refine wpList_append_own_at _ rfl _ _ 39 rfl w.heap.size 32 i0 (.agg #[.int .i64 0, .int .i64 0, .int .i64 0, .int .i64 0]) 4 32 Try.underlying39 hi hz0 hz1 hz2 rfl (by decide) _ _ _ rfl (hA.keep (((Keep.refl wr).alloc _).alloc _)) ⟨_, 0, none⟩ 1 1 (cD (4, 0, 0, 0)) rfl rfl ?c1 ?c2 ?c3 ?c4 ?c5 ?_)
          case c1 =>
            intro j u hj
            match j, hj with
            | 0, hj => simp [cD] at hj; subst hj; simp [Addr.add]
            | 1, hj => simp [cD] at hj; subst hj; simp [Addr.add]
            | 2, hj => simp [cD] at hj; subst hj; simp [Addr.add]
            | 3, hj => simp [cD] at hj; subst hj; simp [Addr.add]
            | n + 4, hj => simp [cD] at hj
          case c2 => intro u hu; simp [cD] at hu; rcases hu with rfl | rfl | rfl | rfl <;> rfl
          case c3 => unfold maxLen; first | (simp; done) | omega | (simp; omega)
          case c4 => first | (simp; done) | omega | (simp; omega)
          case c5 => first | (simp; done) | omega | (simp; omega)
          intro v' w2 hown' hgrow _ hblk
          have hA2 : AppD w2 w.heap.size v' (L ++ [waitD]) := appD_hit hown'
          have hQ2 : Keep w w2 := ((hQ.alloc _).alloc _).grown hgrow hA.ge
          have hbox : w2.heap[wr.heap.size]? = some (.cells #[.int .i64 x0, .int .i64 x1, .int .i64 x2, .int .i64 x3] 32) :=
            (hgrow.block wr.heap.size (by rw [heap_size, heap_size]; omega) (fun e => by have := (World.ownsRow.lt hA _ e.symm).2; omega)).trans (by rw [heap_at, if_neg (by rw [heap_size]; omega), heap_at, if_pos rfl])
          have hne : v'.ownBlock = none ∨ v'.ownBlock ≠ some wr.heap.size := by
            right
            rcases hblk with e | e
            · rw [e]
              intro e2
              have := (World.ownsRow.lt hA _ e2).2
              omega
            · rw [e]
              simp only [ne_eq, Option.some.injEq]
              omega
          have hb4 : wr.heap.size < w2.heap.size := (Array.getElem?_eq_some_iff.1 hbox).1
          obtain ⟨w3, hw3⟩ : ∃ w3, w3 = w2.setCell ⟨wr.heap.size, 3, none⟩ (.int .i64 0) := ⟨_, rfl⟩
          have hbox3 : w3.heap[wr.heap.size]? = some (.cells #[.int .i64 x0, .int .i64 x1, .int .i64 x2, .int .i64 0] 32) := by
            rw [hw3, heap_setCell_same w2 _ 3 _ _ _ hbox]; rfl
          have b0 : w3.cell? ⟨wr.heap.size, 0, none⟩ = some (.int .i64 x0) := by rw [cell_of_row w3 _ 0 _ _ (0, 0) hbox3]; rfl
          have b1 : w3.cell? ⟨wr.heap.size, 1, none⟩ = some (.int .i64 x1) := by rw [cell_of_row w3 _ 1 _ _ (0, 0) hbox3]; rfl
          have b2' : w3.cell? ⟨wr.heap.size, 2, none⟩ = some (.int .i64 x2) := by rw [cell_of_row w3 _ 2 _ _ (0, 0) hbox3]; rfl
          have b3 : w3.cell? ⟨wr.heap.size, 3, none⟩ = some (.int .i64 0) := by rw [cell_of_row w3 _ 3 _ _ (0, 0) hbox3]; rfl
          have o3 : w2.cell? ⟨wr.heap.size, 3, none⟩ = some (.int .i64 x3) := by rw [cell_of_row w2 _ 3 _ _ (0, 0) hbox]; rfl
          have f3 : w2.frozen? ⟨wr.heap.size, 3, none⟩ = false := frozen_of_row w2 _ 3 _ _ hbox
          have hA3 : AppD w3 w.heap.size v' (L ++ [waitD]) := by rw [hw3]; exact World.ownsRow.kept hA2 (grown_put w2 wr.heap.size 3 _) hne
          have hQ3 : Keep w w3 := by rw [hw3]; exact hQ2.set hsz 3 _
          have hb5 : wr.heap.size < w3.heap.size := (Array.getElem?_eq_some_iff.1 hbox3).1
          clear hgrow hown' hA hQ hbox hbox3 A0 A1 A2 A3 hA2 hQ2 hne hblk
          go_upto_region 9 with fail
          rw [← hw3]
          clear hw3 o3 f3
          go_wp2_with (at_builtin; refine wpList_append_own_at _ rfl _ _ 39 rfl w.heap.size 32 i0 (.agg #[.int .i64 0, .int .i64 0, .int .i64 0, .int .i64 0]) 4 32 Try.underlying39 hi hz0 hz1 hz2 rfl (by decide) _ _ _ rfl (hA3.keep ((Keep.refl w3).alloc _)) ⟨_, 0, none⟩ 1 1 (cD (x0, x1, x2, 0)) rfl rfl ?c1 ?c2 ?c3 ?c4 ?c5 ?_)
          case c1 =>
            intro j u hj
            match j, hj with
            | 0, hj => simp [cD] at hj; subst hj; simp [Addr.add]
            | 1, hj => simp [cD] at hj; subst hj; simp [Addr.add]
            | 2, hj => simp [cD] at hj; subst hj; simp [Addr.add]
            | 3, hj => simp [cD] at hj; subst hj; simp [Addr.add]
            | n + 4, hj => simp [cD] at hj
          case c2 => intro u hu; simp [cD] at hu; rcases hu with rfl | rfl | rfl | rfl <;> rfl
          case c3 => unfold maxLen; first | (simp; done) | omega | (simp; omega)
          case c4 => first | (simp; done) | omega | (simp; omega)
          case c5 => first | (simp; done) | omega | (simp; omega)
          intro v'' w4 hown' hgrow _ _
          have hA4 : AppD w4 w.heap.size v'' (L ++ [waitD] ++ [(x0, x1, x2, 0)]) := appD_hit (by simpa using hown')
          have hQ4 : Keep w w4 := (hQ3.alloc _).grown hgrow hA3.ge
          clear hgrow hown' hA3 hQ3
          go_wp2
          go_roundw
          case rel => exact ⟨q + 1, by omega, by go_num, by rw [HW.out]; exact hA4, hQ4⟩
          case measure => simp [intOf]; omega
    · obtain rfl : q = ds.length := by omega
      have hA : AppD wr w.heap.size u3 (waitC ds) := hA
      go_wp2
      go_ret
      exact ⟨_, rfl, hA, hQ⟩
set_option maxRecDepth 100000 in
set_option maxHeartbeats 4000000 in
theorem implWaited_any (w : World) (v : Value) (dss : List (List Dd)) (h : RdW w v dss) (hx : dss.length ≤ 1048576) (hm : ∀ i, i < dss.length → (dss.getD i []).length ≤ 1048576) :
    Calls Try.prog 8 #[v] w fun e w' => ∃ v', e = .returned v' ∧ OwnW w' w.heap.size v' (waitB dss) ∧ Keep w w' := by
  cases hb : workB dss
  · have HE : Hid (waitB dss = []) := Lib.hid (by rw [waitB, hb]; rfl)
    go_enter Try.func8, Try.ntmps8
    go_wp2_with fail
    refine (implWorkOk_any _ _ _ h hx hm).mono ?_
    rintro e w1 ⟨rfl, k1⟩
    go_wp2
    go_ret
    exact ⟨_, rfl, by rw [HE.out]; exact ⟨_, _, rfl, .inl rfl⟩, k1.alloc _⟩
  · obtain ⟨h1, h3, ul⟩ : 1 ≤ dss.length ∧ dss.length ≤ 3 ∧ ∀ i, i < dss.length → (dss.getD i []).length ≤ 5 := by
      simp only [workB, Bool.and_eq_true, decide_eq_true_eq] at hb
      obtain ⟨⟨⟨⟨h1, h2⟩, _⟩, _⟩, _⟩ := hb
      exact ⟨h1.1, h1.2, fun i hi => by have := all_get [] h2 i hi; simp only [okL, Bool.and_eq_true, decide_eq_true_eq] at this; exact this.2⟩
    have HE : Hid (waitB dss = if workB (waitW dss) = true then waitW dss else []) := Lib.hid (by rw [waitB, if_pos hb])
    obtain ⟨j0, hj, hy0, hy1, hy2⟩ := info_parts Try.infoDS
    go_enter Try.func8, Try.ntmps8
    go_wp2_with fail
    refine (implWorkOk_any _ _ _ h hx hm).mono ?_
    rintro e w0 ⟨rfl, k0⟩
    have a0 := appW_emptyI w0
    go_wp2_with fail
    refine (clerksOf_at w _ (k0.alloc _) _ _ h h1 h3 hm).mono ?_
    rintro e w1 ⟨v1, rfl, rc, k1⟩
    have a1 := a0.keep k1
    have K01 : Keep w0 w1 := ((Keep.refl _).alloc _).trans k1
    have hsz0 := k0.size
    clear hb h hm a0 k1 hx
    obtain ⟨b, c1, V, rfl, hbl, hbu, hc⟩ := rc
    rw [heap_size] at hbl
    have HR : ∀ i, i < dss.length → RdD w (V i) (dss.getD i []) := fun i hi => (hc i hi).1
    have HC : ∀ i, i < dss.length → w1.cell? ⟨b, i * 2, none⟩ = some (V i) ∧ w1.cell? ⟨b, i * 2 + 1, none⟩ = some (.int .i64 (takW dss i)) := fun i hi => (hc i hi).2
    clear hc
    go_wp2
    go_loopw [3, 14] (fun x i wr => ∃ k : Nat, k ≤ dss.length ∧ i = .int .i64 k ∧ AppW wr w0.heap.size x ((dss.take k).map waitC) ∧ x.ownBlock ≠ some b ∧ (∀ i, i < dss.length → wr.cell? ⟨b, i * 2, none⟩ = some (V i) ∧ wr.cell? ⟨b, i * 2 + 1, none⟩ = some (.int .i64 (takW dss i))) ∧ b < wr.heap.size ∧ Keep w0 wr) (fun _ i _ => dss.length - (intOf i).toNat)
    case atStart => exact ⟨0, Nat.zero_le _, rfl, a1, by simp [Value.ownBlock]; omega, HC, hbu, K01⟩
    case round =>
      obtain ⟨k, hk, rfl, ho, hne, hCC, hbw, hK0⟩ := hrel
      clear a1 HC
      by_cases hlt : k < dss.length
      · have r1 := (HR k hlt).keep (k0.trans hK0)
        obtain ⟨d1, d2⟩ := hCC k hlt
        have HCC := Lib.hid hCC
        clear hCC
        have l5 := ul k hlt
        have HO : Hid ((dss.take (k + 1)).map waitC = (dss.take k).map waitC ++ [waitC (dss.getD k [])]) := Lib.hid (map_moreI dss k hlt)
        obtain ⟨ds, hds⟩ : ∃ ds, ds = dss.getD k [] := ⟨_, rfl⟩
        rw [← hds] at r1 l5 HO
        clear hds
        generalize takW dss k = t at d2
        obtain ⟨u, hu⟩ : ∃ u, u = V k := ⟨_, rfl⟩
        rw [← hu] at d1 r1
        clear hu
        obtain ⟨ai, ci, rfl, -⟩ := id r1
        have i1 : (0 : Int) ≤ (k : Int) := Int.natCast_nonneg _
        have i2 : (k : Int) < (dss.length : Int) := by omega
        have wl := waitK_len ds ds.length
        have hlen : ((dss.take k).map waitC).length = k := by simp; omega
        go_wp2_with fail
        refine (waited_any _ _ _ (r1.keep ((Keep.refl _).alloc _)) (by omega)).mono ?_
        rintro e w4 ⟨v4, rfl, hA, k4⟩
        have wl : (waitC ds).length ≤ 2 * ds.length := wl
        have kw4 : Keep wr w4 := ((Keep.refl _).alloc _).trans k4
        have hAB : OwnD w4 wr.heap.size v4 (waitC ds) := hA.ownD.mono (by rw [heap_size]; omega)
        generalize (dss.take k).map waitC = D at ho hlen HO
        generalize waitC ds = L at hA HO wl hAB
        obtain ⟨vs, hvs, hov, h3', h4, h5⟩ := ho
        obtain ⟨a5, c5, rfl⟩ := hA.shape
        have hsz2 := hK0.size
        have hsz4 := kw4.size
        have hov2 := World.ownsRow.kept hov (kw4.alloc (.cells #[.slice a5 L.length c5] 30)).grownBy (by cases u3.ownBlock <;> simp)
        clear d1 d2 k4
        go_wp2_with (at_builtin; refine wpList_append_own_at _ rfl _ _ 24 rfl w0.heap.size 30 j0 (.slice none 0 0) 1 24 Try.underlying24 hj hy0 hy1 hy2 rfl (by decide) _ _ _ rfl hov2 ⟨_, 0, none⟩ 1 1 [.slice a5 L.length c5] rfl rfl ?c1 ?c2 ?c3 ?c4 ?c5 ?_)
        case c1 =>
          intro j u hj
          match j, hj with
          | 0, hj => simp at hj; subst hj; simp [Addr.add]
        case c2 => intro u hu; simp at hu; subst hu; rfl
        case c3 => unfold maxLen; omega
        case c4 => omega
        case c5 => simp; omega
        intro v' w5 hown' hgrow _ hblk
        have hP : AppW w5 w0.heap.size v' (D ++ [L]) := AppW.push hvs hov h3' h4 h5 (kw4.alloc _) (Nat.le_refl _) hsz2 (hAB.keep ((Keep.refl w4).alloc _)) (by rw [hlen]; exact hown') hgrow (by rw [heap_size]; exact hblk)
        have hK3 : Keep w0 w5 := ((hK0.trans kw4).alloc _).grown hgrow (fun g hg => (World.ownsRow.lt hov g hg).1)
        have hb4 : b < w4.heap.size := Nat.lt_of_lt_of_le hbw kw4.size
        have hb5 : b < w5.heap.size := Nat.lt_of_lt_of_le (by rw [heap_size]; omega) hgrow.size
        have blk : w5.heap[b]? = wr.heap[b]? := (hgrow.block b (by rw [heap_size]; omega) (fun e => hne e.symm)).trans (by rw [heap_at, if_neg (by omega)]; exact Below.block kw4 b hbw)
        have hC5 : ∀ i, i < dss.length → w5.cell? ⟨b, i * 2, none⟩ = some (V i) ∧ w5.cell? ⟨b, i * 2 + 1, none⟩ = some (.int .i64 (takW dss i)) := fun i hi => ⟨(cell_same blk _).trans (HCC.out i hi).1, (cell_same blk _).trans (HCC.out i hi).2⟩
        have hne5 : v'.ownBlock ≠ some b := by
          rcases hblk with e | e
          · rw [e]; exact hne
          · rw [e]; simp only [ne_eq, Option.some.injEq]; omega
        clear hgrow hown' hblk hov2 h3' h4 h5 hov hA
        go_wp2
        go_roundw
        case rel => exact ⟨k + 1, by omega, by go_num, by rw [HO.out]; exact hP, hne5, hC5, hb5, hK3⟩
        case measure => simp [intOf]; omega
      · obtain rfl : k = dss.length := by omega
        rw [List.take_length] at ho
        have ho : AppW wr w0.heap.size u3 (waitW dss) := ho
        have wl : (waitW dss).length ≤ 3 := by simp [waitW]; omega
        have wm : ∀ i, i < (waitW dss).length → ((waitW dss).getD i []).length ≤ 1048576 := by
          intro i hi
          have hi' : i < dss.length := by simpa [waitW] using hi
          have e1 : (waitW dss).getD i [] = waitC (dss.getD i []) := by
            rw [waitW, List.getD_eq_getElem?_getD, List.getElem?_map, List.getD_eq_getElem?_getD, List.getElem?_eq_getElem hi']
            rfl
          rw [e1, waitC]
          have e2 := waitK_len (dss.getD i []) (dss.getD i []).length
          have e3 := ul i hi'
          omega
        cases hw : workB (waitW dss)
        · have HE2 : Hid (waitB dss = []) := Lib.hid (by rw [HE.out, hw]; rfl)
          clear HE
          go_wp2_with fail
          refine (implWorkOk_any _ _ _ ho.ownW.rd (by omega) wm).mono ?_
          rintro e wz ⟨rfl, kk⟩
          go_wp2
          go_ret
          refine ⟨_, rfl, ?_, ((k0.trans hK0).trans kk).alloc _⟩
          rw [HE2.out]
          exact ⟨_, _, rfl, .inl rfl⟩
        · have HE2 : Hid (waitB dss = waitW dss) := Lib.hid (by rw [HE.out, if_pos hw])
          clear HE
          go_wp2_with fail
          refine (implWorkOk_any _ _ _ ho.ownW.rd (by omega) wm).mono ?_
          rintro e wz ⟨rfl, kk⟩
          have hov := (ho.keep kk).ownW
          go_wp2
          go_ret
          exact ⟨_, rfl, by rw [HE2.out]; exact hov.base_le hsz0, (k0.trans hK0).trans kk⟩
end Go.Proofs.Ytljamlgnobpjeaa
