/- Contracts of the specification's l5Events and l5Groups. -/
import Derived.Test.YtkbkdlaknmgjpaaMA
import Derived.Test.YtkbkdlaknmgjpaaMB
import Derived.BigRegion
import Derived.Lib.Hide
namespace Go.Proofs.Ytkbkdlaknmgjpaa
open Go.ChangeShapes Go.WideShapes Go.ChangeAt Go.RowKit
theorem okD_kind {d : Dd} (h : okD d = true) : d.1 = 1 ∨ d.1 = 2 ∨ d.1 = 3 ∨ d.1 = 4 := by
 simp [okD, deedB] at h
 omega
theorem okD_group {d : Dd} (h : okD d = true) : 0 ≤ d.2.2.2 ∧ d.2.2.2 ≤ 9 := by
 simp [okD, deedB] at h
 omega
set_option maxRecDepth 100000 in
set_option maxHeartbeats 2000000 in
theorem l5Events_any (w : World) (v : Value) (dss : List (List Dd)) (h : RdW w v dss) (hx : dss.length ≤ 3) (hok : ∀ i, i < dss.length → okL (dss.getD i []) = true) :
  Calls Try.prog 47 #[v] w fun e w' => e = .returned (.int .i64 (evW dss dss.length)) ∧ Keep w w' := by
 obtain ⟨a, c, rfl, h⟩ := h
 go_enter Try.func47, Try.ntmps47
 go_wp2
 go_loopw [3, 4] (fun n i wr => ∃ k : Nat, ∃ m : Int, k ≤ dss.length ∧ n = .int .i64 m ∧ i = .int .i64 k ∧ Hid (m = evW dss k) ∧ 0 ≤ m ∧ m ≤ 10 * k ∧ Keep w wr) (fun _ i _ => dss.length - (intOf i).toNat)
 case atStart => exact ⟨0, 0, Nat.zero_le _, rfl, rfl, Lib.hid rfl, by omega, by omega, Keep.refl _⟩
 case round =>
  obtain ⟨k, m, hk, rfl, rfl, hm, m0, m1, hK⟩ := hrel
  by_cases hlt : k < dss.length
  ·
   rcases h with h | ⟨b, o, rfl, hb, hc⟩
   ·
    exfalso; rw [h] at hlt; simp at hlt
   obtain ⟨u, e1, r1⟩ := hc k hlt
   have d1 := (hK.cell hb).trans e1
   have r1 := r1.keep hK
   have okk := hok k hlt
   clear hc e1 hok
   obtain ⟨ds, hds⟩ : ∃ ds, ds = dss.getD k [] := ⟨_, rfl⟩
   have HDS := Lib.hid hds
   rw [← hds] at r1 okk
   clear hds
   obtain ⟨ai, ci, rfl, r1⟩ := r1
   have i1 : (0 : Int) ≤ (k : Int) := Int.natCast_nonneg _
   have i2 : (k : Int) < (dss.length : Int) := by omega
   have hl5 : ds.length ≤ 5 := by simp [okL] at okk; omega
   have hbw : b < wr.heap.size := Nat.lt_of_lt_of_le hb hK.size
   go_wp2
   obtain ⟨wo, hwo⟩ : ∃ wo : World, wo = wr := ⟨_, rfl⟩
   subst hwo
   go_loopw [3, 5] (fun n i wq => ∃ q : Nat, ∃ t : Int, q ≤ ds.length ∧ n = .int .i64 t ∧ i = .int .i64 q ∧ Hid (t = m + evK ds q) ∧ 0 ≤ t ∧ t ≤ 10 * k + 2 * q ∧ Keep wo wq) (fun _ i _ => ds.length - (intOf i).toNat)
   case atStart => exact ⟨0, m, Nat.zero_le _, rfl, rfl, Lib.hid (by simp [evK]), by omega, by omega, Keep.refl _⟩
   case round =>
    obtain ⟨q, t, hq, rfl, rfl, ht, t0, t1, hQ⟩ := hrel
    have d1 := (hQ.cell hbw).trans d1
    have hbq : b < wr.heap.size := Nat.lt_of_lt_of_le hbw hQ.size
    by_cases hlq : q < ds.length
    ·
     rcases r1 with h | ⟨b2, o2, rfl, hb2, hc2⟩
     ·
      exfalso; rw [h] at hlq; simp at hlq
     have AT := (hc2 q hlq).keep hb2 hQ
     have okq : okD (ds.getD q zD) = true := by
      simp only [okL, Bool.and_eq_true] at okk
      exact all_get zD okk.1 q hlq
     clear hc2 okk
     have hb3 : b2 < wr.heap.size := Nat.lt_of_lt_of_le hb2 hQ.size
     have HEV : Hid (t + evD (ds.getD q zD) = m + evK ds (q + 1)) := Lib.hid (by rw [evK, ht.out]; omega)
     clear ht
     obtain ⟨d, hd⟩ : ∃ d, d = ds.getD q zD := ⟨_, rfl⟩
     rw [← hd] at AT okq HEV
     clear hd
     have KD := okD_kind okq
     obtain ⟨x0, x1, x2, x3⟩ := d
     obtain ⟨A0, -, -, -⟩ := AT
     simp only at A0 KD
     have j1 : (0 : Int) ≤ (q : Int) := Int.natCast_nonneg _
     have j2 : (q : Int) < (ds.length : Int) := by omega
     rcases KD with rfl | rfl | rfl | rfl
     all_goals
      go_wp2
      go_roundw
      case rel => exact ⟨q + 1, _, by omega, rfl, by go_num, Lib.hid (by have := HEV.out; simp [evD] at this; omega), by omega, by omega, hQ.alloc _⟩
      case measure => simp [intOf]; omega
    ·
     obtain rfl : q = ds.length := by omega
     go_wp2
     go_roundw
     case rel => exact ⟨k + 1, t, by omega, rfl, by go_num, Lib.hid (by rw [evW, ← HDS.out, ht.out, hm.out]), t0, by omega, hK.trans hQ⟩
     case measure => simp [intOf]; omega
  ·
   obtain rfl : k = dss.length := by omega
   go_wp2
   go_ret
   exact ⟨by rw [hm.out]; rfl, hK⟩
theorem made_ten : (madeCells (Value.int .i64 0).cells (10 * 1)).toList = ((List.replicate 10 (0 : Int)).map (Value.int .i64)) := by
 rw [Nat.mul_one, List.map_replicate]
 exact toList_madeCells_one _ _
theorem grp_skip {i : Nat} {own o : List Int} {ds : List Dd} {k : Nat} (h : grpK i own ds k = some o) (hg : (ds.getD k zD).2.2.2 = 0) : grpK i own ds (k + 1) = some o := by
 rw [grpK, h]
 simp only [hg, if_true]
theorem grp_bad {i : Nat} {own o : List Int} {ds : List Dd} {k : Nat} (h : grpK i own ds k = some o) (hg : (ds.getD k zD).2.2.2 ≠ 0)
  (hb : o.getD (ds.getD k zD).2.2.2.toNat 0 ≠ 0 ∧ (o.getD (ds.getD k zD).2.2.2.toNat 0 ≠ (i : Int) + 1 ∨ k = 0 ∨ (ds.getD (k - 1) zD).2.2.2 ≠ (ds.getD k zD).2.2.2)) : grpK i own ds (k + 1) = none := by
 rw [grpK, h]
 simp only
 rw [if_neg hg, if_pos hb]
theorem grp_own {i : Nat} {own o : List Int} {ds : List Dd} {k : Nat} (h : grpK i own ds k = some o) (hg : (ds.getD k zD).2.2.2 ≠ 0)
  (hb : ¬ (o.getD (ds.getD k zD).2.2.2.toNat 0 ≠ 0 ∧ (o.getD (ds.getD k zD).2.2.2.toNat 0 ≠ (i : Int) + 1 ∨ k = 0 ∨ (ds.getD (k - 1) zD).2.2.2 ≠ (ds.getD k zD).2.2.2))) :
  grpK i own ds (k + 1) = some (o.set (ds.getD k zD).2.2.2.toNat ((i : Int) + 1)) := by
 rw [grpK, h]
 simp only
 rw [if_neg hg, if_neg hb]
theorem grp_out {dss : List (List Dd)} {k : Nat} {own : List Int} (hk : k < dss.length) (h : grpW dss k = some own) {q : Nat} (hq : q ≤ (dss.getD k []).length) (hn : grpK k own (dss.getD k []) q = none) : grpB dss = false := by
 have h1 : grpW dss (k + 1) = none := by
  rw [grpW, h]
  exact grpK_none hn _ hq
 rw [grpB, grpW_none h1 _ hk]
 rfl
set_option maxRecDepth 100000 in
set_option maxHeartbeats 4000000 in
theorem l5Groups_any (w : World) (v : Value) (dss : List (List Dd)) (h : RdW w v dss) (hx : dss.length ≤ 3) (hok : ∀ i, i < dss.length → okL (dss.getD i []) = true) :
  Calls Try.prog 48 #[v] w fun e w' => e = .returned (.bool (grpB dss)) ∧ Keep w w' := by
 obtain ⟨a, c, rfl, h⟩ := h
 obtain ⟨i0, hi, hz0, hz1, hz2⟩ := info_parts Try.infoI
 go_enter Try.func48, Try.ntmps48
 go_wp2_with (at_make; refine wpList_make_full _ rfl _ _ 23 rfl w.heap.size 2 i0 (.int .i64 0) 1 Try.underlying23 hi hz0 hz1 .i64 .i64 _ _ 10 rfl rfl rfl rfl (by rw [hz2]; omega) (by unfold maxLen; omega) (Nat.le_refl _) ?_; intro w1 hown hgrow)
 have k1 : Keep w w1 := (Keep.refl w).grown hgrow (by simp)
 have rb : RowAt w1 w.heap.size (List.replicate 10 0) := by
  have o : Own w1 w.heap.size (.slice (some ⟨w.heap.size, 0, none⟩) 10 10) (List.replicate 10 0) := by
   rw [made_ten] at hown; unfold Own; simpa using hown
  rcases o.row with ⟨e, _⟩ | ⟨g, cap, e, _, hr⟩
  ·
   cases e
  ·
   have e1 := congrArg Value.ownBlock e
   simp [Value.ownBlock] at e1
   rw [e1]; exact hr
 clear hgrow hown hi hz0 hz1 hz2
 go_loopw [4] (fun i wr => ∃ k : Nat, ∃ own : List Int, k ≤ dss.length ∧ i = .int .i64 k ∧ Hid (grpW dss k = some own) ∧ RowAt wr w.heap.size own ∧ Keep w wr) (fun i _ => dss.length - (intOf i).toNat)
 case atStart => exact ⟨0, List.replicate 10 0, Nat.zero_le _, rfl, Lib.hid rfl, rb, k1⟩
 case round =>
  obtain ⟨k, own, hk, rfl, hG, hR, hK⟩ := hrel
  clear rb k1
  by_cases hlt : k < dss.length
  ·
   rcases h with h | ⟨b, o, rfl, hb, hc⟩
   ·
    exfalso; rw [h] at hlt; simp at hlt
   obtain ⟨u, e1, r1⟩ := hc k hlt
   have okk := hok k hlt
   clear hc hok
   obtain ⟨ds, hds⟩ : ∃ ds, ds = dss.getD k [] := ⟨_, rfl⟩
   have HDS := Lib.hid hds
   rw [← hds] at r1 okk
   clear hds
   obtain ⟨ai, ci, rfl, r1⟩ := r1
   have d1 := (hK.cell hb).trans e1
   have i1 : (0 : Int) ≤ (k : Int) := Int.natCast_nonneg _
   have i2 : (k : Int) < (dss.length : Int) := by omega
   have hl5 : ds.length ≤ 5 := by simp [okL] at okk; omega
   go_wp2
   go_loopw [5] (fun i wq => ∃ q : Nat, ∃ ow : List Int, q ≤ ds.length ∧ i = .int .i64 q ∧ Hid (grpK k own ds q = some ow) ∧ RowAt wq w.heap.size ow ∧ Keep w wq) (fun i _ => ds.length - (intOf i).toNat)
   case atStart => exact ⟨0, own, Nat.zero_le _, rfl, Lib.hid rfl, hR, hK⟩
   case round =>
    obtain ⟨q, ow, hq, rfl, hQ, hS, hL⟩ := hrel
    have d1 := (hL.cell hb).trans e1
    by_cases hlq : q < ds.length
    ·
     rcases r1 with h | ⟨b2, o2, rfl, hb2, hc2⟩
     ·
      exfalso; rw [h] at hlq; simp at hlq
     have A3 := ((hc2 q hlq).keep hb2 hL).2.2.2
     have okq : okD (ds.getD q zD) = true := by
      simp only [okL, Bool.and_eq_true] at okk
      exact all_get zD okk.1 q hlq
     have g09 : 0 ≤ (ds.getD q zD).2.2.2 ∧ (ds.getD q zD).2.2.2 ≤ 9 := okD_group okq
     clear okk okq
     have AP : 0 < q → wr.cell? ⟨b2, o2 + (q - 1) * 4 + 3, none⟩ = some (.int .i64 (ds.getD (q - 1) zD).2.2.2) := fun _ => ((hc2 (q - 1) (by omega)).keep hb2 hL).2.2.2
     clear hc2
     have S1 := @grp_skip k own ow ds q hQ.out
     have S2 := @grp_bad k own ow ds q hQ.out
     have S3 := @grp_own k own ow ds q hQ.out
     have hlen : ow.length = 10 := (grpK_len hQ.out).trans (grpW_len hG.out)
     clear hQ
     obtain ⟨g, hg⟩ : ∃ g : Nat, (ds.getD q zD).2.2.2 = (g : Int) := ⟨_, (Int.toNat_of_nonneg g09.1).symm⟩
     rw [hg] at A3 g09 S1 S2 S3
     rw [Int.toNat_natCast] at S2 S3
     clear hg
     have hg9 : g < 10 := by omega
     obtain ⟨p, hp⟩ : ∃ p : Int, p = (ds.getD (q - 1) zD).2.2.2 := ⟨_, rfl⟩
     rw [← hp] at AP S2 S3
     clear hp
     have hRC := hS.cell (j := g) (by omega)
     obtain ⟨y, hy⟩ : ∃ y : Int, y = ow.getD g 0 := ⟨_, rfl⟩
     rw [← hy] at hRC S2 S3
     clear hy g09
     have j1 : (0 : Int) ≤ (q : Int) := Int.natCast_nonneg _
     have j2 : (q : Int) < (ds.length : Int) := by omega
     have j3 : (0 : Int) ≤ (g : Int) := Int.natCast_nonneg _
     have j4 : (g : Int) < 10 := by omega
     have hbq : b < wr.heap.size := Nat.lt_of_lt_of_le hb hL.size
     have hb3 : b2 < wr.heap.size := Nat.lt_of_lt_of_le hb2 hL.size
     by_cases g0 : g = 0
     ·
      have eg : ((g : Int) == 0) = true := by simp [g0]
      have HE := Lib.hid (S1 (by omega))
      clear S1 S2 S3 AP
      go_wp2
      go_roundw
      case rel => exact ⟨q + 1, ow, by omega, by go_num, HE, hS, hL⟩
      case measure => simp [intOf]; omega
     ·
      have HN : Hid ((g : Int) ≠ 0) := Lib.hid (by omega)
      have eg : ((g : Int) == 0) = false := by simp; omega
      have hF := hS.free g
      clear S1
      by_cases y0 : y = 0
      ·
       subst y0
       have HE := Lib.hid (S3 HN.out (by simp))
       clear S2 S3 AP
       go_wp2
       go_roundw
       case rel => exact ⟨q + 1, _, by omega, by go_num, HE, hS.set g _, hL.set (Nat.le_refl _) g _⟩
       case measure => simp [intOf]; omega
      ·
       have ey : (y != 0) = true := by simp [y0]
       by_cases yk : y = (k : Int) + 1
       ·
        subst yk
        have ek : ((k : Int) + 1 != (k : Int) + 1) = false := by simp
        by_cases q0 : q = 0
        ·
         have eq : ((q : Int) == 0) = true := by simp [q0]
         have HE : Hid (grpB dss = false) := Lib.hid (grp_out hlt hG.out (q := q + 1) (by rw [← HDS.out]; omega) (by rw [← HDS.out]; exact S2 HN.out ⟨y0, .inr (.inl q0)⟩))
         clear S2 S3 AP y0 q0
         go_wp2
         go_ret
         exact ⟨by rw [HE.out]; rfl, hL⟩
        ·
         have eq : ((q : Int) == 0) = false := by simp; omega
         have AP := AP (by omega)
         obtain ⟨r, rfl⟩ : ∃ r : Nat, q = r + 1 := ⟨q - 1, by omega⟩
         rw [Nat.add_sub_cancel] at AP
         have j5 : (0 : Int) ≤ (r : Int) := Int.natCast_nonneg _
         have j6 : (r : Int) < (ds.length : Int) := by omega
         by_cases pg : p = (g : Int)
         ·
          subst pg
          have ep : ((g : Int) != (g : Int)) = false := by simp
          have HE := Lib.hid (S3 HN.out (by simp))
          clear S2 S3 y0
          go_wp2
          go_roundw
          case rel => exact ⟨r + 1 + 1, _, by omega, by go_num, HE, hS.set g _, hL.set (Nat.le_refl _) g _⟩
          case measure => simp [intOf]; omega
         ·
          have ep : (p != (g : Int)) = true := by simp [pg]
          have HE : Hid (grpB dss = false) := Lib.hid (grp_out hlt hG.out (q := r + 1 + 1) (by rw [← HDS.out]; omega) (by rw [← HDS.out]; exact S2 HN.out ⟨y0, .inr (.inr pg)⟩))
          clear S2 S3 y0 pg
          go_wp2
          go_ret
          exact ⟨by rw [HE.out]; rfl, hL⟩
       ·
        have ek : (y != (k : Int) + 1) = true := by simp [yk]
        have HE : Hid (grpB dss = false) := Lib.hid (grp_out hlt hG.out (q := q + 1) (by rw [← HDS.out]; omega) (by rw [← HDS.out]; exact S2 HN.out ⟨y0, .inl yk⟩))
        clear S2 S3 AP yk y0
        go_wp2
        go_ret
        exact ⟨by rw [HE.out]; rfl, hL⟩
    ·
     obtain rfl : q = ds.length := by omega
     go_wp2
     go_roundw
     case rel => exact ⟨k + 1, ow, by omega, by go_num, Lib.hid (by rw [grpW, hG.out, ← HDS.out]; exact hQ.out), hS, hL⟩
     case measure => simp [intOf]; omega
  ·
   obtain rfl : k = dss.length := by omega
   go_wp2
   go_ret
   exact ⟨by rw [grpB, hG.out]; rfl, hK⟩
end Go.Proofs.Ytkbkdlaknmgjpaa
