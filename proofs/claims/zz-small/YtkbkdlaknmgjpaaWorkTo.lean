/- Contracts of the laws' helpers on works: how great one is, and a copy of it. -/
import Derived.Test.YtkbkdlaknmgjpaaMC
import Derived.Test.YtkbkdlaknmgjpaaOpenDeed
import Derived.Outline
import Derived.RegionTactic
import Derived.OwnWalk
import Derived.Lib.Hide
namespace Go.Proofs.Ytkbkdlaknmgjpaa
open Go.ChangeShapes Go.WideShapes Go.ChangeAt Go.RowKit
theorem szD_any (w : World) (v : Value) (ds : List Dd) (h : RdD w v ds) (left : Int) (h0 : 0 ≤ left) (h1 : left ≤ 1048576) (hn : ds.length ≤ maxLen) :
  Calls Try.prog 14 #[v, .int .i64 left] w fun e w' => e = .returned (.int .i64 (if (ds.length : Int) ≤ left then left - ds.length else -1)) ∧ w' = w := by
 obtain ⟨a, cap, rfl, _⟩ := h
 have hm : maxLen = 9223372036854775807 := rfl
 by_cases hl : (ds.length : Int) ≤ left
 ·
  rw [if_pos hl]
  go_enter Try.func14, Try.ntmps14
  go_wp2
  go_ret
  exact ⟨rfl, rfl⟩
 ·
  rw [if_neg hl]
  go_enter Try.func14, Try.ntmps14
  go_wp2
  go_ret
  exact ⟨rfl, rfl⟩
set_option maxRecDepth 100000 in
set_option maxHeartbeats 1000000 in
theorem toD_any (w : World) (v : Value) (ds : List Dd) (h : RdD w v ds) (hn : ds.length ≤ 1048576) :
  Calls Try.prog 18 #[v] w fun e w' => ∃ v', e = .returned v' ∧ OwnD w' w.heap.size v' ds ∧ Keep w w' := by
 obtain ⟨a, c, rfl, h⟩ := h
 obtain ⟨i0, hi, hz0, hz1, hz2⟩ := info_parts Try.infoD
 go_enter Try.func18, Try.ntmps18
 go_wp2_with (at_make; refine wpList_make_full _ rfl _ _ 40 rfl w.heap.size 62 i0 (.agg #[.int .i64 0, .int .i64 0, .int .i64 0, .int .i64 0]) 4 Try.underlying40 hi hz0 hz1 .i64 .i64 _ _ ds.length rfl rfl rfl rfl (by rw [hz2]; omega) (by unfold maxLen; omega) (Nat.le_refl _) ?_; intro w1 hown hgrow)
 have hk1 : Keep w w1 := (Keep.refl w).grown hgrow (by simp)
 have B1 := Blk.ofOwn hown
 clear hown hgrow hi hz0 hz1 hz2
 go_loopw [4] (fun i wr => ∃ j : Nat, j ≤ ds.length ∧ i = .int .i64 j ∧ Blk wr w.heap.size (ds.length * 4) ∧ (∀ i, i < j → AtD wr w.heap.size (i * 4) (ds.getD i zD)) ∧ Keep w wr) (fun i _ => ds.length - (intOf i).toNat)
 case atStart => exact ⟨0, Nat.zero_le _, rfl, B1, fun i hi => absurd hi (Nat.not_lt_zero _), hk1⟩
 case round =>
  obtain ⟨j, hj, rfl, hB, hA, hK⟩ := hrel
  clear B1 hk1
  by_cases hlt : j < ds.length
  ·
   rcases h with h | ⟨b, o, rfl, hb, hc⟩
   ·
    exfalso; rw [h] at hlt; simp at hlt
   obtain ⟨d0, d1, d2, d3⟩ := (hc j hlt).keep hb hK
   obtain ⟨d, hd⟩ : ∃ d, d = ds.getD j zD := ⟨_, rfl⟩
   have HD := Lib.hid hd
   rw [← hd] at d0 d1 d2 d3
   have hbs : b < wr.heap.size := Nat.lt_of_lt_of_le hb hK.size
   clear hc hd
   go_wp2_with fail
   refine (toDeed_any _ _ _ _ _).mono ?_
   rintro e w2 ⟨rfl, k2⟩
   have B2 := hB.kept k2.grownBy (by simp)
   obtain ⟨u0, e0⟩ := B2.cell (show j * 4 < ds.length * 4 by omega)
   obtain ⟨u1, e1⟩ := B2.cell (show j * 4 + 1 < ds.length * 4 by omega)
   obtain ⟨u2, e2⟩ := B2.cell (show j * 4 + 2 < ds.length * 4 by omega)
   obtain ⟨u3, e3⟩ := B2.cell (show j * 4 + 3 < ds.length * 4 by omega)
   have f0 := B2.free (j * 4)
   have f1 := B2.free (j * 4 + 1)
   have f2 := B2.free (j * 4 + 2)
   have f3 := B2.free (j * 4 + 3)
   go_wp2
   go_roundw
   case rel =>
    refine ⟨j + 1, by omega, by go_num, (((B2.set _ _).set _ _).set _ _).set _ _, fun i hi => ?_, ((((hK.trans k2).set (Nat.le_refl _) _ _).set (Nat.le_refl _) _ _).set (Nat.le_refl _) _ _).set (Nat.le_refl _) _ _⟩
    by_cases hij : i = j
    ·
     subst hij
     rw [← HD.out]
     exact putD_same B2 (by omega)
    ·
     exact putD ((hA i (by omega)).keep hB.lt k2) (by omega)
   case measure => simp [intOf]; omega
  ·
   obtain rfl : j = ds.length := by omega
   go_wp2
   go_ret
   exact ⟨_, rfl, ⟨_, 0, rfl, .inr ⟨_, rfl, Nat.le_refl _, hB, hA⟩⟩, hK⟩
set_option maxRecDepth 100000 in
set_option maxHeartbeats 2000000 in
theorem toW_any (w : World) (v : Value) (dss : List (List Dd)) (h : RdW w v dss) (hn : dss.length ≤ 1048576) (hm : ∀ i, i < dss.length → (dss.getD i []).length ≤ 1048576) :
  Calls Try.prog 6 #[v] w fun e w' => ∃ v', e = .returned v' ∧ OwnW w' w.heap.size v' dss ∧ Keep w w' := by
 obtain ⟨a, c, rfl, h⟩ := h
 obtain ⟨i0, hi, hz0, hz1, hz2⟩ := info_parts Try.infoDS
 go_enter Try.func6, Try.ntmps6
 go_wp2_with (at_make; refine wpList_make_full _ rfl _ _ 26 rfl w.heap.size 40 i0 (.slice none 0 0) 1 Try.underlying26 hi hz0 hz1 .i64 .i64 _ _ dss.length rfl rfl rfl rfl (by rw [hz2]; omega) (by unfold maxLen; omega) (Nat.le_refl _) ?_; intro w1 hown hgrow)
 have hk1 : Keep w w1 := (Keep.refl w).grown hgrow (by simp)
 have B1 := Blk.ofOwn hown
 rw [Nat.mul_one] at B1
 clear hown hgrow hi hz0 hz1 hz2
 go_loopw [4] (fun i wr => ∃ (j : Nat) (V : Nat → Value), j ≤ dss.length ∧ i = .int .i64 j ∧ Blk wr w.heap.size dss.length ∧ (∀ i, i < j → wr.cell? ⟨w.heap.size, i, none⟩ = some (V i) ∧ OwnD wr (w.heap.size + 1) (V i) (dss.getD i [])) ∧ Apart w.heap.size j V (fun i => dss.getD i []) ∧ Keep w wr) (fun i _ => dss.length - (intOf i).toNat)
 case atStart => exact ⟨0, fun _ => .nilIface, Nat.zero_le _, rfl, B1, fun i hi => absurd hi (Nat.not_lt_zero _), ⟨fun i hi => absurd hi (Nat.not_lt_zero _), fun i j _ hj => absurd hj (Nat.not_lt_zero _)⟩, hk1⟩
 case round =>
  obtain ⟨j, V, hj, rfl, hB, hV, hA, hK⟩ := hrel
  clear B1 hk1
  by_cases hlt : j < dss.length
  ·
   rcases h with h | ⟨b, o, rfl, hb, hc⟩
   ·
    exfalso; rw [h] at hlt; simp at hlt
   obtain ⟨u, e0, r0⟩ := hc j hlt
   have e1 := (hK.cell hb).trans e0
   have r1 := r0.keep hK
   have hbs : b < wr.heap.size := Nat.lt_of_lt_of_le hb hK.size
   have hmj := hm j hlt
   clear hc e0 r0
   go_wp2_with fail
   refine (toD_any _ _ _ r1 hmj).mono ?_
   rintro e w2 ⟨v', rfl, o2, k2⟩
   obtain ⟨a', cap', hv'⟩ : ∃ a' cap', v' = .slice a' (dss.getD j []).length cap' := by
    obtain ⟨a', cap', h, _⟩ := o2
    exact ⟨a', _, h⟩
   generalize hlen' : (dss.getD j []).length = len' at hv'
   clear hlen'
   subst hv'
   have B2 := hB.kept k2.grownBy (by simp)
   obtain ⟨u0, q0⟩ := B2.cell hlt
   have f0 := B2.free j
   have hBl := hB.lt
   go_wp2
   go_roundw
   case rel =>
    refine ⟨j + 1, fun i => if i = j then .slice a' len' cap' else V i, by omega, by go_num, B2.set _ _, fun i hi => ?_, ⟨fun i hi hne => ?_, fun i i' hii hi' hne hne' => ?_⟩, (hK.trans k2).set (Nat.le_refl _) _ _⟩
    ·
     by_cases hij : i = j
     ·
      subst hij
      refine ⟨by simp [World.cell?_setCell_same _ _ _ q0], ?_⟩
      simp only [if_pos]
      refine (o2.kept (grown_put w2 w.heap.size i _) ?_).mono (by omega)
      by_cases h0 : dss.getD i [] = []
      ·
       exact .inl h0
      ·
       obtain ⟨g, hg, hgb, _⟩ := o2.block h0
       refine .inr (fun e => ?_)
       rw [hg] at e
       simp at e
       omega
     ·
      simp only [if_neg hij]
      obtain ⟨c1, c2⟩ := hV i (by omega)
      refine ⟨?_, ?_⟩
      ·
       rw [World.cell?_setCell_other _ _ _ _ (by intro e; apply hij; injection e with _ e2; exact e2.symm), k2.cell hBl]
       exact c1
      ·
       refine (c2.keep k2).kept (grown_put w2 w.heap.size j _) ?_
       by_cases h0 : dss.getD i [] = []
       ·
        exact .inl h0
       ·
        exact .inr (hA.1 i (by omega) h0)
    ·
     by_cases hij : i = j
     ·
      subst hij
      simp only [if_pos]
      obtain ⟨g, hg, hgb, _⟩ := o2.block hne
      intro e
      rw [hg] at e
      simp at e
      omega
     ·
      simp only [if_neg hij]
      exact hA.1 i (by omega) hne
    ·
     have hi0 : ¬ i = j := by omega
     simp only [if_neg hi0]
     by_cases hij : i' = j
     ·
      subst hij
      simp only [if_pos]
      obtain ⟨g, hg, _, hgs⟩ := (hV i (by omega)).2.block hne
      obtain ⟨g', hg', hgb', _⟩ := o2.block hne'
      rw [hg, hg']
      simp
      omega
     ·
      simp only [if_neg hij]
      exact hA.2 i i' hii (by omega) hne hne'
   case measure => simp [intOf]; omega
  ·
   obtain rfl : j = dss.length := by omega
   go_wp2
   go_ret
   exact ⟨_, rfl, ⟨_, _, rfl, .inr ⟨_, V, rfl, Nat.le_refl _, hB, fun i hi => ⟨(hV i hi).1, (hV i hi).2.mono (by omega)⟩, hA⟩⟩, hK⟩
end Go.Proofs.Ytkbkdlaknmgjpaa
