/- Gathered texts. -/
import Derived.Test.YtgakfkjjkobpiaaGreatMO
import Derived.Deep.Cut
import Derived.Deep.RegionHeld3
set_option maxRecDepth 100000
set_option maxHeartbeats 8000000
namespace Go.Proofs.YtgakfkjjkobpiaaGreat
open Go.ChangeShapes Go.WideShapes Go.ChangeAt Go.RowKit
open Go.RowKit
theorem Dr.newE {w W wr : World} {B c : Nat} (h : Dr W wr B c) (k : Keep w W) (hc : w.heap.size ≤ c) : Keep w wr := k.grown h.2 (fun j hj => by simp at hj; omega)
theorem RdB.upB {w w' : World} {a : Option Addr} {zs : List Int} (h : RdB w w.heap.size a zs) (k : Keep w w') : RdB w' w'.heap.size a zs := by
  refine ⟨h.1, ?_⟩
  rcases h.2 with h | ⟨b, off, ha, hb, _, hc⟩
  · exact .inl h
  · exact .inr ⟨b, off, ha, Nat.lt_of_lt_of_le hb k.size, Nat.lt_of_lt_of_le hb k.size, fun i hi => ⟨(k.cell hb).trans (hc i hi).1, (hc i hi).2⟩⟩
theorem results_row_two {P : Program} {fn : Func} {p u q : Tmp} {ty : TypeId} (h : fn.results = #[.cell p ty, .tmp u, .tmp q]) (tmps : Array Value) (w : World) (g : Nat) (t : TypeId) (cs : Array Value) (fr : Nat × Nat) (d : TypeDesc) (x y : Value)
    (hp : tmps.getD p undef = .pointer (some ⟨g, 0, none⟩)) (hg : w.heap[g]? = some (.cells cs t fr)) (hx : tmps.getD u undef = x) (hy : tmps.getD q undef = y)
    (hu : P.underlying ty = some d) (hd : (match d with | .struct _ | .array _ _ => true | _ => false) = true) (hi : (P.info? ty).map (·.size) = some cs.size) :
    (results fn tmps).run P w = .ok (.tuple #[.agg cs, x, y]) w := by
  have hp' : tmps[p]?.getD undef = .pointer (some ⟨g, 0, none⟩) := by simpa using hp
  have hx' : tmps[u]?.getD undef = x := by simpa using hx
  have hy' : tmps[q]?.getD undef = y := by simpa using hy
  simp [results, h, hp', hx', hy', asAddr, run_loadVar_row w g t ty cs fr d hg hu hd hi, Result.andThen]
theorem drawReading_any (w : World) (a : Option Addr) (cap : Nat) (zs : List Int) (hb : RdB w w.heap.size a zs) :
    Calls Tryz.prog 9 #[.slice a zs.length cap] w fun e w' => ∃ bv dss b, ∃ p q : Int, e = .returned (.tuple #[BV.agg bv, .int .i64 p, .int .i64 q]) ∧ Fixed (w.heap.size + 1) w' bv dss b ∧ (SzBd dss b ∧ LowB b) ∧ (-1 ≤ p ∧ p ≤ 3 ∧ -1 ≤ q ∧ q ≤ 3) ∧ Keep w w' := by
  have k0 : Keep w (w.alloc (.cells #[nilS, nilS, nilS, nilS, nilS, nilS, nilS, nilS] 30)) := (Keep.refl w).alloc _
  have s0 : (w.alloc (.cells #[nilS, nilS, nilS, nilS, nilS, nilS, nilS, nilS] 30)).heap.size = w.heap.size + 1 := heap_size _ _
  have H0 : (w.alloc (.cells #[nilS, nilS, nilS, nilS, nilS, nilS, nilS, nilS] 30)).heap[w.heap.size]? = some (.cells #[nilS, nilS, nilS, nilS, nilS, nilS, nilS, nilS] 30 (0, 0)) := heap_alloc_new w _
  go_enter Tryz.func9, Tryz.ntmps9
  go_wp2_with fail
  refine (new_any _ a cap zs (RdB.upB hb k0)).mono ?_
  rintro e w1 ⟨rfl, c1, k1⟩
  have hR1 := (Below.block k1 w.heap.size (by omega)).trans H0
  have s1 := k1.size
  have z1 := c1.lt
  have y1 := c1.1
  rw [s0] at c1 s1 z1 y1
  go_wp2_with fail
  refine (l14DrawAny_any _ _ _ c1).mono ?_
  rintro e w2 ⟨bv, dss, b, rfl, fx, hz, D2⟩
  have K2 : Keep w w2 := D2.newE (k0.trans k1) (by omega)
  have hR2 := (D2.2.block w.heap.size (by omega) (fun e => by have := Option.some.inj e; omega)).trans hR1
  have f2 := fx.mono (show w.heap.size + 2 ≤ w1.heap.size + 1 by omega)
  have cu2 := D2.1
  have zc := D2.2.size
  obtain ⟨aW, aP, aL, aN, aX, aT, aF, aR, cW, cP, cL, cN', cX, cT, cF, cR, rfl⟩ := fx.rd.shapes
  clear fx c1 k1 k0 H0 hR1 D2
  go_upto_region 3 with fail
  obtain ⟨w3, hw3⟩ : ∃ W : World, W = w2.alloc (.cells #[.slice aW dss.length cW, .slice aP b.plc.length cP, .slice aL b.lst.length cL, .slice aN b.nts.length cN', .slice aX b.nxt.length cX, .slice aT b.sn.length cT, .slice aF b.fr.length cF, .slice aR b.rws.length cR] 30) := ⟨_, rfl⟩
  have k3 : Keep w2 w3 := by rw [hw3]; exact (Keep.refl w2).alloc _
  have hD3 : w3.heap[w2.heap.size]? = some (.cells #[.slice aW dss.length cW, .slice aP b.plc.length cP, .slice aL b.lst.length cL, .slice aN b.nts.length cN', .slice aX b.nxt.length cX, .slice aT b.sn.length cT, .slice aF b.fr.length cF, .slice aR b.rws.length cR] 30 (0, 0)) := by rw [hw3]; exact heap_alloc_new _ _
  have y3 : w2.heap.size < w3.heap.size := by rw [hw3, heap_size]; omega
  rw [← hw3]
  clear hw3
  have K3 := K2.trans k3
  have hR3 := (Below.block k3 w.heap.size (by omega)).trans hR2
  have f3 := f2.on (LowCh.keep k3)
  have cu3 := cu2.keep k3
  have zD : w.heap.size + 1 < w2.heap.size := by omega
  generalize w2.heap.size = D at *
  clear k3 cu2 f2 hR2 K2
  go_wp2_with fail
  refine (from_any _ _ _ (-1) 3 cu3 (by omega) (by omega) (by omega)).mono ?_
  rintro e w4 ⟨p, rfl, p0, p1, cu4, g4⟩
  have K4 := K3.grown g4 (fun k hk => by have := Option.some.inj hk; omega)
  have hR4 := (g4.block w.heap.size (by omega) (fun e => by have := Option.some.inj e; omega)).trans hR3
  have hD4 := (g4.block D y3 (fun e => by have := Option.some.inj e; omega)).trans hD3
  have f4 := f3.on (LowCh.grown g4 (by omega))
  have z4 := g4.size
  clear K3 hR3 hD3 f3 cu3 g4
  go_upto_region 4 with fail
  have x0 : w4.cell? ⟨D, 0, none⟩ = some (.slice aW dss.length cW) := by rw [cell_of_row w4 _ 0 _ _ _ hD4]; rfl
  have x1 : w4.cell? ⟨D, 1, none⟩ = some (.slice aP b.plc.length cP) := by rw [cell_of_row w4 _ 1 _ _ _ hD4]; rfl
  have x2 : w4.cell? ⟨D, 2, none⟩ = some (.slice aL b.lst.length cL) := by rw [cell_of_row w4 _ 2 _ _ _ hD4]; rfl
  have x3 : w4.cell? ⟨D, 3, none⟩ = some (.slice aN b.nts.length cN') := by rw [cell_of_row w4 _ 3 _ _ _ hD4]; rfl
  have x4 : w4.cell? ⟨D, 4, none⟩ = some (.slice aX b.nxt.length cX) := by rw [cell_of_row w4 _ 4 _ _ _ hD4]; rfl
  have x5 : w4.cell? ⟨D, 5, none⟩ = some (.slice aT b.sn.length cT) := by rw [cell_of_row w4 _ 5 _ _ _ hD4]; rfl
  have x6 : w4.cell? ⟨D, 6, none⟩ = some (.slice aF b.fr.length cF) := by rw [cell_of_row w4 _ 6 _ _ _ hD4]; rfl
  have x7 : w4.cell? ⟨D, 7, none⟩ = some (.slice aR b.rws.length cR) := by rw [cell_of_row w4 _ 7 _ _ _ hD4]; rfl
  refine wp_region_held_drew (S := (fun w' => w'.cell? ⟨D, 0, none⟩ = some (.slice aW dss.length cW) ∧ w'.cell? ⟨D, 1, none⟩ = some (.slice aP b.plc.length cP) ∧ w'.cell? ⟨D, 2, none⟩ = some (.slice aL b.lst.length cL) ∧ w'.cell? ⟨D, 3, none⟩ = some (.slice aN b.nts.length cN') ∧ w'.cell? ⟨D, 4, none⟩ = some (.slice aX b.nxt.length cX) ∧ w'.cell? ⟨D, 5, none⟩ = some (.slice aT b.sn.length cT) ∧ w'.cell? ⟨D, 6, none⟩ = some (.slice aF b.fr.length cF) ∧ w'.cell? ⟨D, 7, none⟩ = some (.slice aR b.rws.length cR))) (by kernel_rfl) ?_ (fun hHeld => ?_)
  · exact ⟨x0, x1, x2, x3, x4, x5, x6, x7⟩
  refine takeH 0 14 (v := ?_) rfl rfl (by kernel_rfl) (by kernel_rfl) (by kernel_rfl) (fun _ _ _ h => h) (by rfl) ?_ (by assumption) ?_
  rotate_left
  · intro wx hSw
    try dsimp only at hSw
    go_simp
    with_reducible rfl
  simp only [Act.put, List.setIfInBounds_toArray, List.set_cons_zero, List.set_cons_succ]
  refine takeH 1 15 (v := ?_) rfl rfl (by kernel_rfl) (by kernel_rfl) (by kernel_rfl) (fun _ _ _ h => h) (by rfl) ?_ (by assumption) ?_
  rotate_left
  · intro wx hSw
    try dsimp only at hSw
    go_simp
    with_reducible rfl
  simp only [Act.put, List.setIfInBounds_toArray, List.set_cons_zero, List.set_cons_succ]
  refine takeH 2 16 (v := ?_) rfl rfl (by kernel_rfl) (by kernel_rfl) (by kernel_rfl) (fun _ _ _ h => h) (by rfl) ?_ (by assumption) ?_
  rotate_left
  · intro wx hSw
    try dsimp only at hSw
    go_simp
    with_reducible rfl
  simp only [Act.put, List.setIfInBounds_toArray, List.set_cons_zero, List.set_cons_succ]
  refine wpAnyH_ready (rs := [3]) (by kernel_rfl) (by simp) ?_
  refine AllReadyH.cons rfl (fun K hK => ?_) AllReadyH.nil
  go_simp
  refine (from_any _ _ _ (-1) 3 (cu4.keep (Keep.refl w4).drew) (by omega) (by omega) (by omega)).mono ?_
  rintro e w5 ⟨q, rfl, q0, q1, cu5, g5⟩
  have K5 := (K4.trans (Keep.refl w4).drew).grown g5 (fun k hk => by have := Option.some.inj hk; omega)
  have hR5 := (g5.block w.heap.size (by show w.heap.size < w4.heap.size; omega) (fun e => by have := Option.some.inj e; omega)).trans hR4
  have hD5 := (g5.block D (by show D < w4.heap.size; omega) (fun e => by have := Option.some.inj e; omega)).trans hD4
  have f5 := (f4.on (LowCh.keep (Keep.refl w4).drew)).on (LowCh.grown g5 (by omega))
  have zD5 : D < w5.heap.size := Nat.lt_of_lt_of_le (show D < w4.heap.size by omega) g5.size
  have v0 : w5.cell? ⟨D, 0, none⟩ = some (.slice aW dss.length cW) := by rw [cell_of_row w5 _ 0 _ _ _ hD5]; rfl
  have v1 : w5.cell? ⟨D, 1, none⟩ = some (.slice aP b.plc.length cP) := by rw [cell_of_row w5 _ 1 _ _ _ hD5]; rfl
  have v2 : w5.cell? ⟨D, 2, none⟩ = some (.slice aL b.lst.length cL) := by rw [cell_of_row w5 _ 2 _ _ _ hD5]; rfl
  have v3 : w5.cell? ⟨D, 3, none⟩ = some (.slice aN b.nts.length cN') := by rw [cell_of_row w5 _ 3 _ _ _ hD5]; rfl
  have v4 : w5.cell? ⟨D, 4, none⟩ = some (.slice aX b.nxt.length cX) := by rw [cell_of_row w5 _ 4 _ _ _ hD5]; rfl
  have v5 : w5.cell? ⟨D, 5, none⟩ = some (.slice aT b.sn.length cT) := by rw [cell_of_row w5 _ 5 _ _ _ hD5]; rfl
  have v6 : w5.cell? ⟨D, 6, none⟩ = some (.slice aF b.fr.length cF) := by rw [cell_of_row w5 _ 6 _ _ _ hD5]; rfl
  have v7 : w5.cell? ⟨D, 7, none⟩ = some (.slice aR b.rws.length cR) := by rw [cell_of_row w5 _ 7 _ _ _ hD5]; rfl
  go_wp2_with fail
  refine hK.out _ _ ?_ (fun hHeld => ?_)
  · exact ⟨v0, v1, v2, v3, v4, v5, v6, v7⟩
  clear hK K
  have HG := Lib.hid (grown_row3 w5 w.heap.size #[.slice aW dss.length cW, .slice aP b.plc.length cP, .slice aL b.lst.length cL, .slice aN b.nts.length cN', .slice aX b.nxt.length cX, .slice aT b.sn.length cT, .slice aF b.fr.length cF, .slice aR b.rws.length cR])
  have HZ := Lib.hid (setRow_heap w5 w.heap.size _ #[.slice aW dss.length cW, .slice aP b.plc.length cP, .slice aL b.lst.length cL, .slice aN b.nts.length cN', .slice aX b.nxt.length cX, .slice aT b.sn.length cT, .slice aF b.fr.length cF, .slice aR b.rws.length cR] _ _ hR5)
  have HF := Lib.hid ((f5.on (LowCh.grown HG.out (by omega))).mono (show w.heap.size + 1 ≤ w.heap.size + 2 by omega))
  have HK := Lib.hid (K5.grown HG.out (fun k hk => by have := Option.some.inj hk; omega))
  refine wpAnyH_ready (rs := [4]) (by kernel_rfl) (by simp) ?_
  refine AllReadyH.cons rfl (fun K hK => ?_) AllReadyH.nil
  rw [if_pos (by simp [Region.wanted])]
  refine wp_store_row 30 _ _ rfl w.heap.size _ rfl rfl 30 _ hR5 board_info rfl (by simp [Value.oneCell']) ?_
  refine hK.out _ _ ?_ (fun hHeld => ?_)
  · exact ⟨(World.cell?_of_block (HG.out.block D zD5 (fun e => by have := Option.some.inj e; omega))).trans v0, (World.cell?_of_block (HG.out.block D zD5 (fun e => by have := Option.some.inj e; omega))).trans v1, (World.cell?_of_block (HG.out.block D zD5 (fun e => by have := Option.some.inj e; omega))).trans v2, (World.cell?_of_block (HG.out.block D zD5 (fun e => by have := Option.some.inj e; omega))).trans v3, (World.cell?_of_block (HG.out.block D zD5 (fun e => by have := Option.some.inj e; omega))).trans v4, (World.cell?_of_block (HG.out.block D zD5 (fun e => by have := Option.some.inj e; omega))).trans v5, (World.cell?_of_block (HG.out.block D zD5 (fun e => by have := Option.some.inj e; omega))).trans v6, (World.cell?_of_block (HG.out.block D zD5 (fun e => by have := Option.some.inj e; omega))).trans v7⟩
  clear hK K
  simp only [Act.put]
  refine takeH 5 3 (v := ?_) rfl rfl (by kernel_rfl) (by kernel_rfl) (by kernel_rfl) (fun _ _ _ h => h) (by rfl) ?_ (by assumption) ?_
  rotate_left
  · intro wx hSw
    try dsimp only at hSw
    go_simp
    with_reducible rfl
  simp only [Act.put, List.setIfInBounds_toArray]
  refine takeH 6 4 (v := ?_) rfl rfl (by kernel_rfl) (by kernel_rfl) (by kernel_rfl) (fun _ _ _ h => h) (by rfl) ?_ (by assumption) ?_
  rotate_left
  · intro wx hSw
    try dsimp only at hSw
    go_simp
    with_reducible rfl
  simp only [Act.put]
  refine wpAnyH_done (by kernel_rfl) ?_ _
  clear f5 K5 hR5 hD5 v0 v1 v2 v3 v4 v5 v6 v7 g5 cu5
  go_wp2_with fail
  refine bodyPost_ret (results_row_two (by rfl) _ _ w.heap.size _ _ (0, 0) _ (.int .i64 p) (.int .i64 q) rfl HZ.out rfl rfl Tryz.underlying30 rfl board_info) rfl ?_
  exact ⟨⟨.slice aW dss.length cW, .slice aP b.plc.length cP, .slice aL b.lst.length cL, .slice aN b.nts.length cN', .slice aX b.nxt.length cX, .slice aT b.sn.length cT, .slice aF b.fr.length cF, .slice aR b.rws.length cR⟩, dss, b, p, q, rfl, HF.out, hz, ⟨p0, p1, q0, q1⟩, HK.out⟩
theorem drawWork_any (w : World) (a : Option Addr) (cap : Nat) (zs : List Int) (hb : RdB w w.heap.size a zs) :
    Calls Tryz.prog 33 #[.slice a zs.length cap] w fun e w' => ∃ v dss, e = .returned v ∧ RdW w' v dss ∧ (dss.length ≤ 6 ∧ ∀ i, i < dss.length → (dss.getD i []).length ≤ 7) ∧ Keep w w' := by
  go_enter Tryz.func33, Tryz.ntmps33
  go_wp2_with fail
  refine (new_any _ a cap zs hb).mono ?_
  rintro e w1 ⟨rfl, c1, k1⟩
  go_wp2_with fail
  refine (l5DrawAny_any _ _ _ c1).mono ?_
  rintro e w2 ⟨v, dss, rfl, hR, hs, D2⟩
  have K2 := D2.newE k1 (Nat.le_refl _)
  have HR := Lib.hid hR.rd
  have HS := Lib.hid hs
  clear hR hs D2
  go_wp2
  go_ret
  exact ⟨_, _, rfl, HR.out, HS.out, K2⟩
theorem drawBoard_any (w : World) (a : Option Addr) (cap : Nat) (zs : List Int) (hb : RdB w w.heap.size a zs) :
    Calls Tryz.prog 44 #[.slice a zs.length cap] w fun e w' => ∃ bv dss b, e = .returned (BV.agg bv) ∧ Fixed (w.heap.size + 1) w' bv dss b ∧ (SzBd dss b ∧ LowB b) ∧ Keep w w' := by
  have k0 : Keep w (w.alloc (.cells #[nilS, nilS, nilS, nilS, nilS, nilS, nilS, nilS] 30)) := (Keep.refl w).alloc _
  have s0 : (w.alloc (.cells #[nilS, nilS, nilS, nilS, nilS, nilS, nilS, nilS] 30)).heap.size = w.heap.size + 1 := heap_size _ _
  have H0 : (w.alloc (.cells #[nilS, nilS, nilS, nilS, nilS, nilS, nilS, nilS] 30)).heap[w.heap.size]? = some (.cells #[nilS, nilS, nilS, nilS, nilS, nilS, nilS, nilS] 30 (0, 0)) := heap_alloc_new w _
  go_enter Tryz.func44, Tryz.ntmps44
  go_wp2_with fail
  refine (new_any _ a cap zs (RdB.upB hb k0)).mono ?_
  rintro e w1 ⟨rfl, c1, k1⟩
  have hR1 := (Below.block k1 w.heap.size (by omega)).trans H0
  have s1 := k1.size
  have z1 := c1.lt
  have y1 := c1.1
  rw [s0] at c1 s1 z1 y1
  go_wp2_with fail
  refine (l14DrawAny_any _ _ _ c1).mono ?_
  rintro e w2 ⟨bv, dss, b, rfl, fx, hz, D2⟩
  have K2 : Keep w w2 := D2.newE (k0.trans k1) (by omega)
  have hR2 := (D2.2.block w.heap.size (by omega) (fun e => by have := Option.some.inj e; omega)).trans hR1
  obtain ⟨aW, aP, aL, aN, aX, aT, aF, aR, cW, cP, cL, cN', cX, cT, cF, cR, rfl⟩ := fx.rd.shapes
  have HG := Lib.hid (grown_row3 w2 w.heap.size #[.slice aW dss.length cW, .slice aP b.plc.length cP, .slice aL b.lst.length cL, .slice aN b.nts.length cN', .slice aX b.nxt.length cX, .slice aT b.sn.length cT, .slice aF b.fr.length cF, .slice aR b.rws.length cR])
  have HZ := Lib.hid (setRow_heap w2 w.heap.size _ #[.slice aW dss.length cW, .slice aP b.plc.length cP, .slice aL b.lst.length cL, .slice aN b.nts.length cN', .slice aX b.nxt.length cX, .slice aT b.sn.length cT, .slice aF b.fr.length cF, .slice aR b.rws.length cR] _ _ hR2)
  have HF := Lib.hid ((fx.mono (show w.heap.size + 1 ≤ w1.heap.size + 1 by omega)).on (LowCh.grown HG.out (by omega)))
  have HK := Lib.hid (K2.grown HG.out (fun k hk => by have := Option.some.inj hk; omega))
  clear fx K2 D2 c1 k1 k0 H0 hR1
  go_wp2_with (first | refine wpList_store_row rfl 30 _ _ rfl w.heap.size _ rfl rfl 30 _ hR2 board_info rfl (by simp [Value.oneCell']) ?_ | fail)
  refine bodyPost_ret (results_row (by rfl) _ _ w.heap.size _ _ (0, 0) _ rfl HZ.out Tryz.underlying30 rfl board_info) rfl ?_
  exact ⟨⟨.slice aW dss.length cW, .slice aP b.plc.length cP, .slice aL b.lst.length cL, .slice aN b.nts.length cN', .slice aX b.nxt.length cX, .slice aT b.sn.length cT, .slice aF b.fr.length cF, .slice aR b.rws.length cR⟩, dss, b, rfl, HF.out, hz, HK.out⟩
theorem drawEnded_any (w : World) (a : Option Addr) (cap : Nat) (zs : List Int) (hb : RdB w w.heap.size a zs) :
    Calls Tryz.prog 11 #[.slice a zs.length cap] w fun e w' => ∃ bv dss b, e = .returned (BV.agg bv) ∧ Fixed (w.heap.size + 1) w' bv dss b ∧ (SzBd dss b ∧ LowB b) ∧ Keep w w' := by
  have k0 : Keep w (w.alloc (.cells #[nilS, nilS, nilS, nilS, nilS, nilS, nilS, nilS] 30)) := (Keep.refl w).alloc _
  have s0 : (w.alloc (.cells #[nilS, nilS, nilS, nilS, nilS, nilS, nilS, nilS] 30)).heap.size = w.heap.size + 1 := heap_size _ _
  have H0 : (w.alloc (.cells #[nilS, nilS, nilS, nilS, nilS, nilS, nilS, nilS] 30)).heap[w.heap.size]? = some (.cells #[nilS, nilS, nilS, nilS, nilS, nilS, nilS, nilS] 30 (0, 0)) := heap_alloc_new w _
  go_enter Tryz.func11, Tryz.ntmps11
  go_wp2_with fail
  refine (drawBoard_any _ a cap zs (RdB.upB hb k0)).mono ?_
  rintro e w2 ⟨bv, dss, b, rfl, fx, hz, k2⟩
  have hR2 := (Below.block k2 w.heap.size (by omega)).trans H0
  obtain ⟨aW, aP, aL, aN, aX, aT, aF, aR, cW, cP, cL, cN', cX, cT, cF, cR, rfl⟩ := fx.rd.shapes
  have HG := Lib.hid (grown_row3 w2 w.heap.size #[.slice aW dss.length cW, .slice aP b.plc.length cP, .slice aL b.lst.length cL, .slice aN b.nts.length cN', .slice aX b.nxt.length cX, .slice aT b.sn.length cT, .slice aF b.fr.length cF, .slice aR b.rws.length cR])
  have HZ := Lib.hid (setRow_heap w2 w.heap.size _ #[.slice aW dss.length cW, .slice aP b.plc.length cP, .slice aL b.lst.length cL, .slice aN b.nts.length cN', .slice aX b.nxt.length cX, .slice aT b.sn.length cT, .slice aF b.fr.length cF, .slice aR b.rws.length cR] _ _ hR2)
  have HF := Lib.hid ((fx.mono (show w.heap.size + 1 ≤ (w.alloc (.cells #[nilS, nilS, nilS, nilS, nilS, nilS, nilS, nilS] 30)).heap.size + 1 by omega)).on (LowCh.grown HG.out (by omega)))
  have HK := Lib.hid ((k0.trans k2).grown HG.out (fun k hk => by have := Option.some.inj hk; omega))
  clear fx k2 k0 H0
  go_wp2_with (first | refine wpList_store_row rfl 30 _ _ rfl w.heap.size _ rfl rfl 30 _ hR2 board_info rfl (by simp [Value.oneCell']) ?_ | fail)
  refine bodyPost_ret (results_row (by rfl) _ _ w.heap.size _ _ (0, 0) _ rfl HZ.out Tryz.underlying30 rfl board_info) rfl ?_
  exact ⟨⟨.slice aW dss.length cW, .slice aP b.plc.length cP, .slice aL b.lst.length cL, .slice aN b.nts.length cN', .slice aX b.nxt.length cX, .slice aT b.sn.length cT, .slice aF b.fr.length cF, .slice aR b.rws.length cR⟩, dss, b, rfl, HF.out, hz, HK.out⟩
theorem drawNewB_any (w : World) (a : Option Addr) (cap : Nat) (zs : List Int) (hb : RdB w w.heap.size a zs) :
    Calls Tryz.prog 7 #[.slice a zs.length cap] w fun e w' => ∃ v dss, e = .returned v ∧ RdW w' v dss ∧ (dss.length ≤ 6 ∧ ∀ i, i < dss.length → (dss.getD i []).length ≤ 7) ∧ Keep w w' := by
  go_enter Tryz.func7, Tryz.ntmps7
  go_wp2_with fail
  refine (drawWork_any _ a cap zs hb).mono ?_
  rintro e w1 ⟨v, dss, rfl, hR, hs, k1⟩
  have HR := Lib.hid hR
  have HS := Lib.hid hs
  clear hR hs
  go_wp2
  go_ret
  exact ⟨_, _, rfl, HR.out, HS.out, k1⟩
def lastN (p : Int) (d : Int × Int) (ns : List Nt) : Nat → Int × Int
  | 0 => d
  | k + 1 => if (ns.getD k (0, 0, 0)).1 = p then (ns.getD k (0, 0, 0)).2 else lastN p d ns k
theorem lastN_find (p : Int) (d : Int × Int) (ns : List Nt) : ∀ k, k ≤ ns.length → lastN p d ns k = (match (ns.take k).reverse.find? (fun x => x.1 == p) with | some x => x.2 | none => d)
  | 0, _ => by simp [lastN]
  | k + 1, h => by
    have hk : k < ns.length := h
    have e : ns.take (k + 1) = ns.take k ++ [ns.getD k (0, 0, 0)] := by
      rw [List.take_succ_eq_append_getElem hk, List.getD_eq_getElem?_getD, List.getElem?_eq_getElem hk]; rfl
    rw [lastN, e, List.reverse_append, List.reverse_singleton, List.singleton_append, List.find?_cons]
    have ih := lastN_find p d ns k (by omega)
    generalize ns.getD k (0, 0, 0) = x at *
    by_cases hp : x.1 = p
    · have hq : (x.1 == p) = true := by simp [hp]
      rw [if_pos hp, hq]
    · have hq : (x.1 == p) = false := by simp [hp]
      rw [if_neg hp, hq, ih]
theorem lastN_ge {p : Int} {d : Int × Int} {ns : List Nt} (hd : 0 ≤ d.1) (hn : ∀ k, k < ns.length → 0 ≤ (ns.getD k (0, 0, 0)).2.1) : ∀ k, k ≤ ns.length → 0 ≤ (lastN p d ns k).1
  | 0, _ => hd
  | k + 1, h => by
    rw [lastN]
    split
    · exact hn k h
    · exact lastN_ge hd hn k (by omega)
theorem rdg_last {b : Bd} {c p : Nat} : rdgM b c p = lastN (p : Int) (b.plc.getD p 0, b.lst.getD p 0) (b.nts.getD c []) (b.nts.getD c []).length := by
  rw [lastN_find _ _ _ _ (Nat.le_refl _), List.take_length]
  rfl
theorem rdg_ge {dss : List (List Dd)} {b : Bd} (hb : boardB dss b = true) {c p : Nat} (hc : c < dss.length) (hp : p ≤ 2) : 0 ≤ (rdgM b c p).1 := by
  have hq := hb
  unfold boardB shapeB fillB at hq
  simp only [Bool.and_eq_true, decide_eq_true_eq] at hq
  obtain ⟨⟨_, h3, _⟩, ⟨_, _, hP, _⟩, _, hC⟩ := hq
  have hck := List.all_eq_true.1 hC c (List.mem_range.2 hc)
  unfold ckB ntsB at hck
  simp only [Bool.and_eq_true, decide_eq_true_eq] at hck
  unfold allB at hP
  simp only [Bool.and_eq_true] at hP
  rw [rdg_last]
  refine lastN_ge ?_ (fun k hk => ?_) _ (Nat.le_refl _)
  · have hpl : p < b.plc.length := by omega
    have := List.all_eq_true.1 hP.1 (b.plc.getD p 0) (by rw [List.getD_eq_getElem?_getD, List.getElem?_eq_getElem hpl]; exact List.getElem_mem hpl)
    simp only [Bool.and_eq_true, decide_eq_true_eq] at this
    exact this.1
  · have := List.all_eq_true.1 hck.2.2 ((b.nts.getD c []).getD k (0, 0, 0)) (by rw [List.getD_eq_getElem?_getD (l := b.nts.getD c []), List.getElem?_eq_getElem hk]; exact List.getElem_mem hk)
    unfold ntB at this
    simp only [Bool.and_eq_true, decide_eq_true_eq] at this
    exact this.2.1.1
theorem rdg_none {dss : List (List Dd)} {b : Bd} {c p : Int} (h : (rdgB dss b c p).1 < 0) : boardB dss b = false ∨ c < 0 ∨ (dss.length : Int) ≤ c ∨ p < 0 ∨ 2 < p := by
  by_cases hh : boardB dss b = true ∧ 0 ≤ c ∧ c < (dss.length : Int) ∧ 0 ≤ p ∧ p ≤ 2
  · rw [rdgB, if_pos hh] at h
    have := rdg_ge hh.1 (c := c.toNat) (p := p.toNat) (by omega) (by omega)
    omega
  · cases hb : boardB dss b with
    | false => exact .inl rfl
    | true => exact .inr (by simp only [hb, true_and] at hh; omega)
theorem rdg_some {dss : List (List Dd)} {b : Bd} {c p : Int} (h : ¬ (rdgB dss b c p).1 < 0) : boardB dss b = true ∧ 0 ≤ c ∧ c < (dss.length : Int) ∧ 0 ≤ p ∧ p ≤ 2 ∧ rdgB dss b c p = rdgM b c.toNat p.toNat := by
  by_cases hh : boardB dss b = true ∧ 0 ≤ c ∧ c < (dss.length : Int) ∧ 0 ≤ p ∧ p ≤ 2
  · exact ⟨hh.1, hh.2.1, hh.2.2.1, hh.2.2.2.1, hh.2.2.2.2, by rw [rdgB, if_pos hh]⟩
  · rw [rdgB, if_neg hh] at h
    exact absurd (show (-1 : Int) < 0 by omega) h
theorem shown_len {dss : List (List Dd)} {b : Bd} (_ : SzBd dss b) : (shownB dss b).length ≤ 1048576 := by
  unfold shownB
  cases h : boardB dss b with
  | false => simp
  | true =>
    obtain ⟨h1, h2, h3, h4, h5, h6, h7, h8, h9, h10⟩ := board_all h
    simp
    omega
end Go.Proofs.YtgakfkjjkobpiaaGreat
