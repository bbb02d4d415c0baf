/- Gathered texts. -/
import Derived.Test.YtgakfkjjkobpiaaML
import Derived.Deep.RegionHeld3
import Derived.Deep.AppendLies
import Derived.BigRegion
import Derived.RegionTactic
import Derived.Lib.Hide
import Derived.Outline
set_option maxRecDepth 100000
set_option maxHeartbeats 8000000
namespace Go.Proofs.Ytgakfkjjkobpiaa
open Go.ChangeShapes Go.WideShapes Go.ChangeAt Go.RowKit
theorem Try.infoN : (Try.prog.info? 66).map (fun i => (i.zero, i.size, i.bytes)) = some (some (.agg #[.int .i64 0, .int .i64 0, .int .i64 0]), 3, 24) := by kernel_rfl
theorem l15Deed_any (w : World) (m D : Nat) (v : BV) (nv rv : List Value) (bs N : Nat) (dss : List (List Dd)) (b : Bd) (n c k : Nat) (h : OwnBd w m D v nv rv bs N dss b) (S : Shp dss b n) (hn : n ≤ 1000) (hc : c < dss.length) (hk : k < (dss.getD c []).length) :
    Calls Try.prog 82 #[.pointer (some ⟨D, 0, none⟩), .int .i64 c, .int .i64 k] w fun e w' => e = .returned (.tuple #[]) ∧ ∃ nv' rv', OwnBd w' m D v nv' rv' bs N dss (deedM dss (eventsB dss) b c k) ∧ TurnB w w' (blkB D v nv rv) (blkB D v nv' rv') := by
  have hb0 := S.work
  obtain ⟨u1, u2⟩ := workB_useR hb0
  have eB : eventsB dss = evsW dss dss.length := by rw [eventsB, if_pos hb0]
  have h12 : (evsW dss dss.length).length ≤ 12 := (events_law hb0).1
  have hok : okD ((dss.getD c []).getD k zD) = true := okC_of hb0 hc k hk
  have HDM : Hid (deedM dss (eventsB dss) b c k = deedM dss (evsW dss dss.length) b c k) := Lib.hid (by rw [eB])
  have S' := S
  have hsn := S.sn
  have hfr := S.fr
  rw [eB] at hsn hfr
  have hbase := h.base
  obtain ⟨vW, vP, vL, vN, vX, vS, vF, vR⟩ := v
  have W0 := h.work.rd
  obtain ⟨aW, cW, eW, hW⟩ := id W0
  simp only at eW
  subst eW
  rcases hW with h0 | ⟨bw, ow, rfl, hbw, hcw⟩
  · exfalso; rw [h0] at hc; simp at hc
  obtain ⟨vd, d1, r1⟩ := hcw c hc
  obtain ⟨ad, cd, rfl, r1⟩ := r1
  rcases r1 with h0 | ⟨bd, od, rfl, hbd, hcd⟩
  · exfalso; rw [h0] at hk; simp at hk
  obtain ⟨q0, q1, q2, q3⟩ := hcd k hk
  have HD : Hid (dAt dss c k = (dss.getD c []).getD k zD) := Lib.hid rfl
  obtain ⟨ds, hds⟩ : ∃ ds, ds = dss.getD c [] := ⟨_, rfl⟩
  rw [← hds] at d1 HD hk q0 q1 q2 q3 hok
  clear hds
  generalize ds.getD k zD = y at q0 q1 q2 q3 HD hok
  obtain ⟨y0, y1, y2, y3⟩ := y
  simp only at q0 q1 q2 q3
  have c0 : w.cell? ⟨D, 0, none⟩ = some (.slice (some ⟨bw, ow, none⟩) dss.length cW) := h.cells.1
  have i1 : (0 : Int) ≤ (c : Int) := Int.natCast_nonneg _
  have i2 : (c : Int) < (dss.length : Int) := by omega
  have i3 : (0 : Int) ≤ (k : Int) := Int.natCast_nonneg _
  have i4 : (k : Int) < (ds.length : Int) := by omega
  clear hcw hcd
  go_enter Try.func82, Try.ntmps82
  go_upto_region 1 with fail
  obtain ⟨wD, hwD⟩ : ∃ W : World, W = w.alloc (.cells #[.int .i64 y0, .int .i64 y1, .int .i64 y2, .int .i64 y3] 98) := ⟨_, rfl⟩
  have kD : Keep w wD := by rw [hwD]; exact (Keep.refl w).alloc _
  have lD : w.heap.size < wD.heap.size := by rw [hwD, heap_size]; omega
  have BX : Hid (∀ W : World, Keep wD W → W.cell? ⟨w.heap.size, 0, none⟩ = some (.int .i64 y0) ∧ W.cell? ⟨w.heap.size, 1, none⟩ = some (.int .i64 y1) ∧ W.cell? ⟨w.heap.size, 2, none⟩ = some (.int .i64 y2) ∧ W.cell? ⟨w.heap.size, 3, none⟩ = some (.int .i64 y3)) := Lib.hid (by
    rw [hwD]
    exact fun W k => ⟨box_cell k 0, box_cell k 1, box_cell k 2, box_cell k 3⟩)
  rw [← hwD]
  clear hwD
  have NB : ¬ blkB D ⟨.slice (some ⟨bw, ow, none⟩) dss.length cW, vP, vL, vN, vX, vS, vF, vR⟩ nv rv w.heap.size := fun hB => by have := (h.blk _ hB).2.1; omega
  have H1 := h.keep kD
  have W1 := W0.keep kD
  have c1 := (kD.cell (b := D) (o := 0) hbase.2).trans c0
  have T1 := (TurnB.refl w (blkB D ⟨.slice (some ⟨bw, ow, none⟩) dss.length cW, vP, vL, vN, vX, vS, vF, vR⟩ nv rv)).keep kD
  clear c0 d1 q0 q1 q2 q3 h W0
  go_wp2_with fail
  refine (l6Events_any _ _ _ W1 u1 u2).mono ?_
  rintro e w1 ⟨v1, rfl, a1, k1⟩
  have re := a1.rd
  generalize evsW dss dss.length = es at *
  clear a1 c1 W1
  go_wp2_with fail
  refine (l15Event_any _ _ _ c k re h12).mono ?_
  rintro e w2 ⟨rfl, k2⟩
  have K2 := k1.trans k2
  have H2 := H1.keep K2
  have T2 := T1.keep K2
  replace re := re.keep k2
  obtain ⟨g0, g1, g2, g3⟩ := BX.out _ K2
  have l2 : w.heap.size < w2.heap.size := Nat.lt_of_lt_of_le lD K2.size
  have hbD := H2.base
  have hkind : y0 = 1 ∨ y0 = 2 ∨ y0 = 3 ∨ y0 = 4 := by simp only [okD, deedB, decide_eq_true_eq] at hok; omega
  have hpl : 0 ≤ y1 ∧ y1 ≤ 2 := by simp only [okD, deedB, decide_eq_true_eq] at hok; omega
  have hgr : 0 ≤ y3 := by simp only [okD, deedB, decide_eq_true_eq] at hok; omega
  obtain ⟨p, rfl⟩ := Int.eq_ofNat_of_zero_le hpl.1
  have hp3 : p < 3 := by omega
  have HEV : Hid (∀ y : Dd, dAt dss c k = y → deedM dss es b c k = if y.1 = 1 then seeM (idxB rdE es) b (evM es c k) (rdgM b c y.2.1.toNat).1 (rdgM b c y.2.1.toNat).2
      else if y.1 = 3 then inkM (seeM (idxB rdE es) b (evM es c k) (b.plc.getD y.2.1.toNat 0) (b.lst.getD y.2.1.toNat 0)) y.2.1.toNat y.2.2.1 (evM es c k + 1)
      else if y.1 = 2 ∧ 0 < y.2.2.2 then inkM b y.2.1.toNat y.2.2.1 (evM es c k)
      else if y.1 = 2 then { b with nts := b.nts.set c (b.nts.getD c [] ++ [(y.2.1, y.2.2.1, evM es c k)]) }
      else b) := Lib.hid (fun y hy => by subst hy; rfl)
  have HEY := Lib.hid (HEV.out _ HD.out)
  simp only [Int.toNat_natCast] at HEY
  have evr : -1 ≤ evM es c k ∧ evM es c k ≤ 12 := evM_in es c k h12
  generalize evM es c k = EV at *
  clear HEV HD k1 k2 K2 H1 T1 BX hok
  rcases hkind with rfl | rfl | rfl | rfl
  ·
    have HM : Hid (deedM dss es b c k = seeM (idxB rdE es) b EV (rdgM b c p).1 (rdgM b c p).2) := Lib.hid (by rw [HEY.out, if_pos rfl])
    have CR := l14Reading_any w2.drew _ dss b c p H2.drew.rd (by rw [S.nts]; exact hc) (by rw [S.plc]; exact hp3) (by rw [S.lst]; exact hp3) (by have := S.nl c; omega)
    obtain ⟨e0, e1, e2, e3, e4, e5, e6, e7⟩ := H2.drew.cells
    simp only at e0 e1 e2 e3 e4 e5 e6 e7
    have zD : D < w2.drew.heap.size := hbD.2
    have zB : w.heap.size < w2.drew.heap.size := l2
    have g1' : w2.drew.cell? ⟨w.heap.size, 1, none⟩ = some (.int .i64 (p : Int)) := g1
    generalize rdgM b c p = RG at CR HM
    clear HEY
    go_wp2
    go_region_held3 (fun w' => w'.cell? ⟨D, 0, none⟩ = some (.slice (some ⟨bw, ow, none⟩) dss.length cW) ∧ w'.cell? ⟨D, 1, none⟩ = some vP ∧ w'.cell? ⟨D, 2, none⟩ = some vL ∧ w'.cell? ⟨D, 3, none⟩ = some vN ∧ w'.cell? ⟨D, 4, none⟩ = some vX ∧ w'.cell? ⟨D, 5, none⟩ = some vS ∧ w'.cell? ⟨D, 6, none⟩ = some vF ∧ w'.cell? ⟨D, 7, none⟩ = some vR ∧ w'.cell? ⟨w.heap.size, 1, none⟩ = some (.int .i64 (p : Int)))
      (first | go_keep | (go_split_ands; refine ⟨?_, ?_, ?_, ?_, ?_, ?_, ?_, ?_, ?_⟩ <;> (rw [kk.cell (by assumption)]; assumption)))
      ((go_at_call 107; refine CR.mono ?_; rintro e wz ⟨rfl, kk⟩))
    all_goals
      have H3 := H2.drew.keep kk
      have T3 := (T2.keep (Keep.refl w2).drew).keep kk
      have re3 := (re.keep (Keep.refl w2).drew).keep kk
      clear e0 e1 e2 e3 e4 e5 e6 e7 g0 g1 g2 g3 g1' CR
      go_wp2_with fail
      refine (l15See_any _ m D _ nv rv bs N dss b _ es EV RG.1 RG.2 H3 re3 h12 hsn hfr).mono ?_
      rintro e w4 ⟨rfl, H4, T4⟩
      go_wp2
      go_end0
      exact ⟨rfl, nv, rv, by rw [HDM.out, HM.out]; exact H4, T3.trans T4⟩
  ·
    by_cases hg : 0 < y3
    · have HM : Hid (deedM dss es b c k = inkM b p y2 EV) := Lib.hid (by rw [HEY.out, if_neg (by decide), if_neg (by decide), if_pos ⟨rfl, hg⟩])
      clear HEY
      go_wp2_with fail
      refine (l15Ink_any _ m D _ nv rv bs N dss b p y2 EV H2 (by rw [S.plc]; exact hp3) (by rw [S.lst]; exact hp3) (by rw [S.rws]; exact hp3) (by have := S.rl p; omega)).mono ?_
      rintro e w4 ⟨rfl, rv', H4, T4⟩
      go_wp2
      go_end0
      exact ⟨rfl, nv, rv', by rw [HDM.out, HM.out]; exact H4, T2.trans T4⟩
    · have HM : Hid (deedM dss es b c k = { b with nts := b.nts.set c (b.nts.getD c [] ++ [((p : Int), y2, EV)]) }) := Lib.hid (by rw [HEY.out, if_neg (by decide), if_neg (by decide), if_neg (fun h => hg h.2), if_pos rfl])
      obtain ⟨i0, hi, hz0, hz1, hz2⟩ := info_parts Try.infoN
      have hcn : c < b.nts.length := by rw [S.nts]; exact hc
      have hcv : c < nv.length := by rw [H2.ln]; exact hcn
      obtain ⟨aN, cNn, eN, hN⟩ := H2.drew.hN
      rcases hN with h0 | ⟨gn, rfl, lgn, dn⟩
      · exfalso; rw [h0] at hcn; simp at hcn
      simp only at eN
      subst eN
      have d3 := dn c hcn
      have c3 : w2.drew.cell? ⟨D, 3, none⟩ = some (.slice (some ⟨gn, 0, none⟩) b.nts.length cNn) := H2.drew.cells.2.2.2.1
      obtain ⟨au, cu, hu⟩ := (H2.oN hcn).shape
      have HU := Lib.hid hu
      rw [hu] at d3
      have H3 := (H2.keep ((Keep.refl w2).alloc (.cells #[.int .i64 (p : Int), .int .i64 y2, .int .i64 EV] 66))).drew
      have T3 := T2.keep (((Keep.refl w2).alloc (.cells #[.int .i64 (p : Int), .int .i64 y2, .int .i64 EV] 66)).drew)
      have o3 : ((w2.alloc (.cells #[.int .i64 (p : Int), .int .i64 y2, .int .i64 EV] 66)).drew).ownsRow m 66 3 (.slice au (b.nts.getD c []).length cu) (b.nts.getD c []).length ((b.nts.getD c []).flatMap cN) := by rw [← hu]; exact H3.oN hcn
      have s3 : m ≤ ((w2.alloc (.cells #[.int .i64 (p : Int), .int .i64 y2, .int .i64 EV] 66)).drew).heap.size := by have := H3.base; omega
      have nl := S.nl c
      have g1' : w2.drew.cell? ⟨w.heap.size, 1, none⟩ = some (.int .i64 (p : Int)) := g1
      have g2' : w2.drew.cell? ⟨w.heap.size, 2, none⟩ = some (.int .i64 y2) := g2
      have zD : D < w2.drew.heap.size := hbD.2
      have zB : w.heap.size < w2.drew.heap.size := l2
      have zN : gn < w2.drew.heap.size := lgn
      have zD2 : D < w2.heap.size := hbD.2
      have zN2 : gn < w2.heap.size := lgn
      have j2 : (c : Int) < (b.nts.length : Int) := by omega
      have hg0 : ¬ ((0 : Int) < y3) := hg
      obtain ⟨Z, hZ⟩ : ∃ Z, Z = b.nts.getD c [] := ⟨_, rfl⟩
      rw [← hZ] at d3 o3 nl HM HU
      clear hZ hu dn HEY
      have c3w : w2.cell? ⟨D, 3, none⟩ = some (.slice (some ⟨gn, 0, none⟩) b.nts.length cNn) := c3
      have d3w : w2.cell? ⟨gn, c, none⟩ = some (.slice au Z.length cu) := d3
      have m1 : Z.length + 1 ≤ maxLen := by unfold maxLen; omega
      have m2 : (Z.length + 1) * 24 ≤ 140737488355328 := by omega
      have d3a : (w2.alloc (.cells #[.int .i64 (p : Int), .int .i64 y2, .int .i64 EV] 66)).drew.cell? ⟨gn, c, none⟩ = some (.slice au Z.length cu) := ((((Keep.refl w2).alloc _).drew).cell zN2).trans d3
      have d3b : (w2.alloc (.cells #[.int .i64 (p : Int), .int .i64 y2, .int .i64 EV] 66)).cell? ⟨gn, c, none⟩ = some (.slice au Z.length cu) := d3a
      have ngB : gn ≠ w.heap.size := fun e => NB ⟨.nts, trivial, by show some gn = _; rw [e]⟩
      have HCC : ∀ (W : World), World.grownBy ((w2.alloc (.cells #[.int .i64 (p : Int), .int .i64 y2, .int .i64 EV] 66)).drew) W (Value.slice au Z.length cu).ownBlock → W.cell? ⟨D, 3, none⟩ = some (.slice (some ⟨gn, 0, none⟩) b.nts.length cNn) ∧ W.cell? ⟨w.heap.size, 1, none⟩ = some (.int .i64 (p : Int)) ∧ W.cell? ⟨w.heap.size, 2, none⟩ = some (.int .i64 y2) := fun W hgrow => by
        have ne : some w.heap.size ≠ (Value.slice au Z.length cu).ownBlock := fun e => NB ⟨.nt c, hcv, by show (nv.getD c nilS).ownBlock = _; rw [HU.out, ← e]⟩
        have bk := hgrow.block w.heap.size (Nat.lt_of_lt_of_le l2 (by simp)) ne
        have kA := ((Keep.refl w2).alloc (.cells #[.int .i64 (p : Int), .int .i64 y2, .int .i64 EV] 66)).drew
        exact ⟨(H3.stay (.nt c) hcv (by simp) (by show World.grownBy _ _ (nv.getD c nilS).ownBlock; rw [HU.out]; exact hgrow) 3).trans ((kA.cell hbD.2).trans c3), (World.cell?_of_block bk).trans ((kA.cell l2).trans g1), (World.cell?_of_block bk).trans ((kA.cell l2).trans g2)⟩
      have zDa : D < ((w2.alloc (.cells #[.int .i64 (p : Int), .int .i64 y2, .int .i64 EV] 66)).drew).heap.size := Nat.lt_of_lt_of_le zD2 (by simp)
      have c3a : (w2.alloc (.cells #[.int .i64 (p : Int), .int .i64 y2, .int .i64 EV] 66)).cell? ⟨D, 3, none⟩ = some (.slice (some ⟨gn, 0, none⟩) b.nts.length cNn) := (((Keep.refl w2).alloc _).cell zD2).trans c3
      have HNT : Hid (∀ (gg cap5 : Nat) (w5 : World), w5.ownsRow m 66 3 (.slice (some ⟨gg, 0, none⟩) (Z.length + 1) cap5) (Z.length + 1) (Z.flatMap cN ++ [.int .i64 (p : Int), .int .i64 y2, .int .i64 EV]) → World.grownBy ((w2.alloc (.cells #[.int .i64 (p : Int), .int .i64 y2, .int .i64 EV] 66)).drew) w5 (Value.slice au Z.length cu).ownBlock → ((Value.slice au Z.length cu).ownBlock = some gg ∨ gg = w2.heap.size + 1) →
          (w5.cell? ⟨D, 3, none⟩ = some (.slice (some ⟨gn, 0, none⟩) b.nts.length cNn) ∧ w5.cell? ⟨w.heap.size, 1, none⟩ = some (.int .i64 (p : Int)) ∧ w5.cell? ⟨w.heap.size, 2, none⟩ = some (.int .i64 y2)) ∧
          ((w5.setCell ⟨gn, c, none⟩ (.slice (some ⟨gg, 0, none⟩) (Z.length + 1) cap5)).cell? ⟨D, 3, none⟩ = some (.slice (some ⟨gn, 0, none⟩) b.nts.length cNn) ∧ (w5.setCell ⟨gn, c, none⟩ (.slice (some ⟨gg, 0, none⟩) (Z.length + 1) cap5)).cell? ⟨w.heap.size, 1, none⟩ = some (.int .i64 (p : Int)) ∧ (w5.setCell ⟨gn, c, none⟩ (.slice (some ⟨gg, 0, none⟩) (Z.length + 1) cap5)).cell? ⟨w.heap.size, 2, none⟩ = some (.int .i64 y2)) ∧
          w5.cell? ⟨gn, c, none⟩ = some (.slice au Z.length cu) ∧ w5.frozen? ⟨gn, c, none⟩ = false ∧
          ∃ nv' rv', OwnBd (w5.setCell ⟨gn, c, none⟩ (.slice (some ⟨gg, 0, none⟩) (Z.length + 1) cap5)) m D ⟨.slice (some ⟨bw, ow, none⟩) dss.length cW, vP, vL, .slice (some ⟨gn, 0, none⟩) b.nts.length cNn, vX, vS, vF, vR⟩ nv' rv' bs N dss (deedM dss (eventsB dss) b c k) ∧ TurnB w (w5.setCell ⟨gn, c, none⟩ (.slice (some ⟨gg, 0, none⟩) (Z.length + 1) cap5)) (blkB D ⟨.slice (some ⟨bw, ow, none⟩) dss.length cW, vP, vL, .slice (some ⟨gn, 0, none⟩) b.nts.length cNn, vX, vS, vF, vR⟩ nv rv) (blkB D ⟨.slice (some ⟨bw, ow, none⟩) dss.length cW, vP, vL, .slice (some ⟨gn, 0, none⟩) b.nts.length cNn, vX, vS, vF, vR⟩ nv' rv')) := Lib.hid (fun gg cap5 w5 hown5 hgrow hat => by
        have HH := H3.headN hcn (u := (.slice (some ⟨gg, 0, none⟩) (Z.length + 1) cap5)) (ns := Z ++ [((p : Int), y2, EV)]) (by rw [HU.out]; exact hgrow) (by rw [HU.out]; rcases hat with h | h; exact .inl h.symm; exact .inr (.inl (by rw [h]; simp [Value.ownBlock]))) (appT_hit hown5) rfl
        obtain ⟨HO, hcell, hfr⟩ := HH
        rw [HU.out] at hcell
        refine ⟨HCC w5 hgrow, ⟨HO.cells.2.2.2.1, (World.cell?_of_block (heap_setCell_other w5 ⟨gn, c, none⟩ w.heap.size _ (fun e => ngB e.symm))).trans (HCC w5 hgrow).2.1, (World.cell?_of_block (heap_setCell_other w5 ⟨gn, c, none⟩ w.heap.size _ (fun e => ngB e.symm))).trans (HCC w5 hgrow).2.2⟩, hcell, hfr, nv.set c (.slice (some ⟨gg, 0, none⟩) (Z.length + 1) cap5), rv, by rw [HDM.out, HM.out]; exact HO, ?_⟩
        refine ((T3.grown hgrow (fun g hg => ⟨.nt c, hcv, by show (nv.getD c nilS).ownBlock = _; rw [HU.out]; exact hg⟩)).grown (grown_set _ gn c _) (fun g hg => ⟨.nts, trivial, hg⟩)).more (fun g hg => ?_)
        rcases blk_setN hcv hg with h1 | h1
        · exact .inl h1
        · rcases hat with h2 | h2
          · exact .inl ⟨.nt c, hcv, by show (nv.getD c nilS).ownBlock = _; rw [HU.out, h2]; exact h1⟩
          · have e2 : gg = g := Option.some.inj h1
            have := T2.size
            right; omega)
      have g1a : (w2.alloc (.cells #[.int .i64 (p : Int), .int .i64 y2, .int .i64 EV] 66)).cell? ⟨w.heap.size, 1, none⟩ = some (.int .i64 (p : Int)) := (((Keep.refl w2).alloc _).cell l2).trans g1
      have HC0 : w2.drew.cell? ⟨D, 3, none⟩ = some (.slice (some ⟨gn, 0, none⟩) b.nts.length cNn) ∧ w2.drew.cell? ⟨w.heap.size, 1, none⟩ = some (.int .i64 (p : Int)) ∧ w2.drew.cell? ⟨w.heap.size, 2, none⟩ = some (.int .i64 y2) := ⟨c3, g1', g2'⟩
      have HC1 : (w2.alloc (.cells #[.int .i64 (p : Int), .int .i64 y2, .int .i64 EV] 66)).drew.cell? ⟨D, 3, none⟩ = some (.slice (some ⟨gn, 0, none⟩) b.nts.length cNn) ∧ (w2.alloc (.cells #[.int .i64 (p : Int), .int .i64 y2, .int .i64 EV] 66)).drew.cell? ⟨w.heap.size, 1, none⟩ = some (.int .i64 (p : Int)) ∧ (w2.alloc (.cells #[.int .i64 (p : Int), .int .i64 y2, .int .i64 EV] 66)).drew.cell? ⟨w.heap.size, 2, none⟩ = some (.int .i64 y2) := ⟨((((Keep.refl w2).alloc _).drew).cell zD2).trans c3, ((((Keep.refl w2).alloc _).drew).cell l2).trans g1', ((((Keep.refl w2).alloc _).drew).cell l2).trans g2'⟩
      clear HCC HM HU T3 H3 S S' hn hc hb0 u1 u2 eB h12 HDM hsn hfr hbase hbw hbd hk H2 T2 re hbD evr hgr hpl hp3 hg NB kD lD ngB hcn hcv nl lgn zD zB zN i1 i2 i3 i4
      have j0 : (0 : Int) ≤ (c : Int) := Int.natCast_nonneg _
      go_wp2_with fail
      clear g0 g3 hg0
      refine wp_region_held_drew (S := (fun w' => w'.cell? ⟨D, 3, none⟩ = some (.slice (some ⟨gn, 0, none⟩) b.nts.length cNn) ∧ w'.cell? ⟨w.heap.size, 1, none⟩ = some (.int .i64 (p : Int)) ∧ w'.cell? ⟨w.heap.size, 2, none⟩ = some (.int .i64 y2))) (by kernel_rfl) ?_ (fun hHeld => ?_)
      · exact HC0
      refine takeQ 0 102 (v := ?_) ?_ ?_
      rotate_left
      · intro wx hSw
        go_simp
        with_reducible rfl
      refine takeQ 1 103 (v := ?_) ?_ ?_
      rotate_left
      · intro wx hSw
        go_simp
        with_reducible rfl
      refine takeQ 2 104 (v := ?_) ?_ ?_
      rotate_left
      · intro wx hSw
        go_simp
        with_reducible rfl
      refine takeQ 3 105 (v := ?_) ?_ ?_
      rotate_left
      · intro wx hSw
        go_simp
        with_reducible rfl
      refine takeQ 4 106 (v := ?_) ?_ ?_
      rotate_left
      · intro wx hSw
        go_simp
        with_reducible rfl
      refine takeQ 5 107 (v := ?_) ?_ ?_
      rotate_left
      · intro wx hSw
        go_simp
        with_reducible rfl
      refine takeQ 6 108 (v := ?_) ?_ ?_
      rotate_left
      · intro wx hSw
        go_simp
        with_reducible rfl
      refine takeQ 7 109 (v := ?_) ?_ ?_
      rotate_left
      · intro wx hSw
        go_simp
        with_reducible rfl
      refine takeQ 8 110 (v := ?_) ?_ ?_
      rotate_left
      · intro wx hSw
        go_simp
        with_reducible rfl
      refine takeQ 9 111 (v := ?_) ?_ ?_
      rotate_left
      · intro wx hSw
        go_simp
        with_reducible rfl
      refine takeQ 10 112 (v := ?_) ?_ ?_
      rotate_left
      · intro wx hSw
        go_simp
        with_reducible rfl
      refine takeQ 12 114 (v := ?_) ?_ ?_
      rotate_left
      · intro wx hSw
        go_simp
        with_reducible rfl
      refine takeQ 13 115 (v := ?_) ?_ ?_
      rotate_left
      · intro wx hSw
        go_simp
        with_reducible rfl
      refine takeQ 14 116 (v := ?_) ?_ ?_
      rotate_left
      · intro wx hSw
        go_simp
        with_reducible rfl
      refine takeQ 15 117 (v := ?_) ?_ ?_
      rotate_left
      · intro wx hSw
        go_simp
        with_reducible rfl
      refine takeQ 16 118 (v := ?_) ?_ ?_
      rotate_left
      · intro wx hSw
        go_simp
        with_reducible rfl
      refine takeQ 17 119 (v := ?_) ?_ ?_
      rotate_left
      · intro wx hSw
        go_simp
        with_reducible rfl
      simp only [Act.put, List.setIfInBounds_toArray, List.set_cons_zero, List.set_cons_succ]
      refine wpAnyH_ready (rs := [11, 18]) (by kernel_rfl) (by simp) ?_
      refine AllReadyH.cons rfl (fun K hK => ?_) (AllReadyH.cons rfl (fun K hK => ?_) AllReadyH.nil)
      · go_simp
        refine hK.out _ _ ?_ (fun hHeld => ?_)
        · exact HC0
        clear hK K
        refine wpAnyH_ready (rs := [18]) (by kernel_rfl) (by simp) ?_
        refine AllReadyH.cons rfl (fun K hK => ?_) AllReadyH.nil
        go_simp
        refine hK.out _ _ ?_ (fun hHeld => ?_)
        · exact HC1
        clear hK K
        refine wpAnyH_ready (rs := [19]) (by kernel_rfl) (by simp) ?_
        refine AllReadyH.cons rfl (fun K hK => ?_) AllReadyH.nil
        refine step_append_lies _ (by rfl) _ _ _ (by rfl) m 66 i0 _ 3 24 Try.underlying36 hi hz0 hz1 hz2 rfl (by omega) (.slice au Z.length cu) Z.length (Z.flatMap cN) (by rfl) o3 ⟨w2.heap.size, 0, none⟩ 1 1 [.int .i64 (p : Int), .int .i64 y2, .int .i64 EV] (by rfl) (by rfl) (World.news_of_block (cs := #[.int .i64 (p : Int), .int .i64 y2, .int .i64 EV]) (t := 66) (fr := (0, 0)) (heap_alloc_new w2 _)) (by simp [Value.oneCell']) (by omega) m1 m2 s3 (w2.heap.size + 1) (by simp) ?_
        intro gg cap5 w5 hown5 hgrow hat hlt5
        obtain ⟨HC, HC2, hcell, hfr, HO⟩ := HNT.out gg cap5 w5 hown5 hgrow hat
        have HO := Lib.hid HO
        clear hown5 hgrow hat hlt5
        refine hK.out _ _ ?_ (fun hHeld => ?_)
        · exact HC
        clear hK K
        simp only [Act.put, List.setIfInBounds_toArray]
        refine takeQ 20 122 (v := ?_) ?_ ?_
        rotate_left
        · intro wx hSw
          go_simp
          with_reducible rfl
        simp only [Act.put]
        refine wpAnyH_ready (rs := [21]) (by kernel_rfl) (by simp) ?_
        refine AllReadyH.cons rfl (fun K hK => ?_) AllReadyH.nil
        go_simp
        refine hK.out _ _ ?_ (fun hHeld => ?_)
        · exact HC2
        clear hK K
        refine wpAnyH_done (by kernel_rfl) ?_ _
        clear HC HC2 hcell hfr hHeld
        go_wp2
        go_end0
        exact ⟨rfl, HO.out⟩
      · go_simp
        refine hK.out _ _ ?_ (fun hHeld => ?_)
        · exact HC1
        clear hK K
        refine wpAnyH_ready (rs := [11]) (by kernel_rfl) (by simp) ?_
        refine AllReadyH.cons rfl (fun K hK => ?_) AllReadyH.nil
        go_simp
        refine hK.out _ _ ?_ (fun hHeld => ?_)
        · exact HC1
        clear hK K
        refine wpAnyH_ready (rs := [19]) (by kernel_rfl) (by simp) ?_
        refine AllReadyH.cons rfl (fun K hK => ?_) AllReadyH.nil
        refine step_append_lies _ (by rfl) _ _ _ (by rfl) m 66 i0 _ 3 24 Try.underlying36 hi hz0 hz1 hz2 rfl (by omega) (.slice au Z.length cu) Z.length (Z.flatMap cN) (by rfl) o3 ⟨w2.heap.size, 0, none⟩ 1 1 [.int .i64 (p : Int), .int .i64 y2, .int .i64 EV] (by rfl) (by rfl) (World.news_of_block (cs := #[.int .i64 (p : Int), .int .i64 y2, .int .i64 EV]) (t := 66) (fr := (0, 0)) (heap_alloc_new w2 _)) (by simp [Value.oneCell']) (by omega) m1 m2 s3 (w2.heap.size + 1) (by simp) ?_
        intro gg cap5 w5 hown5 hgrow hat hlt5
        obtain ⟨HC, HC2, hcell, hfr, HO⟩ := HNT.out gg cap5 w5 hown5 hgrow hat
        have HO := Lib.hid HO
        clear hown5 hgrow hat hlt5
        refine hK.out _ _ ?_ (fun hHeld => ?_)
        · exact HC
        clear hK K
        simp only [Act.put, List.setIfInBounds_toArray]
        refine takeQ 20 122 (v := ?_) ?_ ?_
        rotate_left
        · intro wx hSw
          go_simp
          with_reducible rfl
        simp only [Act.put]
        refine wpAnyH_ready (rs := [21]) (by kernel_rfl) (by simp) ?_
        refine AllReadyH.cons rfl (fun K hK => ?_) AllReadyH.nil
        go_simp
        refine hK.out _ _ ?_ (fun hHeld => ?_)
        · exact HC2
        clear hK K
        refine wpAnyH_done (by kernel_rfl) ?_ _
        clear HC HC2 hcell hfr hHeld
        go_wp2
        go_end0
        exact ⟨rfl, HO.out⟩
  ·
    have HM : Hid (deedM dss es b c k = inkM (seeM (idxB rdE es) b EV (b.plc.getD p 0) (b.lst.getD p 0)) p y2 (EV + 1)) := Lib.hid (by rw [HEY.out, if_neg (by decide), if_pos rfl])
    have hpp : p < b.plc.length := by rw [S.plc]; exact hp3
    have hpl' : p < b.lst.length := by rw [S.lst]; exact hp3
    obtain ⟨gp, cp, eP, lp, dp, -⟩ := H2.drew.oP.lit hpp
    obtain ⟨gl, cl, eL, ll, dl, -⟩ := H2.drew.oL.lit hpl'
    simp only at eP eL
    subst eP eL
    have e1 : w2.drew.cell? ⟨D, 1, none⟩ = some (.slice (some ⟨gp, 0, none⟩) b.plc.length cp) := H2.drew.cells.2.1
    have e2 : w2.drew.cell? ⟨D, 2, none⟩ = some (.slice (some ⟨gl, 0, none⟩) b.lst.length cl) := H2.drew.cells.2.2.1
    have f1 := dp p hpp
    have f2 := dl p hpl'
    have g1' : w2.drew.cell? ⟨w.heap.size, 1, none⟩ = some (.int .i64 (p : Int)) := g1
    have j1 : (0 : Int) ≤ (p : Int) := Int.natCast_nonneg _
    have j2 : (p : Int) < (b.plc.length : Int) := by omega
    have j3 : (p : Int) < (b.lst.length : Int) := by omega
    have SE := S.see EV (b.plc.getD p 0) (b.lst.getD p 0)
    rw [eB] at SE
    obtain ⟨xp, hxp⟩ : ∃ x, x = b.plc.getD p 0 := ⟨_, rfl⟩
    obtain ⟨xl, hxl⟩ : ∃ x, x = b.lst.getD p 0 := ⟨_, rfl⟩
    rw [← hxp] at f1 SE HM
    rw [← hxl] at f2 SE HM
    have HXP : Hid (b.plc.getD p 0 = xp) := Lib.hid hxp.symm
    have HXL : Hid (b.lst.getD p 0 = xl) := Lib.hid hxl.symm
    clear hxp hxl
    have CS := fun (W : World) (hw : W = w2.drew) => l15See_any W m D _ nv rv bs N dss b _ es EV xp xl (hw ▸ H2.drew) (hw ▸ re.keep (Keep.refl w2).drew) h12 hsn hfr
    have CSE : ∀ (W : World), OwnBd W m D ⟨.slice (some ⟨bw, ow, none⟩) dss.length cW, .slice (some ⟨gp, 0, none⟩) b.plc.length cp, .slice (some ⟨gl, 0, none⟩) b.lst.length cl, vN, vX, vS, vF, vR⟩ nv rv bs N dss (seeM (idxB rdE es) b EV xp xl) → TurnB w2.drew W (blkB D ⟨.slice (some ⟨bw, ow, none⟩) dss.length cW, .slice (some ⟨gp, 0, none⟩) b.plc.length cp, .slice (some ⟨gl, 0, none⟩) b.lst.length cl, vN, vX, vS, vF, vR⟩ nv rv) (blkB D ⟨.slice (some ⟨bw, ow, none⟩) dss.length cW, .slice (some ⟨gp, 0, none⟩) b.plc.length cp, .slice (some ⟨gl, 0, none⟩) b.lst.length cl, vN, vX, vS, vF, vR⟩ nv rv) → W.cell? ⟨D, 1, none⟩ = some (.slice (some ⟨gp, 0, none⟩) b.plc.length cp) ∧ W.cell? ⟨D, 2, none⟩ = some (.slice (some ⟨gl, 0, none⟩) b.lst.length cl) ∧ W.cell? ⟨gp, p, none⟩ = some (.int .i64 xp) ∧ W.cell? ⟨gl, p, none⟩ = some (.int .i64 xl) ∧ W.cell? ⟨w.heap.size, 1, none⟩ = some (.int .i64 (p : Int)) := fun W h1 t1 => by
      obtain ⟨gp', cp', eP', -, dp', -⟩ := h1.oP.lit hpp
      obtain ⟨gl', cl', eL', -, dl', -⟩ := h1.oL.lit hpl'
      simp only [Value.slice.injEq, Option.some.injEq, Addr.mk.injEq, and_true] at eP' eL'
      obtain ⟨rfl, -, rfl⟩ := eP'
      obtain ⟨rfl, -, rfl⟩ := eL'
      exact ⟨h1.cells.2.1, h1.cells.2.2.1, by rw [← HXP.out]; exact dp' p hpp, by rw [← HXL.out]; exact dl' p hpl', (t1.cell l2 NB).trans g1'⟩
    have jw : IntKind.i64.wrap (EV + 1) = EV + 1 := by rw [IntKind.wrap_i64]; omega
    clear HEY dp dl
    go_wp2
    have zD : D < w2.drew.heap.size := hbD.2
    have zB : w.heap.size < w2.drew.heap.size := l2
    go_region_held3 (fun w' => w'.cell? ⟨D, 1, none⟩ = some (.slice (some ⟨gp, 0, none⟩) b.plc.length cp) ∧ w'.cell? ⟨D, 2, none⟩ = some (.slice (some ⟨gl, 0, none⟩) b.lst.length cl) ∧ w'.cell? ⟨gp, p, none⟩ = some (.int .i64 xp) ∧ w'.cell? ⟨gl, p, none⟩ = some (.int .i64 xl) ∧ w'.cell? ⟨w.heap.size, 1, none⟩ = some (.int .i64 (p : Int)))
      (first | go_keep | exact HC)
      ((go_at_call 108; refine (CS _ rfl).mono ?_; rintro e w3 ⟨rfl, H3, T3⟩; have HC := CSE w3 H3 T3))
    all_goals
      have T3' := (T2.keep (Keep.refl w2).drew).trans T3
      have b1 : w3.cell? ⟨w.heap.size, 1, none⟩ = some (.int .i64 (p : Int)) := (T3.cell l2 NB).trans g1'
      have b2 : w3.cell? ⟨w.heap.size, 2, none⟩ = some (.int .i64 y2) := (T3.cell l2 NB).trans g2
      clear e1 e2 f1 f2 g0 g1 g2 g3 g1'
      go_wp2_with fail
      refine (l15Ink_any _ m D _ nv rv bs N dss _ p y2 (EV + 1) H3 (by rw [SE.plc]; exact hp3) (by rw [SE.lst]; exact hp3) (by rw [SE.rws]; exact hp3) (by have := SE.rl p; omega)).mono ?_
      rintro e w4 ⟨rfl, rv', H4, T4⟩
      go_wp2
      go_end0
      exact ⟨rfl, nv, rv', by rw [HDM.out, HM.out]; exact H4, T3'.trans T4⟩
  ·
    have HM : Hid (deedM dss es b c k = b) := Lib.hid (by rw [HEY.out, if_neg (by decide), if_neg (by decide), if_neg (fun h => absurd h.1 (by decide)), if_neg (by decide)])
    clear HEY
    go_wp2
    go_end0
    exact ⟨rfl, nv, rv, by rw [HDM.out, HM.out]; exact H2, T2⟩
theorem nt_cells {w : World} {m gq cap : Nat} {Z : List Nt} (o : AppT cN 66 3 w m (.slice (some ⟨gq, 0, none⟩) Z.length cap) Z) {x : Nt} {r : List Nt} (hz : Z = x :: r) : ∀ j u, (r.flatMap cN)[j]? = some u → w.cell? ((⟨gq, 3, none⟩ : Addr).add j) = some u := by
  subst hz
  intro j u hj
  have hl : (r.flatMap cN).length = r.length * 3 := by
    clear hj o
    induction r with
    | nil => rfl
    | cons y t ih => rw [List.flatMap_cons, List.length_append, ih, cN_len, List.length_cons]; omega
  have hjl : j < r.length * 3 := by rw [← hl]; exact (List.getElem?_eq_some_iff.1 hj).1
  have h1 := World.ownsRow.cellAt o (3 + j) (by rw [List.length_cons]; omega)
  have e : (⟨gq, 3, none⟩ : Addr).add j = ⟨gq, 3 + j, none⟩ := by simp [Addr.add]
  rw [e, h1, List.flatMap_cons, List.getElem?_append_right (by rw [cN_len]; omega), cN_len]
  rw [show 3 + j - 3 = j by omega]
  exact hj
theorem nts_one (r : List Nt) : ∀ u ∈ r.flatMap cN, u.oneCell' = true := fun u hu => by
  obtain ⟨x, _, hx⟩ := List.mem_flatMap.1 hu
  simp only [cN, List.mem_cons, List.not_mem_nil, or_false] at hx
  rcases hx with rfl | rfl | rfl <;> rfl
theorem nts_len (r : List Nt) : (r.flatMap cN).length = r.length * 3 := by
  induction r with
  | nil => rfl
  | cons y t ih => rw [List.flatMap_cons, List.length_append, ih, cN_len, List.length_cons]; omega
theorem l15Step_flush (w : World) (m D : Nat) (v : BV) (nv rv : List Value) (bs N : Nat) (dss : List (List Dd)) (b : Bd) (n c : Nat) (x : Nt) (r : List Nt) (h : OwnBd w m D v nv rv bs N dss b) (S : Shp dss b n) (hn : n ≤ 1000) (hc : c < dss.length) (hz : b.nts.getD c [] = x :: r) (hx : 0 ≤ x.1 ∧ x.1 ≤ 2) :
    Calls Try.prog 48 #[.pointer (some ⟨D, 0, none⟩), .int .i64 (10 + (c : Int))] w fun e w' => e = .returned (.tuple #[]) ∧ ∃ nv' rv', OwnBd w' m D v nv' rv' bs N dss (flushM b c) ∧ TurnB w w' (blkB D v nv rv) (blkB D v nv' rv') := by
  obtain ⟨i0, hi, hz0, hz1, hz2⟩ := info_parts Try.infoN
  have hd3 : dss.length ≤ 3 := (workB_useR S.work).1
  have hcn : c < b.nts.length := by rw [S.nts]; exact hc
  have hcv : c < nv.length := by rw [h.ln]; exact hcn
  have HM : Hid (flushM b c = inkM { b with nts := b.nts.set c r } x.1.toNat x.2.1 x.2.2) := Lib.hid (by unfold flushM; rw [hz])
  have hlr : r.length ≤ n := by have := S.nl c; rw [hz] at this; simp at this; omega
  have SL := S.less c r hlr
  obtain ⟨vW, vP, vL, vN, vX, vS, vF, vR⟩ := v
  obtain ⟨aN, cNn, eN, hN⟩ := h.hN
  rcases hN with h0 | ⟨gn, rfl, lgn, dn⟩
  · exfalso; rw [h0] at hcn; simp at hcn
  simp only at eN
  subst eN
  have oq := h.oN hcn
  rw [hz] at oq
  obtain ⟨gq, cq, hq, lgq⟩ : ∃ gq cq, nv.getD c nilS = .slice (some ⟨gq, 0, none⟩) (x :: r).length cq ∧ gq < w.heap.size := by
    have hlt := World.ownsRow.lt oq
    rcases oq.2 with ⟨_, hz'⟩ | ⟨g, cap, cur, e, _⟩
    · simp at hz'
    · exact ⟨g, cap, e, (hlt g (by rw [e]; rfl)).2⟩
  have capq : (x :: r).length ≤ cq := by
    rcases oq.2 with ⟨_, hz'⟩ | ⟨g, cap, cur, e, _, _, hcap, _⟩
    · simp at hz'
    · rw [hq] at e
      simp only [Value.slice.injEq, true_and] at e
      rw [e.2]; exact hcap
  rw [hq] at oq
  have HQ := Lib.hid hq
  have d3 := dn c hcn
  rw [hq] at d3
  have c3 : w.cell? ⟨D, 3, none⟩ = some (.slice (some ⟨gn, 0, none⟩) b.nts.length cNn) := h.cells.2.2.2.1
  obtain ⟨x0, x1, x2⟩ := x
  have q0 : w.cell? ⟨gq, 0, none⟩ = some (.int .i64 x0) := World.ownsRow.cellAt oq 0 (by simp)
  have q1 : w.cell? ⟨gq, 1, none⟩ = some (.int .i64 x1) := World.ownsRow.cellAt oq 1 (by simp; omega)
  have q2 : w.cell? ⟨gq, 2, none⟩ = some (.int .i64 x2) := World.ownsRow.cellAt oq 2 (by simp; omega)
  simp only at hx
  obtain ⟨p, rfl⟩ := Int.eq_ofNat_of_zero_le hx.1
  have hp3 : p < 3 := by omega
  have hbase := h.base
  have i1 : IntKind.i64.wrap (10 + (c : Int) - 10) = (c : Int) := by rw [IntKind.wrap_i64]; omega
  have i2 : (0 : Int) ≤ (c : Int) := Int.natCast_nonneg _
  have i3 : (c : Int) < (b.nts.length : Int) := by omega
  have i4 : (10 : Int) ≤ 10 + (c : Int) := by omega
  have i5 : ((r.length + 1 : Nat) : Int) = (r.length : Int) + 1 := by omega
  have RC := Lib.hid (nt_cells oq rfl)
  clear dn hq hz
  go_enter Try.func48, Try.ntmps48
  go_upto_region 3 with fail
  obtain ⟨wN, hwN⟩ : ∃ W : World, W = w.alloc (.cells #[.int .i64 (p : Int), .int .i64 x1, .int .i64 x2] 66) := ⟨_, rfl⟩
  have kN : Keep w wN := by rw [hwN]; exact (Keep.refl w).alloc _
  have lN : w.heap.size < wN.heap.size := by rw [hwN, heap_size]; omega
  have BX : Hid (∀ W : World, Keep wN W → W.cell? ⟨w.heap.size, 0, none⟩ = some (.int .i64 (p : Int)) ∧ W.cell? ⟨w.heap.size, 1, none⟩ = some (.int .i64 x1) ∧ W.cell? ⟨w.heap.size, 2, none⟩ = some (.int .i64 x2)) := Lib.hid (by
    rw [hwN]
    exact fun W k => ⟨box_cell k 0, box_cell k 1, box_cell k 2⟩)
  rw [← hwN]
  clear hwN
  have NB : ¬ blkB D ⟨vW, vP, vL, .slice (some ⟨gn, 0, none⟩) b.nts.length cNn, vX, vS, vF, vR⟩ nv rv w.heap.size := fun hB => by have := (h.blk _ hB).2.1; omega
  have H1 := (h.keep kN).drew
  have T1 := ((TurnB.refl w (blkB D ⟨vW, vP, vL, .slice (some ⟨gn, 0, none⟩) b.nts.length cNn, vX, vS, vF, vR⟩ nv rv)).keep kN).keep (Keep.refl wN).drew
  have kA : Keep w (wN.drew.alloc (.cells #[] 66)) := ((kN.drew).alloc _)
  have OE : (wN.drew.alloc (.cells #[] 66)).ownsRow m 66 3 (.slice (some ⟨wN.heap.size, 0, none⟩) 0 0) 0 [] := World.ownsRow_lit wN.drew #[] 0 (by have := H1.base; omega) (by decide) (by simp)
  have s3 : m ≤ (wN.drew.alloc (.cells #[] 66)).heap.size := by have := (H1.keep ((Keep.refl _).alloc (.cells #[] 66))).base; omega
  have NW : ∀ j u, (r.flatMap cN)[j]? = some u → (wN.drew.alloc (.cells #[] 66)).cell? ((⟨gq, 3, none⟩ : Addr).add j) = some u := fun j u hj => by
    have := RC.out j u hj
    have e : (⟨gq, 3, none⟩ : Addr).add j = ⟨gq, 3 + j, none⟩ := by simp [Addr.add]
    rw [e] at this ⊢
    exact (kA.cell lgq).trans this
  have c4 : wN.drew.cell? ⟨D, 3, none⟩ = some (.slice (some ⟨gn, 0, none⟩) b.nts.length cNn) := (kN.cell hbase.2).trans c3
  have c5 : (wN.drew.alloc (.cells #[] 66)).cell? ⟨D, 3, none⟩ = some (.slice (some ⟨gn, 0, none⟩) b.nts.length cNn) := (kA.cell hbase.2).trans c3
  have c4w : wN.cell? ⟨D, 3, none⟩ = some (.slice (some ⟨gn, 0, none⟩) b.nts.length cNn) := c4
  have c5w : (wN.alloc (.cells #[] 66)).cell? ⟨D, 3, none⟩ = some (.slice (some ⟨gn, 0, none⟩) b.nts.length cNn) := c5
  have zD : D < wN.heap.size := Nat.lt_of_lt_of_le hbase.2 kN.size
  have HNT : Hid (∀ (u : Value) (w5 : World), w5.ownsRow m 66 3 u (0 + r.length) ([] ++ r.flatMap cN) → World.grownBy (wN.drew.alloc (.cells #[] 66)) w5 (some wN.heap.size) → (u.ownBlock = some wN.heap.size ∨ u.ownBlock = some (wN.drew.alloc (.cells #[] 66)).heap.size) →
      (∃ a' c', u = .slice a' r.length c') ∧ w5.cell? ⟨D, 3, none⟩ = some (.slice (some ⟨gn, 0, none⟩) b.nts.length cNn) ∧ w5.cell? ⟨gn, c, none⟩ = some (.slice (some ⟨gq, 0, none⟩) (r.length + 1) cq) ∧ w5.frozen? ⟨gn, c, none⟩ = false ∧
      ∃ nv', OwnBd (w5.setCell ⟨gn, c, none⟩ u) m D ⟨vW, vP, vL, .slice (some ⟨gn, 0, none⟩) b.nts.length cNn, vX, vS, vF, vR⟩ nv' rv bs N dss { b with nts := b.nts.set c r } ∧ TurnB w (w5.setCell ⟨gn, c, none⟩ u) (blkB D ⟨vW, vP, vL, .slice (some ⟨gn, 0, none⟩) b.nts.length cNn, vX, vS, vF, vR⟩ nv rv) (blkB D ⟨vW, vP, vL, .slice (some ⟨gn, 0, none⟩) b.nts.length cNn, vX, vS, vF, vR⟩ nv' rv) ∧
        (w5.setCell ⟨gn, c, none⟩ u).cell? ⟨w.heap.size, 0, none⟩ = some (.int .i64 (p : Int)) ∧ (w5.setCell ⟨gn, c, none⟩ u).cell? ⟨w.heap.size, 1, none⟩ = some (.int .i64 x1) ∧ (w5.setCell ⟨gn, c, none⟩ u).cell? ⟨w.heap.size, 2, none⟩ = some (.int .i64 x2)) := Lib.hid (fun u w5 hown hgrow hblk => by
    rw [Nat.zero_add, List.nil_append] at hown
    have kw : Keep wN.drew w5 := ((Keep.refl wN.drew).alloc (.cells #[] 66)).grown hgrow (fun k hk => by have := Option.some.inj hk; show wN.heap.size ≤ k; omega)
    have hnew : ∀ k, u.ownBlock = some k → wN.drew.heap.size ≤ k := fun k hk => by
      rcases hblk with e | e
      · rw [e] at hk; have := Option.some.inj hk; show wN.heap.size ≤ k; omega
      · rw [e, heap_size] at hk; have := Option.some.inj hk; omega
    obtain ⟨HO, hcell, hfr⟩ := H1.headNew hcn (u := u) (ns := r) kw hnew hown rfl
    rw [HQ.out] at hcell
    obtain ⟨a', c', e', -⟩ := AppT.shape (show AppT cN 66 3 w5 m u r from hown) |>.elim (fun a h => h.elim (fun c e => (⟨a, c, e, trivial⟩ : ∃ a c, u = .slice a r.length c ∧ True)))
    have hb5 := H1.base.2
    have ngB : gn ≠ w.heap.size := fun e => NB ⟨.nts, trivial, by show some gn = _; rw [e]⟩
    have bx := BX.out w5 (((Keep.refl wN).drew).trans kw)
    have far : ∀ j, (w5.setCell ⟨gn, c, none⟩ u).cell? ⟨w.heap.size, j, none⟩ = w5.cell? ⟨w.heap.size, j, none⟩ := fun j => World.cell?_of_block (heap_setCell_other w5 ⟨gn, c, none⟩ w.heap.size _ (fun e => ngB e.symm))
    refine ⟨⟨a', c', e'⟩, (kw.cell hb5).trans c4, hcell, hfr, nv.set c u, HO, ?_, (far 0).trans bx.1, (far 1).trans bx.2.1, (far 2).trans bx.2.2⟩
    refine ((T1.keep kw).grown (grown_set _ gn c _) (fun g hg => ⟨.nts, trivial, hg⟩)).more (fun g hg => ?_)
    rcases blk_setN hcv hg with h1 | h1
    · exact .inl h1
    · have := hnew g h1
      have : wN.heap.size ≤ g := this
      right; omega)
  have m1 : 0 + r.length ≤ maxLen := by unfold maxLen; omega
  have m2 : (0 + r.length) * 24 ≤ 140737488355328 := by omega
  have j1 : (1 : Int) ≤ (r.length : Int) + 1 := by omega
  have j2 : (1 : Int) ≤ (cq : Int) := by simp at capq; omega
  have capq' : r.length + 1 ≤ cq := by simpa using capq
  have ONE := nts_one r
  have NL := nts_len r
  clear H1 T1 kA RC oq q0 q1 q2 c3 d3 h kN
  by_cases hq1 : cq = 1
  · have hr0 : r.flatMap cN = [] := by
      have : r.length = 0 := by omega
      rw [List.eq_nil_of_length_eq_zero this]; rfl
    replace NW : ∀ j u, (r.flatMap cN)[j]? = some u → (wN.drew.alloc (.cells #[] 66)).cell? ((⟨gq, 0, none⟩ : Addr).add j) = some u := fun j u hj => by rw [hr0] at hj; simp at hj
    clear hr0 j2
    go_wp2_with fail
    go_region_law ((refine step_append_at rfl (.tmp 29) (.tmp 31) 36 rfl m 66 i0 (.agg #[.int .i64 0, .int .i64 0, .int .i64 0]) 3 24 Try.underlying36 hi hz0 hz1 hz2 rfl (by decide) (.slice (some ⟨wN.heap.size, 0, none⟩) 0 0) 0 [] rfl OE ⟨gq, 0, none⟩ r.length 0 (r.flatMap cN) rfl NL NW ONE m1 m2 s3 ?_
                    intro u w5 hown5 hgrow hblk
                    obtain ⟨⟨a', c', rfl⟩, hc3, hcell, hfr, HO⟩ := HNT.out u w5 hown5 hgrow hblk
                    have HO := Lib.hid HO
                    clear hown5 hgrow hblk))
    all_goals
      clear HNT
      obtain ⟨nv', H6, T6, b0, b1, b2⟩ := HO.out
      clear HO hcell hfr hc3 c4 c5 c4w c5w
      go_wp2_with fail
      refine (l15Ink_any _ m D _ nv' rv bs N dss _ p x1 x2 H6 (by rw [SL.plc]; exact hp3) (by rw [SL.lst]; exact hp3) (by rw [SL.rws]; exact hp3) (by have := SL.rl p; omega)).mono ?_
      rintro e w7 ⟨rfl, rv', H7, T7⟩
      go_wp2
      (try simp only [Exit.inBlock, Exit.then])
      refine bodyPost_ret (results_none rfl _ _ _) rfl ?_
      exact ⟨rfl, nv', rv', by rw [HM.out]; exact H7, T6.trans T7⟩
  · go_wp2_with fail
    go_region_law ((refine step_append_at rfl (.tmp 29) (.tmp 31) 36 rfl m 66 i0 (.agg #[.int .i64 0, .int .i64 0, .int .i64 0]) 3 24 Try.underlying36 hi hz0 hz1 hz2 rfl (by decide) (.slice (some ⟨wN.heap.size, 0, none⟩) 0 0) 0 [] rfl OE ⟨gq, 3, none⟩ r.length (cq - 1) (r.flatMap cN) rfl NL NW ONE m1 m2 s3 ?_
                    intro u w5 hown5 hgrow hblk
                    obtain ⟨⟨a', c', rfl⟩, hc3, hcell, hfr, HO⟩ := HNT.out u w5 hown5 hgrow hblk
                    have HO := Lib.hid HO
                    clear hown5 hgrow hblk))
    all_goals
      clear HNT
      obtain ⟨nv', H6, T6, b0, b1, b2⟩ := HO.out
      clear HO hcell hfr hc3 c4 c5 c4w c5w
      go_wp2_with fail
      refine (l15Ink_any _ m D _ nv' rv bs N dss _ p x1 x2 H6 (by rw [SL.plc]; exact hp3) (by rw [SL.lst]; exact hp3) (by rw [SL.rws]; exact hp3) (by have := SL.rl p; omega)).mono ?_
      rintro e w7 ⟨rfl, rv', H7, T7⟩
      go_wp2
      (try simp only [Exit.inBlock, Exit.then])
      refine bodyPost_ret (results_none rfl _ _ _) rfl ?_
      exact ⟨rfl, nv', rv', by rw [HM.out]; exact H7, T6.trans T7⟩
theorem go_stop {dss : List (List Dd)} {es : List Ev} {g : Int} {c k : Nat} {b : Bd} (h : g = 0 ∨ nxN (oneM dss es b c) c = (dss.getD c []).length ∨ gAt dss c (nxN (oneM dss es b c) c) ≠ g) : goM dss es g c (k + 1) b = oneM dss es b c := by rw [goM, if_pos h]
theorem go_more {dss : List (List Dd)} {es : List Ev} {g : Int} {c k : Nat} {b : Bd} (h : ¬ (g = 0 ∨ nxN (oneM dss es b c) c = (dss.getD c []).length ∨ gAt dss c (nxN (oneM dss es b c) c) ≠ g)) : goM dss es g c (k + 1) b = goM dss es g c k (oneM dss es b c) := by rw [goM, if_neg h]
theorem one_nxt {dss : List (List Dd)} {es : List Ev} {c k : Nat} {b : Bd} (hc : c < b.nxt.length) (h : b.nxt.getD c 0 = (k : Int)) : (oneM dss es b c).nxt.getD c 0 = ((k + 1 : Nat) : Int) ∧ nxN (oneM dss es b c) c = k + 1 := by
  have e : (oneM dss es b c).nxt.getD c 0 = ((k + 1 : Nat) : Int) := by
    show (b.nxt.set c (b.nxt.getD c 0 + 1)).getD c 0 = _
    rw [getD_setV _ _ _ _ hc, if_pos rfl, h]
    omega
  exact ⟨e, by unfold nxN; rw [e, Int.toNat_natCast]⟩
structure GoI (dss : List (List Dd)) (es : List Ev) (g : Int) (c M n k0 : Nat) (b : Bd) (q : Nat) (b' : Bd) : Prop where
  shp : Shp dss b' (n + q)
  nx : b'.nxt.getD c 0 = ((k0 + q : Nat) : Int)
  lt : k0 + q < M
  go : goM dss es g c M b = goM dss es g c (M - q) b'
theorem l15Step_go (w : World) (m D : Nat) (v : BV) (nv rv : List Value) (bs N : Nat) (dss : List (List Dd)) (b : Bd) (n c : Nat) (h : OwnBd w m D v nv rv bs N dss b) (S : Shp dss b n) (hn : n ≤ 500) (hc : c < dss.length) (hx0 : 0 ≤ b.nxt.getD c 0) (hxl : nxN b c < (dss.getD c []).length) :
    Calls Try.prog 48 #[.pointer (some ⟨D, 0, none⟩), .int .i64 (c : Int)] w fun e w' => e = .returned (.tuple #[]) ∧ ∃ nv' rv', OwnBd w' m D v nv' rv' bs N dss (goM dss (eventsB dss) (gAt dss c (nxN b c)) c (dss.getD c []).length b) ∧ TurnB w w' (blkB D v nv rv) (blkB D v nv' rv') := by
  have hd3 : dss.length ≤ 3 := (workB_useR S.work).1
  have hl5 : (dss.getD c []).length ≤ 5 := by
    have := (workB_useR S.work).2 c hc
    simp only [okL, Bool.and_eq_true, decide_eq_true_eq] at this
    exact this.2
  have hcx : c < b.nxt.length := by rw [S.nxt]; exact hc
  obtain ⟨vW, vP, vL, vN, vX, vS, vF, vR⟩ := v
  obtain ⟨gx, cx, eX, -, -, -⟩ := h.oX.lit hcx
  simp only at eX
  subst eX
  have mX := h.ge .nxt trivial gx rfl
  have hbase := h.base
  obtain ⟨k0, hk0⟩ := Int.eq_ofNat_of_zero_le hx0
  have hN0 : nxN b c = k0 := by unfold nxN; rw [hk0, Int.toNat_natCast]
  rw [hN0] at hxl ⊢
  have CN := l15Next_any w _ dss b c h.rd ⟨hc, S.nxt, hx0, by rw [hk0]; omega, by omega⟩
  have eD : nxD dss b c = dAt dss c k0 := by unfold nxD; rw [hN0, if_pos hxl]
  have eI : nxI dss b c = true := by unfold nxI; rw [hN0, decide_eq_true hxl]
  rw [eD, eI] at CN
  obtain ⟨y0, y1, y2, y3, hy⟩ : ∃ y0 y1 y2 y3 : Int, dAt dss c k0 = (y0, y1, y2, y3) := ⟨_, _, _, _, rfl⟩
  have hg : gAt dss c k0 = y3 := by show (dAt dss c k0).2.2.2 = y3; rw [hy]
  rw [hy] at CN
  rw [hg]
  have len' : ∃ M, M = (dss.getD c []).length := ⟨_, rfl⟩
  obtain ⟨M, hM⟩ := len'
  rw [← hM] at hxl hl5 ⊢
  have HM := Lib.hid hM
  clear hM hg hy eD eI hN0
  obtain ⟨e0, e1, e2, e3, e4, e5, e6, e7⟩ := h.cells
  simp only at e0 e1 e2 e3 e4 e5 e6 e7
  have i1 : (0 : Int) ≤ (c : Int) := Int.natCast_nonneg _
  have i2 : (c : Int) < (b.nxt.length : Int) := by omega
  have i3 : ¬ ((10 : Int) ≤ (c : Int)) := by omega
  go_enter Try.func48, Try.ntmps48
  go_wp2_with fail
  refine CN.mono ?_
  rintro e w1 ⟨rfl, k1⟩
  clear e0 e1 e2 e3 e4 e5 e6 e7 CN
  go_upto_region 6 with fail
  obtain ⟨w2, hw2⟩ : ∃ W : World, W = w1.alloc (.cells #[.int .i64 y0, .int .i64 y1, .int .i64 y2, .int .i64 y3] 98) := ⟨_, rfl⟩
  have kD : Keep w1 w2 := by rw [hw2]; exact (Keep.refl w1).alloc _
  have lD : w1.heap.size < w2.heap.size := by rw [hw2, heap_size]; omega
  have BX : Hid (w2.cell? ⟨w1.heap.size, 3, none⟩ = some (.int .i64 y3)) := Lib.hid (by rw [hw2]; exact box_cell (Keep.refl _) 3)
  rw [← hw2]
  clear hw2
  have NB : ¬ blkB D ⟨vW, vP, vL, vN, .slice (some ⟨gx, 0, none⟩) b.nxt.length cx, vS, vF, vR⟩ nv rv w1.heap.size := fun hB => by have := (h.blk _ hB).2.1; have := k1.size; omega
  have H2 := (h.keep k1).keep kD
  have T2 := ((TurnB.refl w (blkB D ⟨vW, vP, vL, vN, .slice (some ⟨gx, 0, none⟩) b.nxt.length cx, vS, vF, vR⟩ nv rv)).keep k1).keep kD
  have I2 : GoI dss (eventsB dss) y3 c M n k0 b 0 b := ⟨S, by rw [hk0]; rfl, hxl, rfl⟩
  have SL : Hid (∀ b' q, GoI dss (eventsB dss) y3 c M n k0 b q b' → b'.nxt.length = b.nxt.length) := Lib.hid (fun b' q I => by rw [I.shp.nxt, S.nxt])
  generalize w1.heap.size = BD at *
  clear h S hx0 hk0 k1 kD
  go_loopw [9] (fun _ wr => ∃ (q : Nat) (b' : Bd) (nv' rv' : List Value), OwnBd wr m D ⟨vW, vP, vL, vN, .slice (some ⟨gx, 0, none⟩) b.nxt.length cx, vS, vF, vR⟩ nv' rv' bs N dss b' ∧ GoI dss (eventsB dss) y3 c M n k0 b q b' ∧ TurnB w2 wr (blkB D ⟨vW, vP, vL, vN, .slice (some ⟨gx, 0, none⟩) b.nxt.length cx, vS, vF, vR⟩ nv rv) (blkB D ⟨vW, vP, vL, vN, .slice (some ⟨gx, 0, none⟩) b.nxt.length cx, vS, vF, vR⟩ nv' rv')) (fun _ wr => M - (intOf ((wr.cell? ⟨gx, c, none⟩).getD undef)).toNat)
  case atStart => exact ⟨0, b, nv, rv, H2, I2, TurnB.refl _ _⟩
  case round =>
    obtain ⟨q, b', nv', rv', H, I, T⟩ := hrel
    clear I2
    have hlq := I.lt
    have hbl := SL.out b' q I
    have hcx' : c < b'.nxt.length := by rw [hbl]; exact hcx
    obtain ⟨gx', cx', eX', -, dX, -⟩ := H.oX.lit hcx'
    simp only [Value.slice.injEq, Option.some.injEq, Addr.mk.injEq, and_true] at eX'
    obtain ⟨rfl, -, rfl⟩ := eX'
    have d0 := dX c hcx'
    rw [I.nx] at d0
    obtain ⟨kq, hkq⟩ : ∃ kq, kq = k0 + q := ⟨_, rfl⟩
    rw [← hkq] at d0 hlq
    have HKQ := Lib.hid hkq
    have inx : b'.nxt.getD c 0 = (kq : Int) := by rw [I.nx, hkq]
    have CD := l15Deed_any wr m D _ nv' rv' bs N dss b' (n + q) c kq H I.shp (by omega) hc (by rw [← HM.out]; exact hlq)
    have c4 : wr.cell? ⟨D, 4, none⟩ = some (.slice (some ⟨gx, 0, none⟩) b.nxt.length cx) := H.cells.2.2.2.2.1
    have M0 : Hid (M - (intOf ((wr.cell? ⟨gx, c, none⟩).getD undef)).toNat = M - kq) := Lib.hid (by rw [d0]; simp [intOf])
    clear hkq dX
    go_wp2_with fail
    refine CD.mono ?_
    rintro e w3 ⟨rfl, nv3, rv3, H3, T3⟩
    clear CD c4 d0
    have hdn : (deedM dss (eventsB dss) b' c kq).nxt = b'.nxt := deed_nxt _ _ _ _ _
    have hc3 : c < (deedM dss (eventsB dss) b' c kq).nxt.length := by rw [hdn]; exact hcx'
    obtain ⟨gx', cx', eX', lX, dX, fX⟩ := H3.oX.lit hc3
    simp only [Value.slice.injEq, Option.some.injEq, Addr.mk.injEq, and_true] at eX'
    obtain ⟨rfl, -, rfl⟩ := eX'
    have d3 := dX c hc3
    rw [hdn, inx] at d3
    have f3 := fX c
    have c3 : w3.cell? ⟨D, 4, none⟩ = some (.slice (some ⟨gx, 0, none⟩) b.nxt.length cx) := H3.cells.2.2.2.2.1
    have jw : IntKind.i64.wrap ((kq : Int) + 1) = (kq : Int) + 1 := by rw [IntKind.wrap_i64]; omega
    have hON : Hid (oneM dss (eventsB dss) b' c = { deedM dss (eventsB dss) b' c kq with nxt := (deedM dss (eventsB dss) b' c kq).nxt.set c ((kq : Int) + 1) }) := Lib.hid (by
      have e : nxN b' c = kq := by unfold nxN; rw [inx, Int.toNat_natCast]
      rw [oneM, e, inx, hdn])
    have H4 := H3.drew.putX (k := c) (x := (kq : Int) + 1) (by show Value.slice _ _ _ = .slice _ _ _; rw [hdn, hbl])
    rw [← hON.out] at H4
    have T4 := (T3.keep (Keep.refl w3).drew).grown (grown_set w3.drew gx c (.int .i64 ((kq : Int) + 1))) (fun g hg => ⟨.nxt, trivial, hg⟩)
    obtain ⟨on1, on2⟩ := one_nxt (dss := dss) (es := eventsB dss) hcx' inx
    have S4 := I.shp.one c
    have CN := l15Next_any _ _ dss _ c H4.rd ⟨hc, S4.nxt, by rw [on1]; omega, by rw [on1, ← HM.out]; omega, by rw [← HM.out]; omega⟩
    have eI : nxI dss (oneM dss (eventsB dss) b' c) c = decide (kq + 1 < M) := by unfold nxI; rw [on2, HM.out]
    have eD : kq + 1 < M → nxD dss (oneM dss (eventsB dss) b' c) c = dAt dss c (kq + 1) := fun hh => by unfold nxD; rw [on2, if_pos (by rw [← HM.out]; exact hh)]
    rw [eI] at CN
    have HST : Hid (∀ k, (y3 = 0 ∨ kq + 1 = M ∨ gAt dss c (kq + 1) ≠ y3) → goM dss (eventsB dss) y3 c (k + 1) b' = oneM dss (eventsB dss) b' c) := Lib.hid (fun k hh => go_stop (by rw [on2, ← HM.out]; exact hh))
    have HMO : Hid (∀ k, ¬ (y3 = 0 ∨ kq + 1 = M ∨ gAt dss c (kq + 1) ≠ y3) → goM dss (eventsB dss) y3 c (k + 1) b' = goM dss (eventsB dss) y3 c k (oneM dss (eventsB dss) b' c)) := Lib.hid (fun k hh => go_more (by rw [on2, ← HM.out]; exact hh))
    have HGO : Hid (goM dss (eventsB dss) y3 c M b = goM dss (eventsB dss) y3 c (M - q - 1 + 1) b') := Lib.hid (by rw [I.go]; congr 1; have := HKQ.out; omega)
    have NI : Hid (∀ (hh : kq + 1 < M), (goM dss (eventsB dss) y3 c (M - q - 1 + 1) b' = goM dss (eventsB dss) y3 c (M - q - 1) (oneM dss (eventsB dss) b' c)) → GoI dss (eventsB dss) y3 c M n k0 b (q + 1) (oneM dss (eventsB dss) b' c)) := Lib.hid (fun hh e => ⟨S4, by rw [on1, HKQ.out]; congr 1, by have := HKQ.out; omega, by rw [HGO.out, e]; congr 1⟩)
    have DX : Hid (∀ hh : kq + 1 < M, (nxD dss (oneM dss (eventsB dss) b' c) c).2.2.2 = gAt dss c (kq + 1)) := Lib.hid (fun hh => by rw [eD hh])
    have n4 : Hid ((w3.drew.setCell ⟨gx, c, none⟩ (.int .i64 ((kq : Int) + 1))).cell? ⟨gx, c, none⟩ = some (.int .i64 ((kq : Int) + 1))) := Lib.hid (by
      obtain ⟨g', c', e', -, dd, -⟩ := H4.oX.lit (k := c) (by show c < (b'.nxt.set c _).length; simpa using hcx')
      simp only [Value.slice.injEq, Option.some.injEq, Addr.mk.injEq, and_true] at e'
      obtain ⟨rfl, -, rfl⟩ := e'
      have := dd c (by show c < (b'.nxt.set c _).length; simpa using hcx')
      rw [this, on1]; rfl)
    generalize oneM dss (eventsB dss) b' c = b2 at *
    generalize nxD dss b2 c = Y at *
    clear eD eI dX fX H H3 S4 hON on1 on2 inx
    go_upto_region 8 with (first | go_region | fail)
    obtain ⟨w4, hw4⟩ : ∃ W : World, W = (w3.setCell ⟨gx, c, none⟩ (.int .i64 ((kq : Int) + 1))).drew := ⟨_, rfl⟩
    have e4 : w3.drew.setCell ⟨gx, c, none⟩ (.int .i64 ((kq : Int) + 1)) = w4 := by rw [hw4]; rfl
    rw [e4] at H4 T4 CN n4
    rw [← hw4]
    clear hw4 e4 d3 f3 c3
    have NB' : ¬ blkB D ⟨vW, vP, vL, vN, .slice (some ⟨gx, 0, none⟩) b.nxt.length cx, vS, vF, vR⟩ nv' rv' BD := fun hB => by
      rcases T.news BD hB with h1 | h1
      · exact NB h1
      · omega
    have g4 : w4.cell? ⟨BD, 3, none⟩ = some (.int .i64 y3) := (T4.cell (Nat.lt_of_lt_of_le lD T.size) NB').trans ((T.cell lD NB).trans BX.out)
    have lB4 : BD < w4.heap.size := Nat.lt_of_lt_of_le lD (Nat.le_trans T.size T4.size)
    obtain ⟨e0, e1, e2, e3, e4, e5, e6, e7⟩ := H4.cells
    simp only at e0 e1 e2 e3 e4 e5 e6 e7
    obtain ⟨z0, z1, z2, z3⟩ := Y
    simp only at DX
    go_wp2_with fail
    refine CN.mono ?_
    rintro e w5 ⟨rfl, k5⟩
    have H6 := (H4.keep k5).keep ((Keep.refl w5).alloc (.cells #[.int .i64 z0, .int .i64 z1, .int .i64 z2, .int .i64 z3] 98))
    have k6 := k5.trans ((Keep.refl w5).alloc (.cells #[.int .i64 z0, .int .i64 z1, .int .i64 z2, .int .i64 z3] 98))
    have TF := (T2.trans T).trans (T4.keep k6)
    have TL := T.trans (T4.keep k6)
    have g5 := (k5.cell lB4).trans g4
    have lB5 : BD < w5.heap.size := Nat.lt_of_lt_of_le lB4 k5.size
    have g6 : (w5.alloc (.cells #[.int .i64 z0, .int .i64 z1, .int .i64 z2, .int .i64 z3] 98)).cell? ⟨BD, 3, none⟩ = some (.int .i64 y3) := (((Keep.refl w5).alloc _).cell lB5).trans g5
    have lx4 : gx < w4.heap.size := block_lt_of_cell n4.out
    have n6 := Lib.hid ((k6.cell (b := gx) (o := c) lx4).trans n4.out)
    clear e0 e1 e2 e3 e4 e5 e6 e7 CN H4 n4 g4 g5
    by_cases hy0 : y3 = 0
    · have HSTOP : y3 = 0 ∨ kq + 1 = M ∨ gAt dss c (kq + 1) ≠ y3 := .inl hy0
      have b0 : (y3 == 0) = true := by simp [hy0]
      clear hy0
      go_wp2
      (try simp only [Exit.inBlock, Exit.then])
      refine bodyPost_ret (results_none rfl _ _ _) rfl ?_
      exact ⟨rfl, nv3, rv3, by rw [HGO.out, HST.out _ HSTOP]; exact H6, TF⟩
    · have b0 : (y3 == 0) = false := by simp [hy0]
      by_cases hend : kq + 1 < M
      · have bI : decide (kq + 1 < M) = true := decide_eq_true hend
        rw [bI]
        have hz := DX.out hend
        by_cases hgy : z3 = y3
        · have HNS : ¬ (y3 = 0 ∨ kq + 1 = M ∨ gAt dss c (kq + 1) ≠ y3) := by
            rintro (h1 | h1 | h1)
            · exact hy0 h1
            · omega
            · exact h1 (by rw [← hz]; exact hgy)
          have I' := NI.out hend (HMO.out _ HNS)
          have bz : (z3 != y3) = false := by simp [hgy]
          have ZZ : z3 = y3 := hgy
          clear hy0 hz bI hgy ZZ HNS
          go_wp2
          go_roundw
          case rel => exact ⟨q + 1, _, nv3, rv3, H6, I', TL⟩
          case measure =>
            rw [M0.out, n6.out]
            simp only [Option.getD_some, intOf]
            omega
        · have HSTOP : y3 = 0 ∨ kq + 1 = M ∨ gAt dss c (kq + 1) ≠ y3 := .inr (.inr (by rw [← hz]; exact hgy))
          have bz : (z3 != y3) = true := by simpa using hgy
          clear hy0 hz bI hgy
          go_wp2
          (try simp only [Exit.inBlock, Exit.then])
          refine bodyPost_ret (results_none rfl _ _ _) rfl ?_
          exact ⟨rfl, nv3, rv3, by rw [HGO.out, HST.out _ HSTOP]; exact H6, TF⟩
      · have HSTOP : y3 = 0 ∨ kq + 1 = M ∨ gAt dss c (kq + 1) ≠ y3 := .inr (.inl (by omega))
        have bI : decide (kq + 1 < M) = false := decide_eq_false hend
        rw [bI]
        clear hy0 bI
        go_wp2
        (try simp only [Exit.inBlock, Exit.then])
        refine bodyPost_ret (results_none rfl _ _ _) rfl ?_
        exact ⟨rfl, nv3, rv3, by rw [HGO.out, HST.out _ HSTOP]; exact H6, TF⟩
theorem board_note {dss : List (List Dd)} {b : Bd} (h : boardB dss b = true) {c : Nat} (hc : c < dss.length) {x : Nt} (hx : x ∈ b.nts.getD c []) : 0 ≤ x.1 ∧ x.1 ≤ 2 := by
  simp only [boardB, Bool.and_eq_true] at h
  have := List.all_eq_true.1 h.2.2.2 c (List.mem_range.2 hc)
  simp only [ckB, Bool.and_eq_true, ntsB, List.all_eq_true] at this
  have := this.2.2 x hx
  simp only [ntB, Bool.and_eq_true, decide_eq_true_eq] at this
  exact this.1
theorem l15Step_any (w : World) (m D : Nat) (v : BV) (nv rv : List Value) (bs N : Nat) (dss : List (List Dd)) (b : Bd) (s : Int) (h : OwnBd w m D v nv rv bs N dss b) (hb : boardB dss b = true) (hs : isB (possM dss b) s = true) :
    Calls Try.prog 48 #[.pointer (some ⟨D, 0, none⟩), .int .i64 s] w fun e w' => e = .returned (.tuple #[]) ∧ ∃ nv' rv', OwnBd w' m D v nv' rv' bs N dss (stepM dss (eventsB dss) b s) ∧ TurnB w w' (blkB D v nv rv) (blkB D v nv' rv') := by
  have S := Shp.of hb
  have hd3 : dss.length ≤ 3 := (workB_useR S.work).1
  have hm := isB_mem hs
  unfold possM at hm
  rw [List.mem_append, List.mem_map, List.mem_map] at hm
  rcases hm with ⟨c, hc, rfl⟩ | ⟨c, hc, rfl⟩
  · rw [List.mem_filter, List.mem_range] at hc
    have hcan := hc.2
    unfold canM at hcan
    simp only [Bool.and_eq_true, decide_eq_true_eq] at hcan
    have e : stepM dss (eventsB dss) b (c : Int) = goM dss (eventsB dss) (gAt dss c (nxN b c)) c (dss.getD c []).length b := by
      unfold stepM
      rw [if_neg (by omega), Int.toNat_natCast]
    rw [e]
    exact l15Step_go w m D v nv rv bs N dss b 20 c h S (by omega) hc.1 (board_clerk hb hc.1).1 hcan.1
  · rw [List.mem_filter, List.mem_range] at hc
    have e : stepM dss (eventsB dss) b (10 + (c : Int)) = flushM b c := by
      unfold stepM
      rw [if_pos (by omega), show (10 + (c : Int) - 10).toNat = c by omega]
    rw [e]
    cases hz : b.nts.getD c [] with
    | nil => rw [hz] at hc; simp at hc
    | cons x r =>
      exact l15Step_flush w m D v nv rv bs N dss b 20 c x r h S (by omega) hc.1 hz (board_note hb hc.1 (by rw [hz]; simp))
theorem l15Possible_any (w : World) (v : BV) (dss : List (List Dd)) (b : Bd) (h : RdBd w v dss b) (hp : PsOk dss b) :
    Calls Try.prog 47 #[v.agg] w fun e w' => ∃ v', e = .returned v' ∧ Own w' w.heap.size v' (possM dss b) ∧ Keep w w' := by
  have C := fun (W : World) (kW : Keep w W) (c : Nat) (hc : c < dss.length) => l15Can_any W v dss b c (h.keep kW) hp hc
  obtain ⟨i0, hi, hz0, hz1, hz2⟩ := info_parts Try.infoI
  have HN := Lib.hid h.N
  have hm := hp.m
  have hpn := Lib.hid hp.n
  obtain ⟨aW, aP, aL, aN, aX, aS, aF, aR, cW, cP, cL, cN, cX, cS, cF, cR, rfl⟩ := h.shapes
  clear h hp
  go_enter Try.func47, Try.ntmps47
  go_upto_region 1 with fail
  obtain ⟨wB, hwB⟩ : ∃ W : World, W = w.alloc (.cells #[.slice aW dss.length cW, .slice aP b.plc.length cP, .slice aL b.lst.length cL, .slice aN b.nts.length cN, .slice aX b.nxt.length cX, .slice aS b.sn.length cS, .slice aF b.fr.length cF, .slice aR b.rws.length cR] 29) := ⟨_, rfl⟩
  have kB : Keep w wB := by rw [hwB]; exact (Keep.refl w).alloc _
  have sB : wB.heap.size = w.heap.size + 1 := by rw [hwB]; exact heap_size _ _
  have BC : Hid (∀ (W : World), Keep wB W → W.cell? ⟨w.heap.size, 0, none⟩ = some (.slice aW dss.length cW) ∧ W.cell? ⟨w.heap.size, 1, none⟩ = some (.slice aP b.plc.length cP) ∧ W.cell? ⟨w.heap.size, 2, none⟩ = some (.slice aL b.lst.length cL) ∧ W.cell? ⟨w.heap.size, 3, none⟩ = some (.slice aN b.nts.length cN) ∧ W.cell? ⟨w.heap.size, 4, none⟩ = some (.slice aX b.nxt.length cX) ∧ W.cell? ⟨w.heap.size, 5, none⟩ = some (.slice aS b.sn.length cS) ∧ W.cell? ⟨w.heap.size, 6, none⟩ = some (.slice aF b.fr.length cF) ∧ W.cell? ⟨w.heap.size, 7, none⟩ = some (.slice aR b.rws.length cR)) := Lib.hid (by
    rw [hwB]
    exact fun W k => ⟨box_cell k 0, box_cell k 1, box_cell k 2, box_cell k 3, box_cell k 4, box_cell k 5, box_cell k 6, box_cell k 7⟩)
  rw [← hwB]
  clear hwB
  have SB := Lib.hid sB
  have lB : w.heap.size < wB.heap.size := by omega
  clear sB
  have hown0 : Own (wB.alloc (.cells #[] 2)) wB.heap.size (.slice (some ⟨wB.heap.size, 0, none⟩) 0 0) [] := World.ownsRow_lit wB #[] 0 (Nat.le_refl _) (by decide) rfl
  go_wp2
  go_loopw [3, 4] (fun v0 i wr => ∃ (k : Nat) (v : Value), v = v0 ∧ k ≤ dss.length ∧ i = .int .i64 k ∧ Own wr wB.heap.size v (canK dss b k) ∧ Keep wB wr) (fun _ i _ => dss.length - (intOf i).toNat)
  case atStart => exact ⟨0, _, rfl, Nat.zero_le _, rfl, hown0, (Keep.refl _).alloc _⟩
  case round =>
    obtain ⟨k, v, rfl, hk, rfl, ho, hK⟩ := hrel
    clear hown0
    obtain ⟨b0, b1, b2, b3, b4, b5, b6, b7⟩ := BC.out _ hK
    by_cases hlt : k < dss.length
    · have i1 : (0 : Int) ≤ (k : Int) := Int.natCast_nonneg _
      have i2 : (k : Int) < (dss.length : Int) := by omega
      go_wp2_with fail
      refine (C _ (kB.trans hK) k hlt).mono ?_
      rintro e w2 ⟨rfl, k2⟩
      have hK2 := hK.trans k2
      have hml : (canK dss b k).length ≤ k := canK_len _ _ _
      have hsz := hK2.size
      replace ho := ho.keep k2
      clear b0 b1 b2 b3 b4 b5 b6 b7
      cases hc : canM dss b k
      · have HM : Hid (canK dss b (k + 1) = canK dss b k) := Lib.hid (canK_miss hc)
        go_wp2
        go_roundw
        case rel => exact ⟨k + 1, _, rfl, by omega, by go_num, by rw [HM.out]; exact ho, hK2⟩
        case measure => simp [intOf]; omega
      · have HM : Hid (canK dss b (k + 1) = canK dss b k ++ [(k : Int)]) := Lib.hid (canK_hit hc)
        go_wp2_with (at_builtin; refine wpList_append_own _ rfl _ _ 25 rfl wB.heap.size 2 i0 (.int .i64 0) 1 8 Try.underlying25 hi hz0 hz1 hz2 rfl (by decide) _ _ _ rfl (World.ownsRow.alloc ho _) ⟨_, 0, none⟩ 1 1 [.int .i64 k] rfl rfl ?c1 ?c2 ?c3 ?c4 ?c5 ?_)
        case c1 =>
          intro j u hj
          match j, hj with
          | 0, hj => simp at hj; subst hj; simp [Addr.add]
        case c2 => intro u hu; simp at hu; subst hu; rfl
        case c3 => unfold maxLen; omega
        case c4 => omega
        case c5 => simp; omega
        intro v' w1 hown' hgrow _
        have hK1 : Keep wB w1 := (hK2.alloc _).grown hgrow ho.ge
        clear hgrow
        go_wp2
        go_roundw
        case rel => exact ⟨k + 1, _, rfl, by omega, by go_num, by rw [HM.out]; exact own_hit hown', hK1⟩
        case measure => simp [intOf]; omega
    · obtain rfl : k = dss.length := by omega
      have HP : Hid (canK dss b dss.length ++ ntK b dss.length = possM dss b) := Lib.hid (poss_same dss b)
      have hml : (canK dss b dss.length).length ≤ dss.length := canK_len _ _ _
      generalize canK dss b dss.length = CK at *
      have ho0 : Own wr wB.heap.size v (CK ++ ntK b 0) := by rw [show ntK b 0 = [] from rfl, List.append_nil]; exact ho
      clear ho hk hlt
      go_wp2
      clear b0 b1 b2 b3 b4 b5 b6 b7
      go_loopw [3, 5] (fun v0 i wr => ∃ (k : Nat) (v : Value), v = v0 ∧ k ≤ dss.length ∧ i = .int .i64 k ∧ Own wr wB.heap.size v (CK ++ ntK b k) ∧ Keep wB wr) (fun _ i _ => dss.length - (intOf i).toNat)
      case atStart => exact ⟨0, _, rfl, Nat.zero_le _, rfl, ho0, hK⟩
      case round =>
        clear hK ho0
        obtain ⟨k, v, rfl, hk, rfl, ho, hK⟩ := hrel
        obtain ⟨b0, b1, b2, b3, b4, b5, b6, b7⟩ := BC.out _ hK
        by_cases hlt : k < dss.length
        · have i1 : (0 : Int) ≤ (k : Int) := Int.natCast_nonneg _
          have i2 : (k : Int) < (dss.length : Int) := by omega
          have hkn : k < b.nts.length := by rw [hpn.out]; exact hlt
          have i3 : (k : Int) < (b.nts.length : Int) := by omega
          have hN := HN.out.keep (kB.trans hK)
          obtain ⟨a', c', he', hN⟩ := hN
          simp only [Value.slice.injEq, true_and] at he'
          obtain ⟨rfl, rfl⟩ := he'
          rcases hN with h0 | ⟨bn, on, rfl, hbn, hcn'⟩
          · exfalso; rw [h0] at hkn; simp at hkn
          obtain ⟨vn, d3, r3⟩ := hcn' k hkn
          obtain ⟨an, cn, rfl, -⟩ := r3
          have hml2 := ntK_len b k
          have hml3 : (CK ++ ntK b k).length ≤ dss.length + k := by rw [List.length_append]; omega
          have hsz := hK.size
          have HH : 0 < (b.nts.getD k []).length → Hid (ntK b (k + 1) = ntK b k ++ [10 + (k : Int)]) := fun h => Lib.hid (ntK_hit h)
          have HZ : ¬ 0 < (b.nts.getD k []).length → Hid (ntK b (k + 1) = ntK b k) := fun h => Lib.hid (ntK_miss h)
          generalize b.nts.getD k [] = ns at *
          have i4 : IntKind.i64.wrap (10 + (k : Int)) = 10 + (k : Int) := by rw [IntKind.wrap_i64]; omega
          clear hcn'
          by_cases hz : 0 < ns.length
          · have HM : Hid (CK ++ ntK b (k + 1) = (CK ++ ntK b k) ++ [10 + (k : Int)]) := Lib.hid (by rw [(HH hz).out, List.append_assoc])
            have i5 : (0 : Int) < (ns.length : Int) := by omega
            clear HH HZ
            generalize CK ++ ntK b k = PK at *
            go_wp2_with (at_builtin; refine wpList_append_own _ rfl _ _ 25 rfl wB.heap.size 2 i0 (.int .i64 0) 1 8 Try.underlying25 hi hz0 hz1 hz2 rfl (by decide) _ _ _ rfl (World.ownsRow.alloc ho _) ⟨_, 0, none⟩ 1 1 [.int .i64 (10 + (k : Int))] rfl rfl ?c1 ?c2 ?c3 ?c4 ?c5 ?_)
            case c1 =>
              intro j u hj
              match j, hj with
              | 0, hj => simp at hj; subst hj; simp [Addr.add]
            case c2 => intro u hu; simp at hu; subst hu; rfl
            case c3 => unfold maxLen; omega
            case c4 => omega
            case c5 => simp; omega
            intro v' w1 hown' hgrow _
            have hK1 : Keep wB w1 := (hK.alloc _).grown hgrow ho.ge
            clear hgrow b0 b1 b2 b3 b4 b5 b6 b7
            go_wp2
            go_roundw
            case rel => exact ⟨k + 1, _, rfl, by omega, by go_num, by rw [HM.out]; exact own_hit hown', hK1⟩
            case measure => simp [intOf]; omega
          · have HM := HZ hz
            have i5 : ¬ ((0 : Int) < (ns.length : Int)) := by omega
            clear HH HZ
            go_wp2
            clear b0 b1 b2 b3 b4 b5 b6 b7
            go_roundw
            case rel => exact ⟨k + 1, _, rfl, by omega, by go_num, by rw [HM.out]; exact ho, hK⟩
            case measure => simp [intOf]; omega
        · obtain rfl : k = dss.length := by omega
          go_wp2
          go_ret
          exact ⟨_, rfl, by rw [← HP.out]; exact ho.base_le (by have := SB.out; omega), kB.trans hK⟩
theorem l14All_any (w : World) (v : Value) (l : List Int) (lo hi : Int) (most : Nat) (h : Rd w v l) (hn : l.length ≤ 1048576) :
    Calls Try.prog 44 #[v, .int .i64 lo, .int .i64 hi, .int .i64 most] w fun e w' => e = .returned (.bool (allB l lo hi most)) ∧ w' = w := by
  obtain ⟨a, c, rfl, h⟩ := h
  go_enter Try.func44, Try.ntmps44
  go_wp2
  go_loop [9] (fun i => ∃ k : Nat, k ≤ l.length ∧ i = .int .i64 k ∧ Hid (∀ j, j < k → (decide (lo ≤ l.getD j 0) && decide (l.getD j 0 ≤ hi)) = true)) (fun i => l.length - (intOf i).toNat)
  case atStart => exact ⟨0, Nat.zero_le _, rfl, Lib.hid (fun j hj => absurd hj (Nat.not_lt_zero _))⟩
  case round =>
    obtain ⟨k, hk, rfl, hno⟩ := hrel
    by_cases hlt : k < l.length
    · rcases h with h | ⟨b, o, rfl, hb, hc⟩
      · exfalso; rw [h] at hlt; simp at hlt
      have d1 := hc k hlt
      have HF := fun e => Lib.hid (allB_far (most := most) (lo := lo) (hi := hi) hlt e)
      have HT : (decide (lo ≤ l.getD k 0) && decide (l.getD k 0 ≤ hi)) = true → Hid (∀ j, j < k + 1 → (decide (lo ≤ l.getD j 0) && decide (l.getD j 0 ≤ hi)) = true) := fun e => Lib.hid (fun j hj => by
        by_cases e' : j = k
        · rw [e']; exact e
        · exact hno.out j (by omega))
      have HB : Hid (inB (l.getD k 0) lo hi = (decide (lo ≤ l.getD k 0) && decide (l.getD k 0 ≤ hi))) := Lib.hid (by unfold inB; rw [Bool.eq_iff_iff]; simp)
      have CI := l1In_any (l.getD k 0) lo hi w
      rw [HB.out] at CI
      clear hc HB
      generalize l.getD k 0 = p at d1 HF HT CI
      generalize (decide (lo ≤ p) && decide (p ≤ hi)) = B at HF HT CI
      have i1 : (0 : Int) ≤ (k : Int) := Int.natCast_nonneg _
      have i2 : (k : Int) < (l.length : Int) := by omega
      cases B
      · have HE := HF rfl
        clear HF HT
        go_wp2_with fail
        refine CI.mono ?_
        rintro e w' ⟨rfl, rfl⟩
        go_wp2
        go_ret
        exact ⟨by rw [HE.out]; rfl, rfl⟩
      · have HE := HT rfl
        clear HF HT
        go_wp2_with fail
        refine CI.mono ?_
        rintro e w' ⟨rfl, rfl⟩
        go_wp2
        go_round
        case rel => exact ⟨k + 1, by omega, by go_num, HE⟩
        case measure => simp [intOf]; omega
    · obtain rfl : k = l.length := by omega
      have HE : Hid (allB l lo hi most = decide (l.length ≤ most)) := Lib.hid (allB_done hno.out)
      have HD : Hid (decide ((l.length : Int) ≤ (most : Int)) = decide (l.length ≤ most)) := Lib.hid (by rw [decide_eq_decide]; omega)
      go_wp2
      go_ret
      exact ⟨by rw [HE.out, ← HD.out]; rfl, rfl⟩
theorem take_more {α : Type} (l : List α) (k : Nat) (z : α) (h : k < l.length) : l.take (k + 1) = l.take k ++ [l.getD k z] := by
  rw [List.take_add_one, List.getElem?_eq_getElem h, List.getD_eq_getElem?_getD, List.getElem?_eq_getElem h]
  rfl
theorem all_more {α : Type} {f : α → Bool} {l : List α} {k : Nat} (z : α) (h : k < l.length) (h1 : (l.take k).all f = true) (h2 : f (l.getD k z) = true) : (l.take (k + 1)).all f = true := by
  rw [take_more l k z h, List.all_append, h1]
  rw [List.all_cons, h2]; rfl
theorem lenW_more (d : List Dd) : ∀ l : List (List Dd), lenW (l ++ [d]) = lenW l + d.length
  | [] => by simp [lenW]
  | x :: r => by rw [List.cons_append, lenW, lenW, lenW_more d r]; omega
theorem workB_off {dss : List (List Dd)} {k : Nat} (hk : k < dss.length) (h : okL (dss.getD k []) = false) : workB dss = false := by
  rw [workB, all_not [] k hk h]; simp
theorem specWorkOk_any (w : World) (v : Value) (dss : List (List Dd)) (h : RdW w v dss) (hx : dss.length ≤ 1048576) (hm : ∀ i, i < dss.length → (dss.getD i []).length ≤ 1048576) :
    Calls Try.prog 41 #[v] w fun e w' => e = .returned (.bool (workB dss)) ∧ Keep w w' := by
  have RW := h
  obtain ⟨a, c, rfl, h⟩ := h
  cases hb : inB (dss.length : Int) 1 3
  · have HE : Hid (workB dss = false) := by
      refine Lib.hid ?_
      simp [inB] at hb
      rw [workB, decide_eq_false (by omega)]
      rfl
    go_enter Try.func41, Try.ntmps41
    go_wp2_with (go_at_call 45; refine (l1In_any _ _ _ _).mono ?_; rintro e w' ⟨rfl, rfl⟩)
    go_ret
    exact ⟨by rw [HE.out]; rfl, Keep.refl _⟩
  · have h13 : 1 ≤ dss.length ∧ dss.length ≤ 3 := by simp [inB] at hb; omega
    have HIN := Lib.hid h13
    have h3 := h13.2
    clear h13
    go_enter Try.func41, Try.ntmps41
    go_wp2_with (go_at_call 45; refine (l1In_any _ _ _ _).mono ?_; rintro e w' ⟨rfl, rfl⟩)
    clear hb
    go_loopw [3, 4] (fun n i wr => ∃ k m : Nat, k ≤ dss.length ∧ n = .int .i64 m ∧ i = .int .i64 k ∧ Hid (m = lenW (dss.take k) ∧ (dss.take k).all okL = true) ∧ m ≤ 5 * k ∧ Keep w' wr) (fun _ i _ => dss.length - (intOf i).toNat)
    case atStart => exact ⟨0, 0, Nat.zero_le _, rfl, rfl, Lib.hid (by simp [lenW]), by omega, Keep.refl _⟩
    case round =>
      obtain ⟨k, m, hk, rfl, rfl, hM, m5, hK⟩ := hrel
      by_cases hlt : k < dss.length
      · rcases h with h | ⟨b, o, rfl, hb, hc⟩
        · exfalso; rw [h] at hlt; simp at hlt
        obtain ⟨u, e1, r1⟩ := hc k hlt
        have hmk := hm k hlt
        clear hc hm RW
        obtain ⟨ds, hds⟩ : ∃ ds, ds = dss.getD k [] := ⟨_, rfl⟩
        have HDS := Lib.hid hds
        rw [← hds] at r1 hmk
        clear hds
        obtain ⟨ai, ci, rfl, r1⟩ := r1
        have d1 := (hK.cell hb).trans e1
        have i1 : (0 : Int) ≤ (k : Int) := Int.natCast_nonneg _
        have i2 : (k : Int) < (dss.length : Int) := by omega
        go_wp2
        go_loopw [5] (fun i wq => ∃ q : Nat, q ≤ ds.length ∧ i = .int .i64 q ∧ Hid ((ds.take q).all okD = true) ∧ Keep w' wq) (fun i _ => ds.length - (intOf i).toNat)
        case atStart => exact ⟨0, Nat.zero_le _, rfl, Lib.hid (by simp), hK⟩
        case round =>
          obtain ⟨q, hq, rfl, hQ, hL⟩ := hrel
          have d1 := (hL.cell hb).trans e1
          by_cases hlq : q < ds.length
          · rcases r1 with h | ⟨b2, o2, rfl, hb2, hc2⟩
            · exfalso; rw [h] at hlq; simp at hlq
            have AT := (hc2 q hlq).keep hb2 hL
            clear hc2
            have hbq : b < wr.heap.size := Nat.lt_of_lt_of_le hb hL.size
            have hb3 : b2 < wr.heap.size := Nat.lt_of_lt_of_le hb2 hL.size
            have j1 : (0 : Int) ≤ (q : Int) := Int.natCast_nonneg _
            have j2 : (q : Int) < (ds.length : Int) := by omega
            have HT : okD (ds.getD q zD) = true → Hid ((ds.take (q + 1)).all okD = true) := fun e => Lib.hid (all_more zD hlq hQ.out e)
            have HF : okD (ds.getD q zD) = false → Hid (workB dss = false) := fun e => Lib.hid (workB_off hlt (by rw [← HDS.out, okL, all_not zD q hlq e]; rfl))
            clear hQ
            obtain ⟨d, hd⟩ : ∃ d, d = ds.getD q zD := ⟨_, rfl⟩
            rw [← hd] at AT HT HF
            clear hd
            obtain ⟨x0, x1, x2, x3⟩ := d
            obtain ⟨A0, A1, A2, A3⟩ := AT
            simp only at A0 A1 A2 A3
            unfold okD at HT HF
            simp only at HT HF
            cases hd : deedB x0 x1 x2 x3
            · have HE := HF hd
              clear HT HF
              go_wp2_with fail
              refine (specDeedOk_any _ _ _ _ _).mono ?_
              rintro e wz ⟨rfl, kk⟩
              go_wp2
              go_ret
              exact ⟨by rw [HE.out]; rfl, hL.trans kk⟩
            · have HE := HT hd
              clear HT HF
              go_wp2_with fail
              refine (specDeedOk_any _ _ _ _ _).mono ?_
              rintro e wz ⟨rfl, kk⟩
              go_wp2
              go_roundw
              case rel => exact ⟨q + 1, by omega, by go_num, HE, hL.trans kk⟩
              case measure => simp [intOf]; omega
          · obtain rfl : q = ds.length := by omega
            rw [List.take_length] at hQ
            by_cases h5 : ds.length ≤ 5
            · have HE : Hid (m + ds.length = lenW (dss.take (k + 1)) ∧ (dss.take (k + 1)).all okL = true) := by
                refine Lib.hid ⟨?_, all_more [] hlt hM.out.2 (by rw [← HDS.out, okL, hQ.out]; simp [h5])⟩
                rw [take_more dss k [] hlt, lenW_more, ← HDS.out, hM.out.1]
              go_wp2
              go_roundw
              case rel => exact ⟨k + 1, m + ds.length, by omega, by go_num, by go_num, HE, by omega, hL⟩
              case measure => simp [intOf]; omega
            · have HE : Hid (workB dss = false) := Lib.hid (workB_off hlt (by rw [← HDS.out, okL]; simp; omega))
              go_wp2
              go_ret
              exact ⟨by rw [HE.out]; rfl, hL⟩
      · obtain rfl : k = dss.length := by omega
        rw [List.take_length] at hM
        have OKS : ∀ i, i < dss.length → okL (dss.getD i []) = true := fun i hi => all_get [] hM.out.2 i hi
        have HW : Hid (workB dss = (decide (m ≤ 12) && decide (evW dss dss.length ≤ 6) && grpB dss)) := by
          refine Lib.hid ?_
          rw [workB, decide_eq_true HIN.out, hM.out.2, hM.out.1]
          rfl
        have rw1 := RW.keep hK
        clear hM RW h hm
        by_cases h12 : m ≤ 12
        · have e12 : decide ((m : Int) ≤ 12) = true := by simp; omega
          by_cases h6 : evW dss dss.length ≤ 6
          · have HE : Hid (workB dss = grpB dss) := Lib.hid (by rw [HW.out]; simp [h12, h6])
            go_wp2_with fail
            refine (l5Events_any _ _ _ rw1 h3 OKS).mono ?_
            rintro e wz ⟨rfl, kk⟩
            have rw2 := rw1.keep kk
            go_wp2_with fail
            refine (l5Groups_any _ _ _ rw2 h3 OKS).mono ?_
            rintro e wy ⟨rfl, k2⟩
            go_wp2
            go_ret
            exact ⟨by rw [HE.out]; rfl, (hK.trans kk).trans k2⟩
          · have HE : Hid (workB dss = false) := Lib.hid (by rw [HW.out]; simp [h6])
            go_wp2_with fail
            refine (l5Events_any _ _ _ rw1 h3 OKS).mono ?_
            rintro e wz ⟨rfl, kk⟩
            go_wp2
            go_ret
            exact ⟨by rw [HE.out]; rfl, hK.trans kk⟩
        · have HE : Hid (workB dss = false) := Lib.hid (by rw [HW.out]; simp [h12])
          go_wp2
          go_ret
          exact ⟨by rw [HE.out]; rfl, hK⟩
end Go.Proofs.Ytgakfkjjkobpiaa
