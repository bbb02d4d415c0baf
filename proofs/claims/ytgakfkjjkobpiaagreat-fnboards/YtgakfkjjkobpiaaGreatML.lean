/- Gathered texts. -/
import Derived.OwnWalk
import Derived.Deep.QuietTactic
import Derived.BigQuiet
import Derived.Deep.Cut
import Derived.Test.YtgakfkjjkobpiaaGreatMK
import Derived.Outline
import Derived.Laws.AppendOwnNone
import Derived.BigRegion
import Derived.Deep.RegionLaw
import Derived.RegionTactic
import Derived.Deep.RegionHeld3
import Derived.Deep.AppendLies
set_option maxRecDepth 100000
set_option maxHeartbeats 8000000
namespace Go.Proofs.YtgakfkjjkobpiaaGreat
open Go.ChangeShapes Go.WideShapes Go.ChangeAt Go.RowKit
theorem rev_find {ns : List Nt} {p : Int} {j : Nat} (hj : j < ns.length) (hno : ∀ q, j < q → q < ns.length → (ns.getD q (0, 0, 0)).1 ≠ p) (he : (ns.getD j (0, 0, 0)).1 = p) : ns.reverse.find? (fun x => x.1 == p) = some (ns.getD j (0, 0, 0)) := by
  have e : ns = ns.take j ++ (ns.getD j (0, 0, 0) :: ns.drop (j + 1)) := by
    rw [List.getD_eq_getElem?_getD, List.getElem?_eq_getElem hj]
    show ns = ns.take j ++ ns[j] :: ns.drop (j + 1)
    rw [← List.drop_eq_getElem_cons hj, List.take_append_drop]
  have hd : (ns.drop (j + 1)).reverse.find? (fun x => x.1 == p) = none := by
    rw [List.find?_eq_none]
    intro x hx
    rw [List.mem_reverse] at hx
    obtain ⟨i, hi, ei⟩ := List.getElem_of_mem hx
    rw [List.length_drop] at hi
    have := hno (j + 1 + i) (by omega) (by omega)
    rw [List.getElem_drop] at ei
    rw [List.getD_eq_getElem?_getD, List.getElem?_eq_getElem (by omega)] at this
    simp only [Option.getD_some] at this
    rw [ei] at this
    simpa using this
  conv => lhs; rw [e]
  rw [List.reverse_append, List.reverse_cons, List.append_assoc, List.find?_append, hd]
  generalize ns.getD j (0, 0, 0) = y at he ⊢
  have hy : (y.1 == p) = true := by simp [he]
  simp [hy]
theorem rev_none {ns : List Nt} {p : Int} (hno : ∀ q, q < ns.length → (ns.getD q (0, 0, 0)).1 ≠ p) : ns.reverse.find? (fun x => x.1 == p) = none := by
  rw [List.find?_eq_none]
  intro x hx
  rw [List.mem_reverse] at hx
  obtain ⟨i, hi, ei⟩ := List.getElem_of_mem hx
  have := hno i hi
  rw [List.getD_eq_getElem?_getD, List.getElem?_eq_getElem hi] at this
  simp only [Option.getD_some] at this
  rw [ei] at this
  simpa using this
theorem l14Reading_any (w : World) (v : BV) (dss : List (List Dd)) (b : Bd) (c p : Nat) (h : RdBd w v dss b) (hc : c < b.nts.length) (hp : p < b.plc.length) (hq : p < b.lst.length) (hn : (b.nts.getD c []).length ≤ 1048576) :
    Calls Tryz.prog 59 #[v.agg, .int .i64 c, .int .i64 p] w fun e w' => e = .returned (.tuple #[.int .i64 (rdgM b c p).1, .int .i64 (rdgM b c p).2]) ∧ Keep w w' := by
  obtain ⟨aW, aP, aL, aN, aX, aS, aF, aR, cW, cP, cL, cN, cX, cS, cF, cR, rfl⟩ := h.shapes
  have KW : Keep w (w.alloc (.cells #[.slice aW dss.length cW, .slice aP b.plc.length cP, .slice aL b.lst.length cL, .slice aN b.nts.length cN, .slice aX b.nxt.length cX, .slice aS b.sn.length cS, .slice aF b.fr.length cF, .slice aR b.rws.length cR] 30)) := (Keep.refl w).alloc _
  have h' := h.keep KW
  obtain ⟨a', c', he', hN⟩ := h'.N
  simp only [Value.slice.injEq, true_and] at he'
  obtain ⟨rfl, rfl⟩ := he'
  rcases hN with h0 | ⟨bn, on, rfl, hbn, hcn⟩
  · exfalso; rw [h0] at hc; simp at hc
  obtain ⟨a', c', he', hP⟩ := h'.P
  simp only [Value.slice.injEq, true_and] at he'
  obtain ⟨rfl, rfl⟩ := he'
  rcases hP with h0 | ⟨bp, op, rfl, hbp, hcp⟩
  · exfalso; rw [h0] at hp; simp at hp
  obtain ⟨a', c', he', hL⟩ := h'.L
  simp only [Value.slice.injEq, true_and] at he'
  obtain ⟨rfl, rfl⟩ := he'
  rcases hL with h0 | ⟨bl, ol, rfl, hbl, hcl⟩
  · exfalso; rw [h0] at hq; simp at hq
  obtain ⟨vn, d3, r3⟩ := hcn c hc
  have d1 := hcp p hp
  have d2 := hcl p hq
  have HS : Hid (∀ x, (b.nts.getD c []).reverse.find? (fun x => x.1 == (p : Int)) = some x → rdgM b c p = x.2) := Lib.hid (fun x e => by unfold rdgM; rw [e])
  have HZ : Hid ((b.nts.getD c []).reverse.find? (fun x => x.1 == (p : Int)) = none → rdgM b c p = (b.plc.getD p 0, b.lst.getD p 0)) := Lib.hid (fun e => by unfold rdgM; rw [e])
  obtain ⟨an, cn, rfl, r3⟩ := r3
  generalize b.nts.getD c [] = ns at *
  generalize b.plc.getD p 0 = xp at d1 HZ
  generalize b.lst.getD p 0 = xl at d2 HZ
  generalize rdgM b c p = ANS at HS HZ ⊢
  have j1 : (0 : Int) ≤ (c : Int) := Int.natCast_nonneg _
  have j2 : (c : Int) < (b.nts.length : Int) := by omega
  have j3 : (0 : Int) ≤ (p : Int) := Int.natCast_nonneg _
  have j4 : (p : Int) < (b.plc.length : Int) := by omega
  have j5 : (p : Int) < (b.lst.length : Int) := by omega
  have i0 : IntKind.i64.wrap ((ns.length : Int) - 1) = (ns.length : Int) - 1 := by rw [IntKind.wrap_i64]; omega
  clear hcn hcp hcl h h'
  go_enter Tryz.func59, Tryz.ntmps59
  go_wp2
  go_loop [9] (fun i => ∃ j : Nat, j ≤ ns.length ∧ i = .int .i64 ((j : Int) - 1) ∧ Hid (∀ q, j ≤ q → q < ns.length → (ns.getD q (0, 0, 0)).1 ≠ (p : Int))) (fun i => (intOf i + 1).toNat)
  case atStart => exact ⟨ns.length, Nat.le_refl _, rfl, Lib.hid (fun q h1 h2 => by omega)⟩
  case round =>
    obtain ⟨j, hj, rfl, hno⟩ := hrel
    cases j with
    | zero =>
      have HE : Hid (ANS = (xp, xl)) := Lib.hid (HZ.out (rev_none (fun q hq => hno.out q (Nat.zero_le _) hq)))
      go_wp2
      go_quiet (fail)
      go_wp2
      go_ret2
      exact ⟨by rw [HE.out]; rfl, KW.drewN _⟩
    | succ q =>
      have ej : ((q + 1 : Nat) : Int) - 1 = (q : Int) := by omega
      rw [ej]
      have hql : q < ns.length := hj
      rcases r3 with h0 | ⟨bq, oq, rfl, hbq, hcq⟩
      · exfalso; rw [h0] at hql; simp at hql
      obtain ⟨g0, g1, g2⟩ := atN (hcq q _ (nts_get hql))
      have HF := fun e => Lib.hid (HS.out _ (rev_find hql (fun q' h1 h2 => hno.out q' h1 h2) e))
      have HN : (ns.getD q (0, 0, 0)).1 ≠ (p : Int) → Hid (∀ q', q ≤ q' → q' < ns.length → (ns.getD q' (0, 0, 0)).1 ≠ (p : Int)) := fun e => Lib.hid (fun q' h1 h2 => by
        by_cases e' : q' = q
        · rw [e']; exact e
        · exact hno.out q' (by omega) h2)
      generalize ns.getD q (0, 0, 0) = y at g0 g1 g2 HF HN
      obtain ⟨y0, y1, y2⟩ := y
      simp only at g0 g1 g2 HF HN
      have k1 : (0 : Int) ≤ (q : Int) := Int.natCast_nonneg _
      have k2 : (q : Int) < (ns.length : Int) := by omega
      have k3 : IntKind.i64.wrap ((q : Int) - 1) = (q : Int) - 1 := by rw [IntKind.wrap_i64]; omega
      clear hcq hno ej
      by_cases e : y0 = (p : Int)
      · have HE := HF e
        have eb : (y0 == (p : Int)) = true := by simp [e]
        clear HF HN e
        go_wp2
        go_quiet (fail)
        go_wp2
        go_ret2
        exact ⟨by rw [HE.out]; rfl, KW.drewN _⟩
      · have HE := HN e
        have eb : (y0 == (p : Int)) = false := by simp [e]
        clear HF HN e
        go_wp2
        go_round
        case rel => exact ⟨q, by omega, rfl, HE⟩
        case measure => simp [intOf]
theorem specReading_any (w : World) (v : BV) (dss : List (List Dd)) (b : Bd) (c p : Int) (h : RdBd w v dss b) (hz : SzBd dss b) :
    Calls Tryz.prog 21 #[v.agg, .int .i64 c, .int .i64 p] w fun e w' => e = .returned (.tuple #[.int .i64 (rdgB dss b c p).1, .int .i64 (rdgB dss b c p).2]) ∧ Keep w w' := by
  obtain ⟨aW, aP, aL, aN, aX, aS, aF, aR, cW, cP, cL, cN, cX, cS, cF, cR, rfl⟩ := h.shapes
  have CB := fun (W : World) (kW : Keep w W) => specBoardOk_any W _ dss b (h.keep kW) hz
  have HH := Lib.hid h
  have HZ := Lib.hid hz
  have HD : Hid (rdgB dss b c p = if boardB dss b = true ∧ 0 ≤ c ∧ c < (dss.length : Int) ∧ 0 ≤ p ∧ p ≤ 2 then rdgM b c.toNat p.toNat else (-1, -1)) := Lib.hid rfl
  clear h hz
  go_enter Tryz.func21, Tryz.ntmps21
  go_wp2_with fail
  refine (CB _ ((Keep.refl w).alloc _)).mono ?_
  rintro e w1 ⟨rfl, k1⟩
  have K1 := ((Keep.refl w).alloc _).trans k1
  have c0 := box_cell k1 0
  have c1 := box_cell k1 1
  have c2 := box_cell k1 2
  have c3 := box_cell k1 3
  have c4 := box_cell k1 4
  have c5 := box_cell k1 5
  have c6 := box_cell k1 6
  have c7 := box_cell k1 7
  simp at c0 c1 c2 c3 c4 c5 c6 c7
  have z1 := box_size k1
  clear CB
  cases hb : boardB dss b
  · have HE : Hid (rdgB dss b c p = (-1, -1)) := Lib.hid (by rw [HD.out, hb]; simp)
    go_wp2
    go_ret2
    exact ⟨by rw [HE.out]; rfl, K1⟩
  by_cases h0 : c < 0
  · have HE : Hid (rdgB dss b c p = (-1, -1)) := Lib.hid (by rw [HD.out, if_neg (by omega)])
    go_wp2
    go_ret2
    exact ⟨by rw [HE.out]; rfl, K1⟩
  have t0 : decide (c < 0) = false := by simp; omega
  have t0' : 0 ≤ c := by omega
  by_cases h1 : (dss.length : Int) ≤ c
  · have HE : Hid (rdgB dss b c p = (-1, -1)) := Lib.hid (by rw [HD.out, if_neg (by omega)])
    go_wp2
    go_ret2
    exact ⟨by rw [HE.out]; rfl, K1⟩
  have t1 : decide ((dss.length : Int) ≤ c) = false := by simp; omega
  have CI := fun W : World => l1In_any p 0 2 W
  cases h2 : inB p 0 2
  · have HE : Hid (rdgB dss b c p = (-1, -1)) := Lib.hid (by
      have : ¬ (0 ≤ p ∧ p ≤ 2) := by unfold inB at h2; simpa using h2
      rw [HD.out, if_neg (by omega)])
    rw [h2] at CI
    clear h0 h1
    go_wp2_with fail
    refine (CI _).mono ?_
    rintro e w2 ⟨rfl, rfl⟩
    go_wp2
    go_ret2
    exact ⟨by rw [HE.out]; rfl, K1⟩
  rw [h2] at CI
  have h3 : 0 ≤ p ∧ p ≤ 2 := by unfold inB at h2; simpa using h2
  have HE : Hid (rdgB dss b c p = rdgM b c.toNat p.toNat) := Lib.hid (by rw [HD.out, if_pos ⟨hb, by omega, by omega, h3.1, h3.2⟩])
  obtain ⟨c, rfl⟩ := Int.eq_ofNat_of_zero_le t0'
  obtain ⟨p, rfl⟩ := Int.eq_ofNat_of_zero_le h3.1
  rw [Int.toNat_natCast, Int.toNat_natCast] at HE
  have t1' : decide (dss.length ≤ c) = false := by simp; omega
  have t1'' : c < dss.length := by omega
  obtain ⟨s1, s2, s4⟩ := board_use hb
  have CL := l14Reading_any w1 _ dss b c p (HH.out.keep K1) (by omega) (by omega) (by omega) (HZ.out.n2 c (by omega))
  generalize rdgM b c p = ANS at CL HE
  clear h0 h1 h2 h3 s1 s2 s4 hb HD t0'
  go_wp2_with fail
  refine (CI _).mono ?_
  rintro e w2 ⟨rfl, rfl⟩
  clear CI
  go_wp2_with fail
  refine CL.mono ?_
  rintro e w3 ⟨rfl, k3⟩
  go_wp2
  go_ret2
  exact ⟨by rw [HE.out]; rfl, K1.trans k3⟩
theorem l1Copy_rd (w : World) (v : Value) (zs : List Int) (h : Rd w v zs) (hn : zs.length ≤ 1048576) :
    Calls Tryz.prog 84 #[v] w fun e w' => ∃ v', e = .returned v' ∧ Own w' w.heap.size v' zs ∧ Keep w w' := by
  have ho : Own (w.alloc (.cells #[] 2)) w.heap.size (.slice (some ⟨w.heap.size, 0, none⟩) 0 0) [] := World.ownsRow_lit w #[] 0 (Nat.le_refl _) (by decide) rfl
  have hK : Keep w (w.alloc (.cells #[] 2)) := (Keep.refl w).alloc _
  obtain ⟨i0, hi, hz0, hz1, hz2⟩ := info_parts Tryz.infoI
  obtain ⟨a, cap, rfl, h⟩ := h
  rcases h with rfl | ⟨g, off, rfl, hg, hc⟩
  · cases a with
    | none =>
      go_enter Tryz.func84, Tryz.ntmps84
      go_wp2
      go_ret
      exact ⟨_, rfl, ho, hK⟩
    | some x =>
      go_enter Tryz.func84, Tryz.ntmps84
      go_wp2_with (at_builtin; refine wpList_append_own _ rfl _ _ 26 rfl w.heap.size 2 i0 (.int .i64 0) 1 8 Tryz.underlying26 hi hz0 hz1 hz2 rfl (by decide) _ _ _ rfl ho x 0 cap [] rfl rfl ?c1 ?c2 ?c3 ?c4 ?c5 ?_)
      case c1 => intro j u hj; simp at hj
      case c2 => intro u hu; simp at hu
      case c3 => simp
      case c4 => simp
      case c5 => simp
      intro v' w1 hown' hgrow _
      have k1 : Keep w w1 := hK.grown hgrow ho.ge
      have o1 : Own w1 w.heap.size v' [] := by unfold Own; simpa using hown'
      clear hgrow hown'
      go_wp2
      go_ret
      exact ⟨_, rfl, o1, k1⟩
  · have C := rd_cells (w := w.alloc (.cells #[] 2)) (b := g) (off := off) (zs := zs) (fun i hi => (hK.cell hg).trans (hc i hi))
    go_enter Tryz.func84, Tryz.ntmps84
    go_wp2_with (at_builtin; refine wpList_append_own _ rfl _ _ 26 rfl w.heap.size 2 i0 (.int .i64 0) 1 8 Tryz.underlying26 hi hz0 hz1 hz2 rfl (by decide) _ _ _ rfl ho ⟨g, off, none⟩ zs.length cap (zs.map (Value.int .i64)) rfl (by simp) ?c1 ?c2 ?c3 ?c4 ?c5 ?_)
    case c1 => exact C
    case c2 => exact ints_one zs
    case c3 => simp; unfold maxLen; omega
    case c4 => simp; omega
    case c5 => simp
    intro v' w1 hown' hgrow _
    have k1 : Keep w w1 := hK.grown hgrow ho.ge
    have o1 : Own w1 w.heap.size v' zs := by unfold Own; simpa using hown'
    clear hgrow hown'
    go_wp2
    go_ret
    exact ⟨_, rfl, o1, k1⟩
theorem l14Shown_any (w : World) (v : BV) (dss : List (List Dd)) (b : Bd) (h : RdBd w v dss b) (hp : 0 < b.plc.length) (hp2 : b.plc.length ≤ 1048576) (hs : b.sn.length ≤ 1048576) :
    Calls Tryz.prog 53 #[v.agg] w fun e w' => ∃ v', e = .returned v' ∧ Own w' w.heap.size v' (b.sn ++ b.plc) ∧ Keep w w' := by
  obtain ⟨i0, hi, hz0, hz1, hz2⟩ := info_parts Tryz.infoI
  obtain ⟨aW, aP, aL, aN, aX, aS, aF, aR, cW, cP, cL, cN, cX, cS, cF, cR, rfl⟩ := h.shapes
  have KW : Keep w ((w.alloc (.cells #[.slice aW dss.length cW, .slice aP b.plc.length cP, .slice aL b.lst.length cL, .slice aN b.nts.length cN, .slice aX b.nxt.length cX, .slice aS b.sn.length cS, .slice aF b.fr.length cF, .slice aR b.rws.length cR] 30)).drew) := ((Keep.refl w).alloc _).drew
  have c1 : ((w.alloc (.cells #[.slice aW dss.length cW, .slice aP b.plc.length cP, .slice aL b.lst.length cL, .slice aN b.nts.length cN, .slice aX b.nxt.length cX, .slice aS b.sn.length cS, .slice aF b.fr.length cF, .slice aR b.rws.length cR] 30)).drew).cell? ⟨w.heap.size, 1, none⟩ = some (.slice aP b.plc.length cP) := box_cell (Keep.refl _) 1
  have c5 : ((w.alloc (.cells #[.slice aW dss.length cW, .slice aP b.plc.length cP, .slice aL b.lst.length cL, .slice aN b.nts.length cN, .slice aX b.nxt.length cX, .slice aS b.sn.length cS, .slice aF b.fr.length cF, .slice aR b.rws.length cR] 30)).drew).cell? ⟨w.heap.size, 5, none⟩ = some (.slice aS b.sn.length cS) := box_cell (Keep.refl _) 5
  have z1 : w.heap.size < ((w.alloc (.cells #[.slice aW dss.length cW, .slice aP b.plc.length cP, .slice aL b.lst.length cL, .slice aN b.nts.length cN, .slice aX b.nxt.length cX, .slice aS b.sn.length cS, .slice aF b.fr.length cF, .slice aR b.rws.length cR] 30)).drew).heap.size := by rw [heap_drew, heap_size]; omega
  have HS := Lib.hid h.S
  have HP := Lib.hid h.P
  obtain ⟨a', c', he', hP⟩ := h.P
  simp only [Value.slice.injEq, true_and] at he'
  obtain ⟨rfl, rfl⟩ := he'
  rcases hP with h0 | ⟨bp, op, rfl, hbp, hcp⟩
  · exfalso; rw [h0] at hp; simp at hp
  clear h
  go_enter Tryz.func53, Tryz.ntmps53
  go_wp2
  go_region_law ((first
    | (refine step_append_at rfl (.tmp 5) (.tmp 7) 26 rfl w.heap.size 2 i0 (.int .i64 0) 1 8 Tryz.underlying26 hi hz0 hz1 hz2 rfl (by decide) _ b.sn.length (b.sn.map (Value.int .i64)) rfl (O1.base_le (Nat.le_trans KW.size (Nat.le_refl _))) ⟨bp, op, none⟩ b.plc.length cP (b.plc.map (Value.int .i64)) rfl (by simp) (rd_cells (fun i hi => (K1.cell hbp).trans (hcp i hi))) (by intro u hu; simp at hu; obtain ⟨x, _, rfl⟩ := hu; rfl) (by unfold maxLen; omega) (by omega) (Nat.le_trans KW.size k1.size) ?_
       intro v' w2 hown' hgrow _
       have O2 : Own w2 w.heap.size v' (b.sn ++ b.plc) := by unfold Own; rw [List.length_append, List.map_append]; exact hown'
       have K2 : Keep w w2 := K1.grown hgrow (fun k hk => Nat.le_trans KW.size (O1.ge k hk))
       clear hown' hgrow)
    | (go_simp
       refine (l1Copy_rd _ _ b.sn (HS.out.keep KW) hs).mono ?_
       rintro e w1 ⟨v1, rfl, O1, k1⟩
       have K1 := KW.trans k1
       have c1' := (k1.cell z1).trans c1
       obtain ⟨g1, m1, hv1, -⟩ := id O1.rd
       subst hv1)))
  all_goals
    go_wp2
    go_ret
    exact ⟨_, rfl, O2, K2⟩
theorem specShownBoard_any (w : World) (v : BV) (dss : List (List Dd)) (b : Bd) (h : RdBd w v dss b) (hz : SzBd dss b) :
    Calls Tryz.prog 18 #[v.agg] w fun e w' => ∃ v', e = .returned v' ∧ Own w' w.heap.size v' (shownB dss b) ∧ Keep w w' := by
  obtain ⟨aW, aP, aL, aN, aX, aS, aF, aR, cW, cP, cL, cN, cX, cS, cF, cR, rfl⟩ := h.shapes
  have CB := fun (W : World) (kW : Keep w W) => specBoardOk_any W _ dss b (h.keep kW) hz
  have HH := Lib.hid h
  have HD : Hid (shownB dss b = if boardB dss b = true then b.sn ++ b.plc else []) := Lib.hid rfl
  have h1 := hz.plc
  have h2 := hz.sn
  clear h hz
  go_enter Tryz.func18, Tryz.ntmps18
  go_wp2_with fail
  refine (CB _ ((Keep.refl w).alloc _)).mono ?_
  rintro e w1 ⟨rfl, k1⟩
  have K1 := ((Keep.refl w).alloc _).trans k1
  have c0 := box_cell k1 0
  have c1 := box_cell k1 1
  have c2 := box_cell k1 2
  have c3 := box_cell k1 3
  have c4 := box_cell k1 4
  have c5 := box_cell k1 5
  have c6 := box_cell k1 6
  have c7 := box_cell k1 7
  simp at c0 c1 c2 c3 c4 c5 c6 c7
  clear CB
  have s1 := K1.size
  cases hb : boardB dss b
  · have HE : Hid (shownB dss b = []) := Lib.hid (by rw [HD.out, hb]; rfl)
    have o1 : Own (w1.alloc (.cells #[] 2)) w1.heap.size (.slice (some ⟨w1.heap.size, 0, none⟩) 0 0) [] := World.ownsRow_lit w1 #[] 0 (Nat.le_refl _) (by decide) rfl
    go_wp2
    go_ret
    exact ⟨_, rfl, by rw [HE.out]; exact Own.base_le o1 s1, K1.alloc _⟩
  · have HE : Hid (shownB dss b = b.sn ++ b.plc) := Lib.hid (by rw [HD.out, hb]; rfl)
    have u1 := (board_use hb).1
    have CL := l14Shown_any w1 _ dss b (HH.out.keep K1) (by omega) h1 h2
    clear u1 hb HD
    go_wp2_with fail
    refine CL.mono ?_
    rintro e w2 ⟨v2, rfl, o2, k2⟩
    go_wp2
    go_ret
    exact ⟨_, rfl, by rw [HE.out]; exact o2.base_le s1, K1.trans k2⟩
theorem l14Ended_any (w : World) (v : BV) (dss : List (List Dd)) (b : Bd) (h : RdBd w v dss b) (hd : dss.length ≤ 1048576) (hx : dss.length ≤ b.nxt.length) (hn : dss.length ≤ b.nts.length) :
    Calls Tryz.prog 52 #[v.agg] w fun e w' => e = .returned (.bool (endZ dss b)) ∧ Keep w w' := by
  obtain ⟨aW, aP, aL, aN, aX, aS, aF, aR, cW, cP, cL, cN, cX, cS, cF, cR, rfl⟩ := h.shapes
  have KW : Keep w (w.alloc (.cells #[.slice aW dss.length cW, .slice aP b.plc.length cP, .slice aL b.lst.length cL, .slice aN b.nts.length cN, .slice aX b.nxt.length cX, .slice aS b.sn.length cS, .slice aF b.fr.length cF, .slice aR b.rws.length cR] 30)) := (Keep.refl w).alloc _
  have c0 : (w.alloc (.cells #[.slice aW dss.length cW, .slice aP b.plc.length cP, .slice aL b.lst.length cL, .slice aN b.nts.length cN, .slice aX b.nxt.length cX, .slice aS b.sn.length cS, .slice aF b.fr.length cF, .slice aR b.rws.length cR] 30)).cell? ⟨w.heap.size, 0, none⟩ = some (.slice aW dss.length cW) := box_cell (Keep.refl _) 0
  have c3 : (w.alloc (.cells #[.slice aW dss.length cW, .slice aP b.plc.length cP, .slice aL b.lst.length cL, .slice aN b.nts.length cN, .slice aX b.nxt.length cX, .slice aS b.sn.length cS, .slice aF b.fr.length cF, .slice aR b.rws.length cR] 30)).cell? ⟨w.heap.size, 3, none⟩ = some (.slice aN b.nts.length cN) := box_cell (Keep.refl _) 3
  have c4 : (w.alloc (.cells #[.slice aW dss.length cW, .slice aP b.plc.length cP, .slice aL b.lst.length cL, .slice aN b.nts.length cN, .slice aX b.nxt.length cX, .slice aS b.sn.length cS, .slice aF b.fr.length cF, .slice aR b.rws.length cR] 30)).cell? ⟨w.heap.size, 4, none⟩ = some (.slice aX b.nxt.length cX) := box_cell (Keep.refl _) 4
  have h' := h.keep KW
  have z1 : w.heap.size < (w.alloc (.cells #[.slice aW dss.length cW, .slice aP b.plc.length cP, .slice aL b.lst.length cL, .slice aN b.nts.length cN, .slice aX b.nxt.length cX, .slice aS b.sn.length cS, .slice aF b.fr.length cF, .slice aR b.rws.length cR] 30)).heap.size := by rw [heap_size]; omega
  go_enter Tryz.func52, Tryz.ntmps52
  go_wp2
  generalize w.alloc (.cells #[.slice aW dss.length cW, .slice aP b.plc.length cP, .slice aL b.lst.length cL, .slice aN b.nts.length cN, .slice aX b.nxt.length cX, .slice aS b.sn.length cS, .slice aF b.fr.length cF, .slice aR b.rws.length cR] 30) = w1 at *
  have HH := Lib.hid h'
  clear h h'
  go_loopw [3] (fun i wr => ∃ k : Nat, k ≤ dss.length ∧ i = .int .i64 k ∧ Hid (∀ j, j < k → (decide (((dss.getD j []).length : Int) ≤ b.nxt.getD j 0) && (b.nts.getD j []).isEmpty) = true) ∧ Keep w1 wr) (fun i _ => dss.length - (intOf i).toNat)
  case atStart => exact ⟨0, Nat.zero_le _, rfl, Lib.hid (fun j hj => absurd hj (Nat.not_lt_zero _)), Keep.refl _⟩
  case round =>
    obtain ⟨k, hk, rfl, hno, hK⟩ := hrel
    have e0 := (hK.cell z1).trans c0
    have e3 := (hK.cell z1).trans c3
    have e4 := (hK.cell z1).trans c4
    by_cases hlt : k < dss.length
    · have lX : k < b.nxt.length := by omega
      have lN : k < b.nts.length := by omega
      obtain ⟨a', c', he', hX⟩ := HH.out.X.keep hK
      simp only [Value.slice.injEq, true_and] at he'
      obtain ⟨rfl, rfl⟩ := he'
      rcases hX with h0 | ⟨bx, ox, rfl, hbx, hcx⟩
      · exfalso; rw [h0] at lX; simp at lX
      obtain ⟨a', c', he', hW⟩ := HH.out.W.keep hK
      simp only [Value.slice.injEq, true_and] at he'
      obtain ⟨rfl, rfl⟩ := he'
      rcases hW with h0 | ⟨bw, ow, rfl, hbw, hcw⟩
      · exfalso; rw [h0] at hlt; simp at hlt
      obtain ⟨a', c', he', hN⟩ := HH.out.N.keep hK
      simp only [Value.slice.injEq, true_and] at he'
      obtain ⟨rfl, rfl⟩ := he'
      rcases hN with h0 | ⟨bn, on, rfl, hbn, hcn⟩
      · exfalso; rw [h0] at lN; simp at lN
      have d1 := hcx k lX
      obtain ⟨vw, d2, r2⟩ := hcw k hlt
      obtain ⟨vn, d3, r3⟩ := hcn k lN
      have HF : (decide (((dss.getD k []).length : Int) ≤ b.nxt.getD k 0) && (b.nts.getD k []).isEmpty) = false → Hid (endZ dss b = false) := fun e => Lib.hid (all_range_false hlt e)
      have HT : (decide (((dss.getD k []).length : Int) ≤ b.nxt.getD k 0) && (b.nts.getD k []).isEmpty) = true → Hid (∀ j, j < k + 1 → (decide (((dss.getD j []).length : Int) ≤ b.nxt.getD j 0) && (b.nts.getD j []).isEmpty) = true) := fun e => Lib.hid (fun j hj => by
        by_cases e' : j = k
        · rw [e']; exact e
        · exact hno.out j (by omega))
      obtain ⟨aw, cw, rfl, -⟩ := r2
      obtain ⟨an, cn, rfl, -⟩ := r3
      generalize b.nxt.getD k 0 = x at d1 HF HT
      generalize (dss.getD k []).length = wl at d2 HF HT
      generalize b.nts.getD k [] = ns at d3 HF HT
      have j1 : (0 : Int) ≤ (k : Int) := Int.natCast_nonneg _
      have j2 : (k : Int) < (dss.length : Int) := by omega
      have j3 : (k : Int) < (b.nxt.length : Int) := by omega
      have j4 : (k : Int) < (b.nts.length : Int) := by omega
      clear hcx hcw hcn hno
      by_cases t1 : x < (wl : Int)
      · have HE := HF (by rw [decide_eq_false (by omega)]; rfl)
        clear HF HT
        go_wp2
        go_quiet (fail)
        go_wp2
        go_ret
        exact ⟨by rw [HE.out]; rfl, (KW.trans hK).drewN _⟩
      have t1' : decide (x < (wl : Int)) = false := decide_eq_false t1
      by_cases t2 : 0 < ns.length
      · have HE := HF (by
          have : ns.isEmpty = false := by cases ns with | nil => simp at t2 | cons _ _ => rfl
          rw [this]; simp)
        have t2' : decide (0 < ns.length) = true := decide_eq_true t2
        clear HF HT t1
        go_wp2
        go_quiet (fail)
        go_wp2
        go_ret
        exact ⟨by rw [HE.out]; rfl, (KW.trans hK).drewN _⟩
      · have HE := HT (by
          have : ns.isEmpty = true := by cases ns with | nil => rfl | cons _ _ => simp at t2
          rw [this, decide_eq_true (by omega)]; rfl)
        have t2' : decide (0 < ns.length) = false := decide_eq_false t2
        clear HF HT t1 t2
        go_wp2
        go_quiet (fail)
        go_wp2
        go_roundw
        case rel => exact ⟨k + 1, by omega, by go_num, HE, hK.drewN _⟩
        case measure => simp [intOf]; omega
    · obtain rfl : k = dss.length := by omega
      have HE : Hid (endZ dss b = true) := Lib.hid (all_range_true hno.out)
      go_wp2
      go_ret
      exact ⟨by rw [HE.out]; rfl, KW.trans hK⟩
theorem specEnded_any (w : World) (v : BV) (dss : List (List Dd)) (b : Bd) (h : RdBd w v dss b) (hz : SzBd dss b) :
    Calls Tryz.prog 16 #[v.agg] w fun e w' => e = .returned (.bool (endedB dss b)) ∧ Keep w w' := by
  obtain ⟨aW, aP, aL, aN, aX, aS, aF, aR, cW, cP, cL, cN, cX, cS, cF, cR, rfl⟩ := h.shapes
  have CB := fun (W : World) (kW : Keep w W) => specBoardOk_any W _ dss b (h.keep kW) hz
  have HH := Lib.hid h
  have HD : Hid (endedB dss b = (boardB dss b && endZ dss b)) := Lib.hid rfl
  have hd := hz.w1
  clear h hz
  go_enter Tryz.func16, Tryz.ntmps16
  go_wp2_with fail
  refine (CB _ ((Keep.refl w).alloc _)).mono ?_
  rintro e w1 ⟨rfl, k1⟩
  have K1 := ((Keep.refl w).alloc _).trans k1
  have c0 := box_cell k1 0
  have c1 := box_cell k1 1
  have c2 := box_cell k1 2
  have c3 := box_cell k1 3
  have c4 := box_cell k1 4
  have c5 := box_cell k1 5
  have c6 := box_cell k1 6
  have c7 := box_cell k1 7
  simp at c0 c1 c2 c3 c4 c5 c6 c7
  clear CB
  cases hb : boardB dss b
  · have HE : Hid (endedB dss b = false) := Lib.hid (by rw [HD.out, hb]; rfl)
    go_wp2
    go_ret
    exact ⟨by rw [HE.out]; rfl, K1⟩
  · have HE : Hid (endedB dss b = endZ dss b) := Lib.hid (by rw [HD.out, hb]; rfl)
    obtain ⟨u1, u2⟩ := board_lens hb
    have CL := l14Ended_any w1 _ dss b (HH.out.keep K1) hd (by omega) (by omega)
    generalize endZ dss b = ANS at CL HE
    clear u1 u2 hb HD
    go_wp2_with fail
    refine CL.mono ?_
    rintro e w2 ⟨rfl, k2⟩
    go_wp2
    go_ret
    exact ⟨by rw [HE.out]; rfl, K1.trans k2⟩
theorem l15Ink_any (w : World) (m D : Nat) (v : BV) (nv rv : List Value) (bs N : Nat) (dss : List (List Dd)) (b : Bd) (p : Nat) (x ev : Int) (h : OwnBd w m D v nv rv bs N dss b) (hp : p < b.plc.length) (hl : p < b.lst.length) (hr : p < b.rws.length) (ht : (b.rws.getD p []).length ≤ 1048576) :
    Calls Tryz.prog 93 #[.pointer (some ⟨D, 0, none⟩), .int .i64 p, .int .i64 x, .int .i64 ev] w fun e w' => e = .returned (.tuple #[]) ∧ ∃ rv', OwnBd w' m D v nv rv' bs N dss (inkM b p x ev) ∧ TurnB w w' (blkB D v nv rv) (blkB D v nv rv') := by
  obtain ⟨i0, hi, hz0, hz1, hz2⟩ := info_parts Tryz.infoI
  obtain ⟨vW, vP, vL, vN, vX, vS, vF, vR⟩ := v
  obtain ⟨gp, cp, eP, lp, dp, fp⟩ := h.oP.lit hp
  obtain ⟨gl, cl, eL, -, -, -⟩ := h.oL.lit hl
  obtain ⟨aR, cR, eR, hR⟩ := h.hR
  rcases hR with h0 | ⟨gr, rfl, -, -⟩
  · exfalso; rw [h0] at hr; simp at hr
  simp only at eP eL eR
  subst eP eL eR
  have c1 : w.cell? ⟨D, 1, none⟩ = some (.slice (some ⟨gp, 0, none⟩) b.plc.length cp) := h.cells.2.1
  have d1 := dp p hp
  have f1 := fp p
  have mb := h.base
  have mP := h.ge .plc trivial gp rfl
  have mL := h.ge .lst trivial gl rfl
  have mR := h.ge .rws trivial gr rfl
  have i1 : (0 : Int) ≤ (p : Int) := Int.natCast_nonneg _
  have i2 : (p : Int) < (b.plc.length : Int) := by omega
  have i3 : (p : Int) < (b.lst.length : Int) := by omega
  have i4 : (p : Int) < (b.rws.length : Int) := by omega
  have H1 := h.putP (k := p) (x := x) rfl
  have B1 := (TurnB.refl w (blkB D ⟨vW, .slice (some ⟨gp, 0, none⟩) b.plc.length cp, .slice (some ⟨gl, 0, none⟩) b.lst.length cl, vN, vX, vS, vF, .slice (some ⟨gr, 0, none⟩) b.rws.length cR⟩ nv rv)).grown (grown_set w gp p (.int .i64 x)) (fun g hg => ⟨.plc, trivial, hg⟩)
  have HD := Lib.hid h
  clear dp fp h
  go_enter Tryz.func93, Tryz.ntmps93
  go_upto_region 1 with fail
  obtain ⟨w1, hw⟩ : ∃ W : World, W = w.setCell ⟨gp, p, none⟩ (.int .i64 x) := ⟨_, rfl⟩
  rw [← hw] at H1 B1 ⊢
  clear hw c1 d1 f1
  obtain ⟨gl', cl', eL', ll, dl, fl⟩ := H1.oL.lit hl
  simp only [Value.slice.injEq, Option.some.injEq, Addr.mk.injEq, and_true, true_and] at eL'
  obtain ⟨rfl, rfl⟩ := eL'
  have c2 : w1.cell? ⟨D, 2, none⟩ = some (.slice (some ⟨gl, 0, none⟩) b.lst.length cl) := H1.cells.2.2.1
  have d2 := dl p hl
  have f2 := fl p
  have H2 := H1.putL (k := p) (x := ev) rfl
  have B2 := B1.grown (grown_set w1 gl p (.int .i64 ev)) (fun g hg => ⟨.lst, trivial, hg⟩)
  clear dl fl
  go_upto_region 2 with fail
  obtain ⟨w2, hw⟩ : ∃ W : World, W = w1.setCell ⟨gl, p, none⟩ (.int .i64 ev) := ⟨_, rfl⟩
  rw [← hw] at H2 B2 ⊢
  clear hw c2 d2 f2 H1 B1
  have H3 : OwnBd (w2.drew.alloc (.cells #[.int .i64 ev] 2)) m D _ nv rv bs N dss _ := H2.drew.keep ((Keep.refl _).alloc _)
  obtain ⟨aR', cR', eR', hR'⟩ := H2.drew.hR
  simp only [Value.slice.injEq, true_and] at eR'
  obtain ⟨rfl, rfl⟩ := eR'
  rcases hR' with h0 | ⟨gr', er, lr, dr⟩
  · exfalso; rw [h0] at hr; simp at hr
  simp only [Option.some.injEq, Addr.mk.injEq, and_true] at er
  subst er
  have c3 : w2.drew.cell? ⟨D, 7, none⟩ = some (.slice (some ⟨gr, 0, none⟩) b.rws.length cR) := H2.drew.cells.2.2.2.2.2.2.2
  have d3 := dr p hr
  have ow := H3.oR hr
  have zD := H2.drew.base.2
  have B3 := B2.keep (((Keep.refl w2).drew).alloc (.cells #[.int .i64 ev] 2))
  obtain ⟨au, cu, hu⟩ : ∃ a c, rv.getD p nilS = .slice a (b.rws.getD p []).length c := by obtain ⟨a, c, e, _⟩ := ow.rd; exact ⟨a, c, e⟩
  have HU := Lib.hid hu
  rw [hu] at d3
  have o3 : (w2.drew.alloc (.cells #[.int .i64 ev] 2)).ownsRow m 2 1 (.slice au (b.rws.getD p []).length cu) (b.rws.getD p []).length ((b.rws.getD p []).map (Value.int .i64)) := by rw [← hu]; exact ow
  have s3 : m ≤ (w2.drew.alloc (.cells #[.int .i64 ev] 2)).heap.size := by have := H3.base; omega
  have RL : Hid ((b.rws.getD p []).length ≤ 1048576) := Lib.hid ht
  have c4 : w2.cell? ⟨D, 7, none⟩ = some (.slice (some ⟨gr, 0, none⟩) b.rws.length cR) := c3
  have d4 : w2.cell? ⟨gr, p, none⟩ = some (.slice au (b.rws.getD p []).length cu) := d3
  have l4 : gr < w2.heap.size := lr
  have z4 : D < w2.heap.size := zD
  have c5 : (w2.alloc (.cells #[.int .i64 ev] 2)).cell? ⟨D, 7, none⟩ = some (.slice (some ⟨gr, 0, none⟩) b.rws.length cR) := (((Keep.refl w2).alloc _).cell z4).trans c4
  have d5 : (w2.alloc (.cells #[.int .i64 ev] 2)).cell? ⟨gr, p, none⟩ = some (.slice au (b.rws.getD p []).length cu) := (((Keep.refl w2).alloc _).cell l4).trans d4
  clear ow dr hu
  generalize hZ : b.rws.getD p [] = Z at *
  have HZ := Lib.hid hZ
  clear hZ
  go_wp2_with fail
  go_region_law ((first
    | (refine step_append_at rfl (.tmp 33) (.tmp 35) 26 rfl m 2 i0 (.int .i64 0) 1 8 Tryz.underlying26 hi hz0 hz1 hz2 rfl (by decide) (.slice au Z.length cu) Z.length (Z.map (Value.int .i64)) rfl o3 ⟨_, 0, none⟩ 1 1 [.int .i64 ev] rfl rfl (fun j u hj => by match j, hj with | 0, hj => simp at hj; subst hj; simp [Addr.add]) (fun u hu => by simp at hu; subst hu; rfl) (by unfold maxLen; omega) (by omega) s3 ?_
       intro v' w5 hown' hgrow hblk
       have HH := H3.headR hr (u := v') (zs := Z ++ [ev]) (by rw [HU.out]; exact hgrow) (by rw [HU.out]; rcases hblk with h | h; exact .inl h; exact .inr (.inl h)) (own_hit hown') rfl
       obtain ⟨HO, hcell, hfr⟩ := HH
       have c6 : w5.cell? ⟨D, 7, none⟩ = some (.slice (some ⟨gr, 0, none⟩) b.rws.length cR) := (H3.stay (.rw p) (by show p < rv.length; rw [H3.lr]; exact hr) (by simp) (by show World.grownBy _ _ (rv.getD p nilS).ownBlock; rw [HU.out]; exact hgrow) 7).trans c5
       obtain ⟨a5, q5, hv5, -⟩ := (own_hit hown').rd
       rw [List.length_append, List.length_singleton] at hv5
       subst hv5)))
  all_goals
    go_wp2
    go_end0
    refine ⟨rfl, rv.set p (.slice a5 (Z.length + 1) q5), ?_, ?_⟩
    · have e : inkM b p x ev = { b with plc := b.plc.set p x, lst := b.lst.set p ev, rws := b.rws.set p (Z ++ [ev]) } := by rw [inkM, HZ.out]
      rw [e]
      exact HO
    · have hpr : p < rv.length := by rw [H3.lr]; exact hr
      refine ((B3.grown hgrow (fun k hk => ⟨.rw p, hpr, by show (rv.getD p nilS).ownBlock = _; rw [HU.out]; exact hk⟩)).grown (grown_set _ gr p _) (fun g hg => ⟨.rws, trivial, hg⟩)).more (fun g hg => ?_)
      obtain ⟨i, hi, e⟩ := hg
      cases i with
      | rw q =>
        have hq : q < rv.length := by simpa [liveB] using hi
        by_cases eq : q = p
        · subst eq
          have e : ((rv.set q (.slice a5 (Z.length + 1) q5)).getD q nilS).ownBlock = some g := e
          rw [getD_setV _ _ _ _ hq, if_pos rfl] at e
          rcases hblk with hb | hb
          · left; exact ⟨.rw q, hq, by show (rv.getD q nilS).ownBlock = _; rw [HU.out, ← hb]; exact e⟩
          · right
            rw [hb] at e
            have e2 : (w2.drew.alloc (.cells #[.int .i64 ev] 2)).heap.size = g := Option.some.inj e
            rw [← e2]
            exact B3.size
        · have e : ((rv.set p (.slice a5 (Z.length + 1) q5)).getD q nilS).ownBlock = some g := e
          rw [getD_setV _ _ _ _ hpr, if_neg eq] at e
          exact .inl ⟨.rw q, hq, e⟩
      | nt q => exact .inl ⟨.nt q, hi, e⟩
      | bd => exact .inl ⟨.bd, trivial, e⟩
      | plc => exact .inl ⟨.plc, trivial, e⟩
      | lst => exact .inl ⟨.lst, trivial, e⟩
      | nts => exact .inl ⟨.nts, trivial, e⟩
      | nxt => exact .inl ⟨.nxt, trivial, e⟩
      | sn => exact .inl ⟨.sn, trivial, e⟩
      | fr => exact .inl ⟨.fr, trivial, e⟩
      | rws => exact .inl ⟨.rws, trivial, e⟩
theorem l15See_any (w : World) (m D : Nat) (v : BV) (nv rv : List Value) (bs N : Nat) (dss : List (List Dd)) (b : Bd) (ve : Value) (es : List Ev) (ev x f : Int) (h : OwnBd w m D v nv rv bs N dss b) (he : RdE w ve es) (hl : es.length ≤ 12) (hs : b.sn.length = (idxB rdE es).length) (hf : b.fr.length = (idxB rdE es).length) :
    Calls Tryz.prog 115 #[.pointer (some ⟨D, 0, none⟩), ve, .int .i64 ev, .int .i64 x, .int .i64 f] w fun e w' => e = .returned (.tuple #[]) ∧ OwnBd w' m D v nv rv bs N dss (seeM (idxB rdE es) b ev x f) ∧ TurnB w w' (blkB D v nv rv) (blkB D v nv rv) := by
  have hb := h.base
  have HE : Hid (seeM (idxB rdE es) b ev x f = { b with sn := setK (idxB rdE es) ev x b.sn (idxB rdE es).length, fr := setK (idxB rdE es) ev f b.fr (idxB rdE es).length }) := Lib.hid (by rw [seeM, setK_same hs, setK_same hf])
  generalize seeM (idxB rdE es) b ev x f = B' at HE ⊢
  have r12 : (idxB rdE es).length ≤ 12 := by
    unfold idxB
    rw [if_pos hl]
    have := idxK_len rdE es es.length
    omega
  have HS5 : Hid (∀ k, v.S.ownBlock = some k → k < w.heap.size) := Lib.hid (fun k hk => (h.fam.lt (i := .sn) trivial k hk).2)
  have HF6 : Hid (∀ k, v.F.ownBlock = some k → k < w.heap.size) := Lib.hid (fun k hk => (h.fam.lt (i := .fr) trivial k hk).2)
  obtain ⟨vW, vP, vL, vN, vX, vS, vF, vR⟩ := v
  have HS := Lib.hid hs
  have HFL := Lib.hid hf
  go_enter Tryz.func115, Tryz.ntmps115
  go_wp2_with fail
  refine (specReadsOf_any _ _ _ he (by omega)).mono ?_
  rintro e w1 ⟨v1, rfl, o1, k1⟩
  have H1 := h.keep k1
  have B1 : TurnB w w1 (blkB D ⟨vW, vP, vL, vN, vX, vS, vF, vR⟩ nv rv) (blkB D ⟨vW, vP, vL, vN, vX, vS, vF, vR⟩ nv rv) := (TurnB.refl _ _).keep k1
  have s1 := k1.size
  generalize idxB rdE es = rs at *
  obtain ⟨a1, c1, rfl, -⟩ := o1.rd
  clear h he hs hf
  go_wp2
  go_loopw [11] (fun i wr => ∃ k : Nat, k ≤ rs.length ∧ i = .int .i64 k ∧ OwnBd wr m D ⟨vW, vP, vL, vN, vX, vS, vF, vR⟩ nv rv bs N dss { b with sn := setK rs ev x b.sn k, fr := setK rs ev f b.fr k } ∧ Own wr w.heap.size (.slice a1 rs.length c1) rs ∧ TurnB w wr (blkB D ⟨vW, vP, vL, vN, vX, vS, vF, vR⟩ nv rv) (blkB D ⟨vW, vP, vL, vN, vX, vS, vF, vR⟩ nv rv)) (fun i _ => rs.length - (intOf i).toNat)
  case atStart => exact ⟨0, Nat.zero_le _, rfl, H1, o1, B1⟩
  case round =>
    obtain ⟨k, hk, rfl, H, ho, B⟩ := hrel
    clear H1 B1
    by_cases hlt : k < rs.length
    · obtain ⟨a', c', e', hc⟩ := ho.rd
      simp only [Value.slice.injEq, true_and] at e'
      obtain ⟨rfl, rfl⟩ := e'
      rcases hc with h0 | ⟨br, or', rfl, hbr, hcr⟩
      · exfalso; rw [h0] at hlt; simp at hlt
      have d1 := hcr k hlt
      have i1 : (0 : Int) ≤ (k : Int) := Int.natCast_nonneg _
      have i2 : (k : Int) < (rs.length : Int) := by omega
      have HH : rs.getD k 0 = ev → Hid (setK rs ev x b.sn (k + 1) = (setK rs ev x b.sn k).set k x ∧ setK rs ev f b.fr (k + 1) = (setK rs ev f b.fr k).set k f) := fun e => Lib.hid ⟨by rw [setK, if_pos (decide_eq_true e)], by rw [setK, if_pos (decide_eq_true e)]⟩
      have HZ : rs.getD k 0 ≠ ev → Hid (setK rs ev x b.sn (k + 1) = setK rs ev x b.sn k ∧ setK rs ev f b.fr (k + 1) = setK rs ev f b.fr k) := fun e => Lib.hid ⟨by rw [setK, if_neg (by simpa using e)], by rw [setK, if_neg (by simpa using e)]⟩
      generalize rs.getD k 0 = r at d1 HH HZ
      clear hcr
      by_cases er : r = ev
      · have HM := HH er
        have be : (r == ev) = true := by simp [er]
        subst er
        clear HH HZ
        have ls : (setK rs r x b.sn k).length = b.sn.length := setK_len _ _ _ _ _
        have lf : (setK rs r f b.fr k).length = b.fr.length := setK_len _ _ _ _ _
        have hks : k < (setK rs r x b.sn k).length := by rw [ls, HS.out]; exact hlt
        have hkf : k < (setK rs r f b.fr k).length := by rw [lf, HFL.out]; exact hlt
        generalize setK rs r x b.sn k = SN at *
        generalize setK rs r f b.fr k = FR at *
        obtain ⟨gs, cs, eS, lgs, dS, fS⟩ := H.oS.lit hks
        obtain ⟨gf, cf, eF, -, -, -⟩ := H.oF.lit hkf
        simp only at eS eF
        subst eS eF
        have c5 : wr.cell? ⟨D, 5, none⟩ = some (.slice (some ⟨gs, 0, none⟩) SN.length cs) := H.cells.2.2.2.2.2.1
        have d5 := dS k hks
        have f5 := fS k
        have i3 : (k : Int) < (SN.length : Int) := by omega
        have i4 : (k : Int) < (FR.length : Int) := by omega
        have lS : gs < w.heap.size := HS5.out gs rfl
        have lF : gf < w.heap.size := HF6.out gf rfl
        have nS : (Value.slice (some ⟨br, or', none⟩) rs.length c1).ownBlock = none ∨ (Value.slice (some ⟨br, or', none⟩) rs.length c1).ownBlock ≠ some gs := .inr (fun e => by have := ho.ge gs e; omega)
        have nF : (Value.slice (some ⟨br, or', none⟩) rs.length c1).ownBlock = none ∨ (Value.slice (some ⟨br, or', none⟩) rs.length c1).ownBlock ≠ some gf := .inr (fun e => by have := ho.ge gf e; omega)
        have H2 := H.putS (k := k) (x := x) rfl
        have B2 := B.grown (grown_set wr gs k (.int .i64 x)) (fun g hg => ⟨.sn, trivial, hg⟩)
        have o2 := ho.kept (grown_set wr gs k (.int .i64 x)) nS
        clear dS fS
        go_upto_region 6 with fail
        obtain ⟨w2, hw⟩ : ∃ W : World, W = wr.setCell ⟨gs, k, none⟩ (.int .i64 x) := ⟨_, rfl⟩
        rw [← hw] at H2 B2 o2 ⊢
        clear hw c5 d5 f5 d1 H B ho
        obtain ⟨gf', cf', eF', lgf, dF, fF⟩ := H2.oF.lit hkf
        simp only [Value.slice.injEq, Option.some.injEq, Addr.mk.injEq, and_true, true_and] at eF'
        obtain ⟨rfl, rfl⟩ := eF'
        have c6 : w2.cell? ⟨D, 6, none⟩ = some (.slice (some ⟨gf, 0, none⟩) FR.length cf) := H2.cells.2.2.2.2.2.2.1
        have d6 := dF k hkf
        have f6 := fF k
        have H3 := H2.putF (k := k) (x := f) rfl
        have B3 := B2.grown (grown_set w2 gf k (.int .i64 f)) (fun g hg => ⟨.fr, trivial, hg⟩)
        have o3 := o2.kept (grown_set w2 gf k (.int .i64 f)) nF
        clear dF fF
        go_wp2
        go_roundw
        case rel => exact ⟨k + 1, by omega, by go_num, by rw [HM.out.1, HM.out.2]; exact H3, o3, B3⟩
        case measure => simp [intOf]; omega
      · have HM := HZ er
        have be : (r == ev) = false := by simp [er]
        clear HH HZ
        go_wp2
        go_roundw
        case rel => exact ⟨k + 1, by omega, by go_num, by rw [HM.out.1, HM.out.2]; exact H, ho, B⟩
        case measure => simp [intOf]; omega
    · obtain rfl : k = rs.length := by omega
      go_wp2
      go_end0
      exact ⟨rfl, by rw [HE.out]; exact H, B⟩
theorem l15Event_any (w : World) (v : Value) (es : List Ev) (c k : Nat) (h : RdE w v es) (hl : es.length ≤ 12) :
    Calls Tryz.prog 114 #[v, .int .i64 c, .int .i64 k] w fun e w' => e = .returned (.int .i64 (evM es c k)) ∧ Keep w w' := by
  obtain ⟨a, cp, rfl, h⟩ := h
  go_enter Tryz.func114, Tryz.ntmps114
  go_wp2
  go_loopw [7] (fun i wr => ∃ q : Nat, 3 ≤ q ∧ (q ≤ es.length ∨ q = 3) ∧ i = .int .i64 q ∧ Hid (∀ j, 3 ≤ j → j < q → evT es c k j = false) ∧ Keep w wr) (fun i _ => es.length - (intOf i).toNat)
  case atStart => exact ⟨3, Nat.le_refl _, .inr rfl, rfl, Lib.hid (fun j h1 h2 => by omega), Keep.refl _⟩
  case round =>
    obtain ⟨q, h3, hq, rfl, HN, hK⟩ := hrel
    by_cases hlt : q < es.length
    · rcases h with h0 | ⟨b, off, rfl, hb, hc⟩
      · exfalso; rw [h0] at hlt; simp at hlt
      have AT := (hc q _ (evs_get hlt)).keep hb hK
      have HY : evT es c k q = true → Hid (evM es c k = (q : Int)) := fun e => Lib.hid (evM_hit h3 hlt HN.out e)
      have HX : evT es c k q = false → Hid (∀ j, 3 ≤ j → j < q + 1 → evT es c k j = false) := fun e => Lib.hid (fun j h1 h2 => by
        by_cases ej : j = q
        · subst ej; exact e
        · exact HN.out j h1 (by omega))
      unfold evT at HY
      have HX : (((es.getD q zE).1 == (c : Int)) && ((es.getD q zE).2.1 == (k : Int))) = false → Hid (∀ j, 3 ≤ j → j < q + 1 → evT es c k j = false) := HX
      generalize es.getD q zE = y at AT HY HX
      obtain ⟨y0, y1, y2, y3, y4, y5⟩ := y
      obtain ⟨q0, q1, -, -, -, -⟩ := atE AT
      simp only at HY HX q0 q1
      have i1 : (0 : Int) ≤ (q : Int) := Int.natCast_nonneg _
      have i2 : (q : Int) < (es.length : Int) := by omega
      clear hc AT HN
      cases e0 : (y0 == (c : Int))
      · have HE := HX (by rw [e0]; rfl)
        clear HX HY
        go_wp2
        go_roundw
        case rel => exact ⟨q + 1, by omega, .inl (by omega), by go_num, HE, hK⟩
        case measure => simp [intOf]; omega
      · cases e1 : (y1 == (k : Int))
        · have HE := HX (by rw [e0, e1]; rfl)
          clear HX HY
          go_wp2
          go_roundw
          case rel => exact ⟨q + 1, by omega, .inl (by omega), by go_num, HE, hK⟩
          case measure => simp [intOf]; omega
        · have HE := HY (by rw [e0, e1]; rfl)
          clear HX HY
          go_wp2
          go_ret
          exact ⟨by rw [HE.out]; rfl, hK⟩
    · have HE : Hid (evM es c k = -1) := Lib.hid (evM_none (fun j h1 h2 => HN.out j h1 (by omega)))
      have i2 : ¬ ((q : Int) < (es.length : Int)) := by omega
      clear HN
      go_wp2
      go_ret
      exact ⟨by rw [HE.out]; rfl, hK⟩
theorem Tryz.infoN : (Tryz.prog.info? 44).map (fun i => (i.zero, i.size, i.bytes)) = some (some (.agg #[.int .i64 0, .int .i64 0, .int .i64 0]), 3, 24) := by kernel_rfl
theorem l15Deed_any (w : World) (m D : Nat) (v : BV) (nv rv : List Value) (bs N : Nat) (dss : List (List Dd)) (b : Bd) (n c k : Nat) (h : OwnBd w m D v nv rv bs N dss b) (S : Shp dss b n) (hn : n ≤ 1000) (hc : c < dss.length) (hk : k < (dss.getD c []).length) :
    Calls Tryz.prog 95 #[.pointer (some ⟨D, 0, none⟩), .int .i64 c, .int .i64 k] w fun e w' => e = .returned (.tuple #[]) ∧ ∃ nv' rv', OwnBd w' m D v nv' rv' bs N dss (deedM dss (eventsB dss) b c k) ∧ TurnB w w' (blkB D v nv rv) (blkB D v nv' rv') := by
  have hb0 := S.work
  obtain ⟨u1, u2⟩ := workB_useR hb0
  have eB : eventsB dss = evsW dss dss.length := by rw [eventsB, if_pos hb0]
  have h12 : (evsW dss dss.length).length ≤ 12 := (events_law hb0).1
  have hok : okD ((dss.getD c []).getD k zD) = true := okC_of hb0 hc k hk
  have HDM : Hid (deedM dss (eventsB dss) b c k = deedM dss (evsW dss dss.length) b c k) := Lib.hid (by rw [eB])
  have S' := S
  have hsn := S.sn
  have hfr := S.fr
  rw [eB] at hsn hfr
  have hbase := h.base
  obtain ⟨vW, vP, vL, vN, vX, vS, vF, vR⟩ := v
  have W0 := h.work.rd
  obtain ⟨aW, cW, eW, hW⟩ := id W0
  simp only at eW
  subst eW
  rcases hW with h0 | ⟨bw, ow, rfl, hbw, hcw⟩
  · exfalso; rw [h0] at hc; simp at hc
  obtain ⟨vd, d1, r1⟩ := hcw c hc
  obtain ⟨ad, cd, rfl, r1⟩ := r1
  rcases r1 with h0 | ⟨bd, od, rfl, hbd, hcd⟩
  · exfalso; rw [h0] at hk; simp at hk
  obtain ⟨q0, q1, q2, q3⟩ := hcd k hk
  have HD : Hid (dAt dss c k = (dss.getD c []).getD k zD) := Lib.hid rfl
  obtain ⟨ds, hds⟩ : ∃ ds, ds = dss.getD c [] := ⟨_, rfl⟩
  rw [← hds] at d1 HD hk q0 q1 q2 q3 hok
  clear hds
  generalize ds.getD k zD = y at q0 q1 q2 q3 HD hok
  obtain ⟨y0, y1, y2, y3⟩ := y
  simp only at q0 q1 q2 q3
  have c0 : w.cell? ⟨D, 0, none⟩ = some (.slice (some ⟨bw, ow, none⟩) dss.length cW) := h.cells.1
  have i1 : (0 : Int) ≤ (c : Int) := Int.natCast_nonneg _
  have i2 : (c : Int) < (dss.length : Int) := by omega
  have i3 : (0 : Int) ≤ (k : Int) := Int.natCast_nonneg _
  have i4 : (k : Int) < (ds.length : Int) := by omega
  clear hcw hcd
  go_enter Tryz.func95, Tryz.ntmps95
  go_upto_region 1 with fail
  obtain ⟨wD, hwD⟩ : ∃ W : World, W = w.alloc (.cells #[.int .i64 y0, .int .i64 y1, .int .i64 y2, .int .i64 y3] 51) := ⟨_, rfl⟩
  have kD : Keep w wD := by rw [hwD]; exact (Keep.refl w).alloc _
  have lD : w.heap.size < wD.heap.size := by rw [hwD, heap_size]; omega
  have BX : Hid (∀ W : World, Keep wD W → W.cell? ⟨w.heap.size, 0, none⟩ = some (.int .i64 y0) ∧ W.cell? ⟨w.heap.size, 1, none⟩ = some (.int .i64 y1) ∧ W.cell? ⟨w.heap.size, 2, none⟩ = some (.int .i64 y2) ∧ W.cell? ⟨w.heap.size, 3, none⟩ = some (.int .i64 y3)) := Lib.hid (by
    rw [hwD]
    exact fun W k => ⟨box_cell k 0, box_cell k 1, box_cell k 2, box_cell k 3⟩)
  rw [← hwD]
  clear hwD
  have NB : ¬ blkB D ⟨.slice (some ⟨bw, ow, none⟩) dss.length cW, vP, vL, vN, vX, vS, vF, vR⟩ nv rv w.heap.size := fun hB => by have := (h.blk _ hB).2.1; omega
  have H1 := h.keep kD
  have W1 := W0.keep kD
  have c1 := (kD.cell (b := D) (o := 0) hbase.2).trans c0
  have T1 := (TurnB.refl w (blkB D ⟨.slice (some ⟨bw, ow, none⟩) dss.length cW, vP, vL, vN, vX, vS, vF, vR⟩ nv rv)).keep kD
  clear c0 d1 q0 q1 q2 q3 h W0
  go_wp2_with fail
  refine (l6Events_any _ _ _ W1 u1 u2).mono ?_
  rintro e w1 ⟨v1, rfl, a1, k1⟩
  have re := a1.rd
  generalize evsW dss dss.length = es at *
  clear a1 c1 W1
  go_wp2_with fail
  refine (l15Event_any _ _ _ c k re h12).mono ?_
  rintro e w2 ⟨rfl, k2⟩
  have K2 := k1.trans k2
  have H2 := H1.keep K2
  have T2 := T1.keep K2
  replace re := re.keep k2
  obtain ⟨g0, g1, g2, g3⟩ := BX.out _ K2
  have l2 : w.heap.size < w2.heap.size := Nat.lt_of_lt_of_le lD K2.size
  have hbD := H2.base
  have hkind : y0 = 1 ∨ y0 = 2 ∨ y0 = 3 ∨ y0 = 4 := by simp only [okD, deedB, decide_eq_true_eq] at hok; omega
  have hpl : 0 ≤ y1 ∧ y1 ≤ 2 := by simp only [okD, deedB, decide_eq_true_eq] at hok; omega
  have hgr : 0 ≤ y3 := by simp only [okD, deedB, decide_eq_true_eq] at hok; omega
  obtain ⟨p, rfl⟩ := Int.eq_ofNat_of_zero_le hpl.1
  have hp3 : p < 3 := by omega
  have HEV : Hid (∀ y : Dd, dAt dss c k = y → deedM dss es b c k = if y.1 = 1 then seeM (idxB rdE es) b (evM es c k) (rdgM b c y.2.1.toNat).1 (rdgM b c y.2.1.toNat).2
      else if y.1 = 3 then inkM (seeM (idxB rdE es) b (evM es c k) (b.plc.getD y.2.1.toNat 0) (b.lst.getD y.2.1.toNat 0)) y.2.1.toNat y.2.2.1 (evM es c k + 1)
      else if y.1 = 2 ∧ 0 < y.2.2.2 then inkM b y.2.1.toNat y.2.2.1 (evM es c k)
      else if y.1 = 2 then { b with nts := b.nts.set c (b.nts.getD c [] ++ [(y.2.1, y.2.2.1, evM es c k)]) }
      else b) := Lib.hid (fun y hy => by subst hy; rfl)
  have HEY := Lib.hid (HEV.out _ HD.out)
  simp only [Int.toNat_natCast] at HEY
  have evr : -1 ≤ evM es c k ∧ evM es c k ≤ 12 := evM_in es c k h12
  generalize evM es c k = EV at *
  clear HEV HD k1 k2 K2 H1 T1 BX hok
  rcases hkind with rfl | rfl | rfl | rfl
  ·
    have HM : Hid (deedM dss es b c k = seeM (idxB rdE es) b EV (rdgM b c p).1 (rdgM b c p).2) := Lib.hid (by rw [HEY.out, if_pos rfl])
    have CR := l14Reading_any w2.drew _ dss b c p H2.drew.rd (by rw [S.nts]; exact hc) (by rw [S.plc]; exact hp3) (by rw [S.lst]; exact hp3) (by have := S.nl c; omega)
    obtain ⟨e0, e1, e2, e3, e4, e5, e6, e7⟩ := H2.drew.cells
    simp only at e0 e1 e2 e3 e4 e5 e6 e7
    have zD : D < w2.drew.heap.size := hbD.2
    have zB : w.heap.size < w2.drew.heap.size := l2
    have g1' : w2.drew.cell? ⟨w.heap.size, 1, none⟩ = some (.int .i64 (p : Int)) := g1
    generalize rdgM b c p = RG at CR HM
    clear HEY
    go_wp2
    go_region_held3 (fun w' => w'.cell? ⟨D, 0, none⟩ = some (.slice (some ⟨bw, ow, none⟩) dss.length cW) ∧ w'.cell? ⟨D, 1, none⟩ = some vP ∧ w'.cell? ⟨D, 2, none⟩ = some vL ∧ w'.cell? ⟨D, 3, none⟩ = some vN ∧ w'.cell? ⟨D, 4, none⟩ = some vX ∧ w'.cell? ⟨D, 5, none⟩ = some vS ∧ w'.cell? ⟨D, 6, none⟩ = some vF ∧ w'.cell? ⟨D, 7, none⟩ = some vR ∧ w'.cell? ⟨w.heap.size, 1, none⟩ = some (.int .i64 (p : Int)))
      (first | go_keep | (go_split_ands; refine ⟨?_, ?_, ?_, ?_, ?_, ?_, ?_, ?_, ?_⟩ <;> (rw [kk.cell (by assumption)]; assumption)))
      ((go_at_call 59; refine CR.mono ?_; rintro e wz ⟨rfl, kk⟩))
    all_goals
      have H3 := H2.drew.keep kk
      have T3 := (T2.keep (Keep.refl w2).drew).keep kk
      have re3 := (re.keep (Keep.refl w2).drew).keep kk
      clear e0 e1 e2 e3 e4 e5 e6 e7 g0 g1 g2 g3 g1' CR
      go_wp2_with fail
      refine (l15See_any _ m D _ nv rv bs N dss b _ es EV RG.1 RG.2 H3 re3 h12 hsn hfr).mono ?_
      rintro e w4 ⟨rfl, H4, T4⟩
      go_wp2
      go_end0
      exact ⟨rfl, nv, rv, by rw [HDM.out, HM.out]; exact H4, T3.trans T4⟩
  ·
    by_cases hg : 0 < y3
    · have HM : Hid (deedM dss es b c k = inkM b p y2 EV) := Lib.hid (by rw [HEY.out, if_neg (by decide), if_neg (by decide), if_pos ⟨rfl, hg⟩])
      clear HEY
      go_wp2_with fail
      refine (l15Ink_any _ m D _ nv rv bs N dss b p y2 EV H2 (by rw [S.plc]; exact hp3) (by rw [S.lst]; exact hp3) (by rw [S.rws]; exact hp3) (by have := S.rl p; omega)).mono ?_
      rintro e w4 ⟨rfl, rv', H4, T4⟩
      go_wp2
      go_end0
      exact ⟨rfl, nv, rv', by rw [HDM.out, HM.out]; exact H4, T2.trans T4⟩
    · have HM : Hid (deedM dss es b c k = { b with nts := b.nts.set c (b.nts.getD c [] ++ [((p : Int), y2, EV)]) }) := Lib.hid (by rw [HEY.out, if_neg (by decide), if_neg (by decide), if_neg (fun h => hg h.2), if_pos rfl])
      obtain ⟨i0, hi, hz0, hz1, hz2⟩ := info_parts Tryz.infoN
      have hcn : c < b.nts.length := by rw [S.nts]; exact hc
      have hcv : c < nv.length := by rw [H2.ln]; exact hcn
      obtain ⟨aN, cNn, eN, hN⟩ := H2.drew.hN
      rcases hN with h0 | ⟨gn, rfl, lgn, dn⟩
      · exfalso; rw [h0] at hcn; simp at hcn
      simp only at eN
      subst eN
      have d3 := dn c hcn
      have c3 : w2.drew.cell? ⟨D, 3, none⟩ = some (.slice (some ⟨gn, 0, none⟩) b.nts.length cNn) := H2.drew.cells.2.2.2.1
      obtain ⟨au, cu, hu⟩ := (H2.oN hcn).shape
      have HU := Lib.hid hu
      rw [hu] at d3
      have H3 := (H2.keep ((Keep.refl w2).alloc (.cells #[.int .i64 (p : Int), .int .i64 y2, .int .i64 EV] 44))).drew
      have T3 := T2.keep (((Keep.refl w2).alloc (.cells #[.int .i64 (p : Int), .int .i64 y2, .int .i64 EV] 44)).drew)
      have o3 : ((w2.alloc (.cells #[.int .i64 (p : Int), .int .i64 y2, .int .i64 EV] 44)).drew).ownsRow m 44 3 (.slice au (b.nts.getD c []).length cu) (b.nts.getD c []).length ((b.nts.getD c []).flatMap cN) := by rw [← hu]; exact H3.oN hcn
      have s3 : m ≤ ((w2.alloc (.cells #[.int .i64 (p : Int), .int .i64 y2, .int .i64 EV] 44)).drew).heap.size := by have := H3.base; omega
      have nl := S.nl c
      have g1' : w2.drew.cell? ⟨w.heap.size, 1, none⟩ = some (.int .i64 (p : Int)) := g1
      have g2' : w2.drew.cell? ⟨w.heap.size, 2, none⟩ = some (.int .i64 y2) := g2
      have zD : D < w2.drew.heap.size := hbD.2
      have zB : w.heap.size < w2.drew.heap.size := l2
      have zN : gn < w2.drew.heap.size := lgn
      have zD2 : D < w2.heap.size := hbD.2
      have zN2 : gn < w2.heap.size := lgn
      have j2 : (c : Int) < (b.nts.length : Int) := by omega
      have hg0 : ¬ ((0 : Int) < y3) := hg
      obtain ⟨Z, hZ⟩ : ∃ Z, Z = b.nts.getD c [] := ⟨_, rfl⟩
      rw [← hZ] at d3 o3 nl HM HU
      clear hZ hu dn HEY
      have c3w : w2.cell? ⟨D, 3, none⟩ = some (.slice (some ⟨gn, 0, none⟩) b.nts.length cNn) := c3
      have d3w : w2.cell? ⟨gn, c, none⟩ = some (.slice au Z.length cu) := d3
      have m1 : Z.length + 1 ≤ maxLen := by unfold maxLen; omega
      have m2 : (Z.length + 1) * 24 ≤ 140737488355328 := by omega
      have d3a : (w2.alloc (.cells #[.int .i64 (p : Int), .int .i64 y2, .int .i64 EV] 44)).drew.cell? ⟨gn, c, none⟩ = some (.slice au Z.length cu) := ((((Keep.refl w2).alloc _).drew).cell zN2).trans d3
      have d3b : (w2.alloc (.cells #[.int .i64 (p : Int), .int .i64 y2, .int .i64 EV] 44)).cell? ⟨gn, c, none⟩ = some (.slice au Z.length cu) := d3a
      have ngB : gn ≠ w.heap.size := fun e => NB ⟨.nts, trivial, by show some gn = _; rw [e]⟩
      have HCC : ∀ (W : World), World.grownBy ((w2.alloc (.cells #[.int .i64 (p : Int), .int .i64 y2, .int .i64 EV] 44)).drew) W (Value.slice au Z.length cu).ownBlock → W.cell? ⟨D, 3, none⟩ = some (.slice (some ⟨gn, 0, none⟩) b.nts.length cNn) ∧ W.cell? ⟨w.heap.size, 1, none⟩ = some (.int .i64 (p : Int)) ∧ W.cell? ⟨w.heap.size, 2, none⟩ = some (.int .i64 y2) := fun W hgrow => by
        have ne : some w.heap.size ≠ (Value.slice au Z.length cu).ownBlock := fun e => NB ⟨.nt c, hcv, by show (nv.getD c nilS).ownBlock = _; rw [HU.out, ← e]⟩
        have bk := hgrow.block w.heap.size (Nat.lt_of_lt_of_le l2 (by simp)) ne
        have kA := ((Keep.refl w2).alloc (.cells #[.int .i64 (p : Int), .int .i64 y2, .int .i64 EV] 44)).drew
        exact ⟨(H3.stay (.nt c) hcv (by simp) (by show World.grownBy _ _ (nv.getD c nilS).ownBlock; rw [HU.out]; exact hgrow) 3).trans ((kA.cell hbD.2).trans c3), (World.cell?_of_block bk).trans ((kA.cell l2).trans g1), (World.cell?_of_block bk).trans ((kA.cell l2).trans g2)⟩
      have zDa : D < ((w2.alloc (.cells #[.int .i64 (p : Int), .int .i64 y2, .int .i64 EV] 44)).drew).heap.size := Nat.lt_of_lt_of_le zD2 (by simp)
      have c3a : (w2.alloc (.cells #[.int .i64 (p : Int), .int .i64 y2, .int .i64 EV] 44)).cell? ⟨D, 3, none⟩ = some (.slice (some ⟨gn, 0, none⟩) b.nts.length cNn) := (((Keep.refl w2).alloc _).cell zD2).trans c3
      have HNT : Hid (∀ (gg cap5 : Nat) (w5 : World), w5.ownsRow m 44 3 (.slice (some ⟨gg, 0, none⟩) (Z.length + 1) cap5) (Z.length + 1) (Z.flatMap cN ++ [.int .i64 (p : Int), .int .i64 y2, .int .i64 EV]) → World.grownBy ((w2.alloc (.cells #[.int .i64 (p : Int), .int .i64 y2, .int .i64 EV] 44)).drew) w5 (Value.slice au Z.length cu).ownBlock → ((Value.slice au Z.length cu).ownBlock = some gg ∨ gg = w2.heap.size + 1) →
          (w5.cell? ⟨D, 3, none⟩ = some (.slice (some ⟨gn, 0, none⟩) b.nts.length cNn) ∧ w5.cell? ⟨w.heap.size, 1, none⟩ = some (.int .i64 (p : Int)) ∧ w5.cell? ⟨w.heap.size, 2, none⟩ = some (.int .i64 y2)) ∧
          ((w5.setCell ⟨gn, c, none⟩ (.slice (some ⟨gg, 0, none⟩) (Z.length + 1) cap5)).cell? ⟨D, 3, none⟩ = some (.slice (some ⟨gn, 0, none⟩) b.nts.length cNn) ∧ (w5.setCell ⟨gn, c, none⟩ (.slice (some ⟨gg, 0, none⟩) (Z.length + 1) cap5)).cell? ⟨w.heap.size, 1, none⟩ = some (.int .i64 (p : Int)) ∧ (w5.setCell ⟨gn, c, none⟩ (.slice (some ⟨gg, 0, none⟩) (Z.length + 1) cap5)).cell? ⟨w.heap.size, 2, none⟩ = some (.int .i64 y2)) ∧
          w5.cell? ⟨gn, c, none⟩ = some (.slice au Z.length cu) ∧ w5.frozen? ⟨gn, c, none⟩ = false ∧
          ∃ nv' rv', OwnBd (w5.setCell ⟨gn, c, none⟩ (.slice (some ⟨gg, 0, none⟩) (Z.length + 1) cap5)) m D ⟨.slice (some ⟨bw, ow, none⟩) dss.length cW, vP, vL, .slice (some ⟨gn, 0, none⟩) b.nts.length cNn, vX, vS, vF, vR⟩ nv' rv' bs N dss (deedM dss (eventsB dss) b c k) ∧ TurnB w (w5.setCell ⟨gn, c, none⟩ (.slice (some ⟨gg, 0, none⟩) (Z.length + 1) cap5)) (blkB D ⟨.slice (some ⟨bw, ow, none⟩) dss.length cW, vP, vL, .slice (some ⟨gn, 0, none⟩) b.nts.length cNn, vX, vS, vF, vR⟩ nv rv) (blkB D ⟨.slice (some ⟨bw, ow, none⟩) dss.length cW, vP, vL, .slice (some ⟨gn, 0, none⟩) b.nts.length cNn, vX, vS, vF, vR⟩ nv' rv')) := Lib.hid (fun gg cap5 w5 hown5 hgrow hat => by
        have HH := H3.headN hcn (u := (.slice (some ⟨gg, 0, none⟩) (Z.length + 1) cap5)) (ns := Z ++ [((p : Int), y2, EV)]) (by rw [HU.out]; exact hgrow) (by rw [HU.out]; rcases hat with h | h; exact .inl h.symm; exact .inr (.inl (by rw [h]; simp [Value.ownBlock]))) (appT_hit hown5) rfl
        obtain ⟨HO, hcell, hfr⟩ := HH
        rw [HU.out] at hcell
        refine ⟨HCC w5 hgrow, ⟨HO.cells.2.2.2.1, (World.cell?_of_block (heap_setCell_other w5 ⟨gn, c, none⟩ w.heap.size _ (fun e => ngB e.symm))).trans (HCC w5 hgrow).2.1, (World.cell?_of_block (heap_setCell_other w5 ⟨gn, c, none⟩ w.heap.size _ (fun e => ngB e.symm))).trans (HCC w5 hgrow).2.2⟩, hcell, hfr, nv.set c (.slice (some ⟨gg, 0, none⟩) (Z.length + 1) cap5), rv, by rw [HDM.out, HM.out]; exact HO, ?_⟩
        refine ((T3.grown hgrow (fun g hg => ⟨.nt c, hcv, by show (nv.getD c nilS).ownBlock = _; rw [HU.out]; exact hg⟩)).grown (grown_set _ gn c _) (fun g hg => ⟨.nts, trivial, hg⟩)).more (fun g hg => ?_)
        rcases blk_setN hcv hg with h1 | h1
        · exact .inl h1
        · rcases hat with h2 | h2
          · exact .inl ⟨.nt c, hcv, by show (nv.getD c nilS).ownBlock = _; rw [HU.out, h2]; exact h1⟩
          · have e2 : gg = g := Option.some.inj h1
            have := T2.size
            right; omega)
      have g1a : (w2.alloc (.cells #[.int .i64 (p : Int), .int .i64 y2, .int .i64 EV] 44)).cell? ⟨w.heap.size, 1, none⟩ = some (.int .i64 (p : Int)) := (((Keep.refl w2).alloc _).cell l2).trans g1
      have HC0 : w2.drew.cell? ⟨D, 3, none⟩ = some (.slice (some ⟨gn, 0, none⟩) b.nts.length cNn) ∧ w2.drew.cell? ⟨w.heap.size, 1, none⟩ = some (.int .i64 (p : Int)) ∧ w2.drew.cell? ⟨w.heap.size, 2, none⟩ = some (.int .i64 y2) := ⟨c3, g1', g2'⟩
      have HC1 : (w2.alloc (.cells #[.int .i64 (p : Int), .int .i64 y2, .int .i64 EV] 44)).drew.cell? ⟨D, 3, none⟩ = some (.slice (some ⟨gn, 0, none⟩) b.nts.length cNn) ∧ (w2.alloc (.cells #[.int .i64 (p : Int), .int .i64 y2, .int .i64 EV] 44)).drew.cell? ⟨w.heap.size, 1, none⟩ = some (.int .i64 (p : Int)) ∧ (w2.alloc (.cells #[.int .i64 (p : Int), .int .i64 y2, .int .i64 EV] 44)).drew.cell? ⟨w.heap.size, 2, none⟩ = some (.int .i64 y2) := ⟨((((Keep.refl w2).alloc _).drew).cell zD2).trans c3, ((((Keep.refl w2).alloc _).drew).cell l2).trans g1', ((((Keep.refl w2).alloc _).drew).cell l2).trans g2'⟩
      clear HCC HM HU T3 H3 S S' hn hc hb0 u1 u2 eB h12 HDM hsn hfr hbase hbw hbd hk H2 T2 re hbD evr hgr hpl hp3 hg NB kD lD ngB hcn hcv nl lgn zD zB zN i1 i2 i3 i4
      have j0 : (0 : Int) ≤ (c : Int) := Int.natCast_nonneg _
      go_wp2_with fail
      clear g0 g3 hg0
      refine wp_region_held_drew (S := (fun w' => w'.cell? ⟨D, 3, none⟩ = some (.slice (some ⟨gn, 0, none⟩) b.nts.length cNn) ∧ w'.cell? ⟨w.heap.size, 1, none⟩ = some (.int .i64 (p : Int)) ∧ w'.cell? ⟨w.heap.size, 2, none⟩ = some (.int .i64 y2))) (by kernel_rfl) ?_ (fun hHeld => ?_)
      · exact HC0
      refine takeQ 0 102 (v := ?_) ?_ ?_
      rotate_left
      · intro wx hSw
        go_simp
        with_reducible rfl
      refine takeQ 1 103 (v := ?_) ?_ ?_
      rotate_left
      · intro wx hSw
        go_simp
        with_reducible rfl
      refine takeQ 2 104 (v := ?_) ?_ ?_
      rotate_left
      · intro wx hSw
        go_simp
        with_reducible rfl
      refine takeQ 3 105 (v := ?_) ?_ ?_
      rotate_left
      · intro wx hSw
        go_simp
        with_reducible rfl
      refine takeQ 4 106 (v := ?_) ?_ ?_
      rotate_left
      · intro wx hSw
        go_simp
        with_reducible rfl
      refine takeQ 5 107 (v := ?_) ?_ ?_
      rotate_left
      · intro wx hSw
        go_simp
        with_reducible rfl
      refine takeQ 6 108 (v := ?_) ?_ ?_
      rotate_left
      · intro wx hSw
        go_simp
        with_reducible rfl
      refine takeQ 7 109 (v := ?_) ?_ ?_
      rotate_left
      · intro wx hSw
        go_simp
        with_reducible rfl
      refine takeQ 8 110 (v := ?_) ?_ ?_
      rotate_left
      · intro wx hSw
        go_simp
        with_reducible rfl
      refine takeQ 9 111 (v := ?_) ?_ ?_
      rotate_left
      · intro wx hSw
        go_simp
        with_reducible rfl
      refine takeQ 10 112 (v := ?_) ?_ ?_
      rotate_left
      · intro wx hSw
        go_simp
        with_reducible rfl
      refine takeQ 12 114 (v := ?_) ?_ ?_
      rotate_left
      · intro wx hSw
        go_simp
        with_reducible rfl
      refine takeQ 13 115 (v := ?_) ?_ ?_
      rotate_left
      · intro wx hSw
        go_simp
        with_reducible rfl
      refine takeQ 14 116 (v := ?_) ?_ ?_
      rotate_left
      · intro wx hSw
        go_simp
        with_reducible rfl
      refine takeQ 15 117 (v := ?_) ?_ ?_
      rotate_left
      · intro wx hSw
        go_simp
        with_reducible rfl
      refine takeQ 16 118 (v := ?_) ?_ ?_
      rotate_left
      · intro wx hSw
        go_simp
        with_reducible rfl
      refine takeQ 17 119 (v := ?_) ?_ ?_
      rotate_left
      · intro wx hSw
        go_simp
        with_reducible rfl
      simp only [Act.put, List.setIfInBounds_toArray, List.set_cons_zero, List.set_cons_succ]
      refine wpAnyH_ready (rs := [11, 18]) (by kernel_rfl) (by simp) ?_
      refine AllReadyH.cons rfl (fun K hK => ?_) (AllReadyH.cons rfl (fun K hK => ?_) AllReadyH.nil)
      · go_simp
        refine hK.out _ _ ?_ (fun hHeld => ?_)
        · exact HC0
        clear hK K
        refine wpAnyH_ready (rs := [18]) (by kernel_rfl) (by simp) ?_
        refine AllReadyH.cons rfl (fun K hK => ?_) AllReadyH.nil
        go_simp
        refine hK.out _ _ ?_ (fun hHeld => ?_)
        · exact HC1
        clear hK K
        refine wpAnyH_ready (rs := [19]) (by kernel_rfl) (by simp) ?_
        refine AllReadyH.cons rfl (fun K hK => ?_) AllReadyH.nil
        refine step_append_lies _ (by rfl) _ _ _ (by rfl) m 44 i0 _ 3 24 Tryz.underlying42 hi hz0 hz1 hz2 rfl (by omega) (.slice au Z.length cu) Z.length (Z.flatMap cN) (by rfl) o3 ⟨w2.heap.size, 0, none⟩ 1 1 [.int .i64 (p : Int), .int .i64 y2, .int .i64 EV] (by rfl) (by rfl) (World.news_of_block (cs := #[.int .i64 (p : Int), .int .i64 y2, .int .i64 EV]) (t := 44) (fr := (0, 0)) (heap_alloc_new w2 _)) (by simp [Value.oneCell']) (by omega) m1 m2 s3 (w2.heap.size + 1) (by simp) ?_
        intro gg cap5 w5 hown5 hgrow hat hlt5
        obtain ⟨HC, HC2, hcell, hfr, HO⟩ := HNT.out gg cap5 w5 hown5 hgrow hat
        have HO := Lib.hid HO
        clear hown5 hgrow hat hlt5
        refine hK.out _ _ ?_ (fun hHeld => ?_)
        · exact HC
        clear hK K
        simp only [Act.put, List.setIfInBounds_toArray]
        refine takeQ 20 122 (v := ?_) ?_ ?_
        rotate_left
        · intro wx hSw
          go_simp
          with_reducible rfl
        simp only [Act.put]
        refine wpAnyH_ready (rs := [21]) (by kernel_rfl) (by simp) ?_
        refine AllReadyH.cons rfl (fun K hK => ?_) AllReadyH.nil
        go_simp
        refine hK.out _ _ ?_ (fun hHeld => ?_)
        · exact HC2
        clear hK K
        refine wpAnyH_done (by kernel_rfl) ?_ _
        clear HC HC2 hcell hfr hHeld
        go_wp2
        go_end0
        exact ⟨rfl, HO.out⟩
      · go_simp
        refine hK.out _ _ ?_ (fun hHeld => ?_)
        · exact HC1
        clear hK K
        refine wpAnyH_ready (rs := [11]) (by kernel_rfl) (by simp) ?_
        refine AllReadyH.cons rfl (fun K hK => ?_) AllReadyH.nil
        go_simp
        refine hK.out _ _ ?_ (fun hHeld => ?_)
        · exact HC1
        clear hK K
        refine wpAnyH_ready (rs := [19]) (by kernel_rfl) (by simp) ?_
        refine AllReadyH.cons rfl (fun K hK => ?_) AllReadyH.nil
        refine step_append_lies _ (by rfl) _ _ _ (by rfl) m 44 i0 _ 3 24 Tryz.underlying42 hi hz0 hz1 hz2 rfl (by omega) (.slice au Z.length cu) Z.length (Z.flatMap cN) (by rfl) o3 ⟨w2.heap.size, 0, none⟩ 1 1 [.int .i64 (p : Int), .int .i64 y2, .int .i64 EV] (by rfl) (by rfl) (World.news_of_block (cs := #[.int .i64 (p : Int), .int .i64 y2, .int .i64 EV]) (t := 44) (fr := (0, 0)) (heap_alloc_new w2 _)) (by simp [Value.oneCell']) (by omega) m1 m2 s3 (w2.heap.size + 1) (by simp) ?_
        intro gg cap5 w5 hown5 hgrow hat hlt5
        obtain ⟨HC, HC2, hcell, hfr, HO⟩ := HNT.out gg cap5 w5 hown5 hgrow hat
        have HO := Lib.hid HO
        clear hown5 hgrow hat hlt5
        refine hK.out _ _ ?_ (fun hHeld => ?_)
        · exact HC
        clear hK K
        simp only [Act.put, List.setIfInBounds_toArray]
        refine takeQ 20 122 (v := ?_) ?_ ?_
        rotate_left
        · intro wx hSw
          go_simp
          with_reducible rfl
        simp only [Act.put]
        refine wpAnyH_ready (rs := [21]) (by kernel_rfl) (by simp) ?_
        refine AllReadyH.cons rfl (fun K hK => ?_) AllReadyH.nil
        go_simp
        refine hK.out _ _ ?_ (fun hHeld => ?_)
        · exact HC2
        clear hK K
        refine wpAnyH_done (by kernel_rfl) ?_ _
        clear HC HC2 hcell hfr hHeld
        go_wp2
        go_end0
        exact ⟨rfl, HO.out⟩
  ·
    have HM : Hid (deedM dss es b c k = inkM (seeM (idxB rdE es) b EV (b.plc.getD p 0) (b.lst.getD p 0)) p y2 (EV + 1)) := Lib.hid (by rw [HEY.out, if_neg (by decide), if_pos rfl])
    have hpp : p < b.plc.length := by rw [S.plc]; exact hp3
    have hpl' : p < b.lst.length := by rw [S.lst]; exact hp3
    obtain ⟨gp, cp, eP, lp, dp, -⟩ := H2.drew.oP.lit hpp
    obtain ⟨gl, cl, eL, ll, dl, -⟩ := H2.drew.oL.lit hpl'
    simp only at eP eL
    subst eP eL
    have e1 : w2.drew.cell? ⟨D, 1, none⟩ = some (.slice (some ⟨gp, 0, none⟩) b.plc.length cp) := H2.drew.cells.2.1
    have e2 : w2.drew.cell? ⟨D, 2, none⟩ = some (.slice (some ⟨gl, 0, none⟩) b.lst.length cl) := H2.drew.cells.2.2.1
    have f1 := dp p hpp
    have f2 := dl p hpl'
    have g1' : w2.drew.cell? ⟨w.heap.size, 1, none⟩ = some (.int .i64 (p : Int)) := g1
    have j1 : (0 : Int) ≤ (p : Int) := Int.natCast_nonneg _
    have j2 : (p : Int) < (b.plc.length : Int) := by omega
    have j3 : (p : Int) < (b.lst.length : Int) := by omega
    have SE := S.see EV (b.plc.getD p 0) (b.lst.getD p 0)
    rw [eB] at SE
    obtain ⟨xp, hxp⟩ : ∃ x, x = b.plc.getD p 0 := ⟨_, rfl⟩
    obtain ⟨xl, hxl⟩ : ∃ x, x = b.lst.getD p 0 := ⟨_, rfl⟩
    rw [← hxp] at f1 SE HM
    rw [← hxl] at f2 SE HM
    have HXP : Hid (b.plc.getD p 0 = xp) := Lib.hid hxp.symm
    have HXL : Hid (b.lst.getD p 0 = xl) := Lib.hid hxl.symm
    clear hxp hxl
    have CS := fun (W : World) (hw : W = w2.drew) => l15See_any W m D _ nv rv bs N dss b _ es EV xp xl (hw ▸ H2.drew) (hw ▸ re.keep (Keep.refl w2).drew) h12 hsn hfr
    have CSE : ∀ (W : World), OwnBd W m D ⟨.slice (some ⟨bw, ow, none⟩) dss.length cW, .slice (some ⟨gp, 0, none⟩) b.plc.length cp, .slice (some ⟨gl, 0, none⟩) b.lst.length cl, vN, vX, vS, vF, vR⟩ nv rv bs N dss (seeM (idxB rdE es) b EV xp xl) → TurnB w2.drew W (blkB D ⟨.slice (some ⟨bw, ow, none⟩) dss.length cW, .slice (some ⟨gp, 0, none⟩) b.plc.length cp, .slice (some ⟨gl, 0, none⟩) b.lst.length cl, vN, vX, vS, vF, vR⟩ nv rv) (blkB D ⟨.slice (some ⟨bw, ow, none⟩) dss.length cW, .slice (some ⟨gp, 0, none⟩) b.plc.length cp, .slice (some ⟨gl, 0, none⟩) b.lst.length cl, vN, vX, vS, vF, vR⟩ nv rv) → W.cell? ⟨D, 1, none⟩ = some (.slice (some ⟨gp, 0, none⟩) b.plc.length cp) ∧ W.cell? ⟨D, 2, none⟩ = some (.slice (some ⟨gl, 0, none⟩) b.lst.length cl) ∧ W.cell? ⟨gp, p, none⟩ = some (.int .i64 xp) ∧ W.cell? ⟨gl, p, none⟩ = some (.int .i64 xl) ∧ W.cell? ⟨w.heap.size, 1, none⟩ = some (.int .i64 (p : Int)) := fun W h1 t1 => by
      obtain ⟨gp', cp', eP', -, dp', -⟩ := h1.oP.lit hpp
      obtain ⟨gl', cl', eL', -, dl', -⟩ := h1.oL.lit hpl'
      simp only [Value.slice.injEq, Option.some.injEq, Addr.mk.injEq, and_true] at eP' eL'
      obtain ⟨rfl, -, rfl⟩ := eP'
      obtain ⟨rfl, -, rfl⟩ := eL'
      exact ⟨h1.cells.2.1, h1.cells.2.2.1, by rw [← HXP.out]; exact dp' p hpp, by rw [← HXL.out]; exact dl' p hpl', (t1.cell l2 NB).trans g1'⟩
    have jw : IntKind.i64.wrap (EV + 1) = EV + 1 := by rw [IntKind.wrap_i64]; omega
    clear HEY dp dl
    go_wp2
    have zD : D < w2.drew.heap.size := hbD.2
    have zB : w.heap.size < w2.drew.heap.size := l2
    go_region_held3 (fun w' => w'.cell? ⟨D, 1, none⟩ = some (.slice (some ⟨gp, 0, none⟩) b.plc.length cp) ∧ w'.cell? ⟨D, 2, none⟩ = some (.slice (some ⟨gl, 0, none⟩) b.lst.length cl) ∧ w'.cell? ⟨gp, p, none⟩ = some (.int .i64 xp) ∧ w'.cell? ⟨gl, p, none⟩ = some (.int .i64 xl) ∧ w'.cell? ⟨w.heap.size, 1, none⟩ = some (.int .i64 (p : Int)))
      (first | go_keep | exact HC)
      ((go_at_call 115; refine (CS _ rfl).mono ?_; rintro e w3 ⟨rfl, H3, T3⟩; have HC := CSE w3 H3 T3))
    all_goals
      have T3' := (T2.keep (Keep.refl w2).drew).trans T3
      have b1 : w3.cell? ⟨w.heap.size, 1, none⟩ = some (.int .i64 (p : Int)) := (T3.cell l2 NB).trans g1'
      have b2 : w3.cell? ⟨w.heap.size, 2, none⟩ = some (.int .i64 y2) := (T3.cell l2 NB).trans g2
      clear e1 e2 f1 f2 g0 g1 g2 g3 g1'
      go_wp2_with fail
      refine (l15Ink_any _ m D _ nv rv bs N dss _ p y2 (EV + 1) H3 (by rw [SE.plc]; exact hp3) (by rw [SE.lst]; exact hp3) (by rw [SE.rws]; exact hp3) (by have := SE.rl p; omega)).mono ?_
      rintro e w4 ⟨rfl, rv', H4, T4⟩
      go_wp2
      go_end0
      exact ⟨rfl, nv, rv', by rw [HDM.out, HM.out]; exact H4, T3'.trans T4⟩
  ·
    have HM : Hid (deedM dss es b c k = b) := Lib.hid (by rw [HEY.out, if_neg (by decide), if_neg (by decide), if_neg (fun h => absurd h.1 (by decide)), if_neg (by decide)])
    clear HEY
    go_wp2
    go_end0
    exact ⟨rfl, nv, rv, by rw [HDM.out, HM.out]; exact H2, T2⟩
end Go.Proofs.YtgakfkjjkobpiaaGreat
