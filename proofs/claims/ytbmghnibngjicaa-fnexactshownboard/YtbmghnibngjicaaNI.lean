/- Gathered texts. -/
import Derived.Test.YtbmghnibngjicaaNG
import Derived.Outline
import Derived.Laws.AppendOwnNone
import Derived.Test.YtbmghnibngjicaaMM
import Derived.Test.YtbmghnibngjicaaMO
import Derived.BigRegion
import Derived.Deep.RegionLaw
set_option maxRecDepth 100000
set_option maxHeartbeats 8000000
namespace Go.Proofs.Ytbmghnibngjicaa
open Go.ChangeShapes Go.WideShapes Go.ChangeAt Go.RowKit
theorem l1Copy_rd (w : World) (v : Value) (zs : List Int) (h : Rd w v zs) (hn : zs.length ≤ 1048576) :
    Calls Try.prog 88 #[v] w fun e w' => ∃ v', e = .returned v' ∧ Own w' w.heap.size v' zs ∧ Keep w w' := by
  have ho : Own (w.alloc (.cells #[] 2)) w.heap.size (.slice (some ⟨w.heap.size, 0, none⟩) 0 0) [] := World.ownsRow_lit w #[] 0 (Nat.le_refl _) (by decide) rfl
  have hK : Keep w (w.alloc (.cells #[] 2)) := (Keep.refl w).alloc _
  obtain ⟨i0, hi, hz0, hz1, hz2⟩ := info_parts Try.infoI
  obtain ⟨a, cap, rfl, h⟩ := h
  rcases h with rfl | ⟨g, off, rfl, hg, hc⟩
  · cases a with
    | none =>
      go_enter Try.func88, Try.ntmps88
      go_wp2
      go_ret
      exact ⟨_, rfl, ho, hK⟩
    | some x =>
      go_enter Try.func88, Try.ntmps88
      go_wp2_with (at_builtin; refine wpList_append_own _ rfl _ _ 23 rfl w.heap.size 2 i0 (.int .i64 0) 1 8 Try.underlying23 hi hz0 hz1 hz2 rfl (by decide) _ _ _ rfl ho x 0 cap [] rfl rfl ?c1 ?c2 ?c3 ?c4 ?c5 ?_)
      case c1 => intro j u hj; simp at hj
      case c2 => intro u hu; simp at hu
      case c3 => simp
      case c4 => simp
      case c5 => simp
      intro v' w1 hown' hgrow _
      have k1 : Keep w w1 := hK.grown hgrow ho.ge
      have o1 : Own w1 w.heap.size v' [] := by unfold Own; simpa using hown'
      clear hgrow hown'
      go_wp2
      go_ret
      exact ⟨_, rfl, o1, k1⟩
  · have C := rd_cells (w := w.alloc (.cells #[] 2)) (b := g) (off := off) (zs := zs) (fun i hi => (hK.cell hg).trans (hc i hi))
    go_enter Try.func88, Try.ntmps88
    go_wp2_with (at_builtin; refine wpList_append_own _ rfl _ _ 23 rfl w.heap.size 2 i0 (.int .i64 0) 1 8 Try.underlying23 hi hz0 hz1 hz2 rfl (by decide) _ _ _ rfl ho ⟨g, off, none⟩ zs.length cap (zs.map (Value.int .i64)) rfl (by simp) ?c1 ?c2 ?c3 ?c4 ?c5 ?_)
    case c1 => exact C
    case c2 => exact ints_one zs
    case c3 => simp; unfold maxLen; omega
    case c4 => simp; omega
    case c5 => simp
    intro v' w1 hown' hgrow _
    have k1 : Keep w w1 := hK.grown hgrow ho.ge
    have o1 : Own w1 w.heap.size v' zs := by unfold Own; simpa using hown'
    clear hgrow hown'
    go_wp2
    go_ret
    exact ⟨_, rfl, o1, k1⟩
theorem l14Shown_any (w : World) (v : BV) (dss : List (List Dd)) (b : Bd) (h : RdBd w v dss b) (hp : 0 < b.plc.length) (hp2 : b.plc.length ≤ 1048576) (hs : b.sn.length ≤ 1048576) :
    Calls Try.prog 65 #[v.agg] w fun e w' => ∃ v', e = .returned v' ∧ Own w' w.heap.size v' (b.sn ++ b.plc) ∧ Keep w w' := by
  obtain ⟨i0, hi, hz0, hz1, hz2⟩ := info_parts Try.infoI
  obtain ⟨aW, aP, aL, aN, aX, aS, aF, aR, cW, cP, cL, cN, cX, cS, cF, cR, rfl⟩ := h.shapes
  have KW : Keep w ((w.alloc (.cells #[.slice aW dss.length cW, .slice aP b.plc.length cP, .slice aL b.lst.length cL, .slice aN b.nts.length cN, .slice aX b.nxt.length cX, .slice aS b.sn.length cS, .slice aF b.fr.length cF, .slice aR b.rws.length cR] 33)).drew) := ((Keep.refl w).alloc _).drew
  have c1 : ((w.alloc (.cells #[.slice aW dss.length cW, .slice aP b.plc.length cP, .slice aL b.lst.length cL, .slice aN b.nts.length cN, .slice aX b.nxt.length cX, .slice aS b.sn.length cS, .slice aF b.fr.length cF, .slice aR b.rws.length cR] 33)).drew).cell? ⟨w.heap.size, 1, none⟩ = some (.slice aP b.plc.length cP) := box_cell (Keep.refl _) 1
  have c5 : ((w.alloc (.cells #[.slice aW dss.length cW, .slice aP b.plc.length cP, .slice aL b.lst.length cL, .slice aN b.nts.length cN, .slice aX b.nxt.length cX, .slice aS b.sn.length cS, .slice aF b.fr.length cF, .slice aR b.rws.length cR] 33)).drew).cell? ⟨w.heap.size, 5, none⟩ = some (.slice aS b.sn.length cS) := box_cell (Keep.refl _) 5
  have z1 : w.heap.size < ((w.alloc (.cells #[.slice aW dss.length cW, .slice aP b.plc.length cP, .slice aL b.lst.length cL, .slice aN b.nts.length cN, .slice aX b.nxt.length cX, .slice aS b.sn.length cS, .slice aF b.fr.length cF, .slice aR b.rws.length cR] 33)).drew).heap.size := by rw [heap_drew, heap_size]; omega
  have HS := Lib.hid h.S
  have HP := Lib.hid h.P
  obtain ⟨a', c', he', hP⟩ := h.P
  simp only [Value.slice.injEq, true_and] at he'
  obtain ⟨rfl, rfl⟩ := he'
  rcases hP with h0 | ⟨bp, op, rfl, hbp, hcp⟩
  · exfalso; rw [h0] at hp; simp at hp
  clear h
  go_enter Try.func65, Try.ntmps65
  go_wp2
  go_region_law ((first
    | (refine step_append_at rfl (.tmp 5) (.tmp 7) 23 rfl w.heap.size 2 i0 (.int .i64 0) 1 8 Try.underlying23 hi hz0 hz1 hz2 rfl (by decide) _ b.sn.length (b.sn.map (Value.int .i64)) rfl (O1.base_le (Nat.le_trans KW.size (Nat.le_refl _))) ⟨bp, op, none⟩ b.plc.length cP (b.plc.map (Value.int .i64)) rfl (by simp) (rd_cells (fun i hi => (K1.cell hbp).trans (hcp i hi))) (by intro u hu; simp at hu; obtain ⟨x, _, rfl⟩ := hu; rfl) (by unfold maxLen; omega) (by omega) (Nat.le_trans KW.size k1.size) ?_
       intro v' w2 hown' hgrow _
       have O2 : Own w2 w.heap.size v' (b.sn ++ b.plc) := by unfold Own; rw [List.length_append, List.map_append]; exact hown'
       have K2 : Keep w w2 := K1.grown hgrow (fun k hk => Nat.le_trans KW.size (O1.ge k hk))
       clear hown' hgrow)
    | (go_simp
       refine (l1Copy_rd _ _ b.sn (HS.out.keep KW) hs).mono ?_
       rintro e w1 ⟨v1, rfl, O1, k1⟩
       have K1 := KW.trans k1
       have c1' := (k1.cell z1).trans c1
       obtain ⟨g1, m1, hv1, -⟩ := id O1.rd
       subst hv1)))
  all_goals
    go_wp2
    go_ret
    exact ⟨_, rfl, O2, K2⟩
theorem specShownBoard_any (w : World) (v : BV) (dss : List (List Dd)) (b : Bd) (h : RdBd w v dss b) (hz : SzBd dss b) :
    Calls Try.prog 25 #[v.agg] w fun e w' => ∃ v', e = .returned v' ∧ Own w' w.heap.size v' (shownB dss b) ∧ Keep w w' := by
  obtain ⟨aW, aP, aL, aN, aX, aS, aF, aR, cW, cP, cL, cN, cX, cS, cF, cR, rfl⟩ := h.shapes
  have CB := fun (W : World) (kW : Keep w W) => specBoardOk_any W _ dss b (h.keep kW) hz
  have HH := Lib.hid h
  have HD : Hid (shownB dss b = if boardB dss b = true then b.sn ++ b.plc else []) := Lib.hid rfl
  have h1 := hz.plc
  have h2 := hz.sn
  clear h hz
  go_enter Try.func25, Try.ntmps25
  go_wp2_with fail
  refine (CB _ ((Keep.refl w).alloc _)).mono ?_
  rintro e w1 ⟨rfl, k1⟩
  have K1 := ((Keep.refl w).alloc _).trans k1
  have c0 := box_cell k1 0
  have c1 := box_cell k1 1
  have c2 := box_cell k1 2
  have c3 := box_cell k1 3
  have c4 := box_cell k1 4
  have c5 := box_cell k1 5
  have c6 := box_cell k1 6
  have c7 := box_cell k1 7
  simp at c0 c1 c2 c3 c4 c5 c6 c7
  clear CB
  have s1 := K1.size
  cases hb : boardB dss b
  · have HE : Hid (shownB dss b = []) := Lib.hid (by rw [HD.out, hb]; rfl)
    have o1 : Own (w1.alloc (.cells #[] 2)) w1.heap.size (.slice (some ⟨w1.heap.size, 0, none⟩) 0 0) [] := World.ownsRow_lit w1 #[] 0 (Nat.le_refl _) (by decide) rfl
    go_wp2
    go_ret
    exact ⟨_, rfl, by rw [HE.out]; exact Own.base_le o1 s1, K1.alloc _⟩
  · have HE : Hid (shownB dss b = b.sn ++ b.plc) := Lib.hid (by rw [HD.out, hb]; rfl)
    have u1 := (board_use hb).1
    have CL := l14Shown_any w1 _ dss b (HH.out.keep K1) (by omega) h1 h2
    clear u1 hb HD
    go_wp2_with fail
    refine CL.mono ?_
    rintro e w2 ⟨v2, rfl, o2, k2⟩
    go_wp2
    go_ret
    exact ⟨_, rfl, by rw [HE.out]; exact o2.base_le s1, K1.trans k2⟩
theorem row_only {w w' : World} {base lo hi : Nat} {v : Value} {zs : List Int} (h : Row w base v zs) (k : Only lo hi w w') (hb : hi ≤ base) : Row w' base v zs := by
  rcases h with h | ⟨g, cap, hv, hg, hr⟩
  · exact .inl h
  · have hlt := hr.lt
    obtain ⟨cur, e, hh, ht⟩ := hr
    exact .inr ⟨g, cap, hv, hg, cur, e, (k.block g hlt (.inr (Nat.le_trans hb hg))).trans hh, ht⟩
theorem shown_len {dss : List (List Dd)} {b : Bd} (_ : SzBd dss b) : (shownB dss b).length ≤ 1048576 := by
  unfold shownB
  cases h : boardB dss b with
  | false => simp
  | true =>
    obtain ⟨h1, h2, h3, h4, h5, h6, h7, h8, h9, h10⟩ := board_all h
    simp
    omega
end Go.Proofs.Ytbmghnibngjicaa
