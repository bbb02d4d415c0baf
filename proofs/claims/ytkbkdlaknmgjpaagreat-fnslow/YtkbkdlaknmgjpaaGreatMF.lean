/- Several texts in one. -/
import Derived.Test.YtkbkdlaknmgjpaaGreatME
import Derived.Test.YtkbkdlaknmgjpaaGreatMA
import Derived.Test.YtkbkdlaknmgjpaaGreatMD
import Derived.Test.YtkbkdlaknmgjpaaGreatMB
import Derived.BigRegion
import Derived.Deep.QuietTactic
import Derived.BigQuiet
import Derived.Lib.Hide
import Derived.Test.YtkbkdlaknmgjpaaGreatMC
import Derived.Deep.Cut
import Derived.Test.YtkbkdlaknmgjpaaGreatRows
import Derived.OpenShut
import Derived.Outline
import Derived.RegionTactic
import Derived.Deep.RegionHeld3
import Derived.Deep.AppendLies
import Derived.OwnWalk
import Derived.StillTactics
import Derived.Laws.Pointers
import Derived.Laws.AppendOwnNone
/- Contract of the specification's RowsOk. -/
namespace Go.Proofs.YtkbkdlaknmgjpaaGreat
open Go.ChangeShapes Go.WideShapes Go.ChangeAt Go.RowKit

theorem specRowsOk_any (w : World) (v vf : Value) (dss : List (List Dd)) (f : List Int) (h : RdW w v dss) (hf : Rd w vf f) (hcap : f.length ≤ capZ vf) (hx : dss.length ≤ 1048576) (hm : ∀ i, i < dss.length → (dss.getD i []).length ≤ 1048576) (hfl : f.length ≤ 1048576) :
    Calls Tryz.prog 61 #[v, vf] w fun e w' => e = .returned (.bool (rowsB dss f)) ∧ Keep w w' := by
  cases hb : workB dss
  · have HE : Hid (rowsB dss f = false) := Lib.hid (by rw [rowsB, hb]; rfl)
    go_enter Tryz.func61, Tryz.ntmps61
    go_wp2_with fail
    refine (specWorkOk_any _ _ _ h hx hm).mono ?_
    rw [hb]
    rintro e w1 ⟨rfl, k1⟩
    go_wp2
    go_ret
    exact ⟨by rw [HE.out]; rfl, k1⟩
  · have HE : Hid (rowsB dss f = rowsL (evsW dss dss.length) f) := Lib.hid (by rw [rowsB, hb, eventsB, if_pos hb]; rfl)
    obtain ⟨u1, u2⟩ := workB_useR hb
    have h9 := evsW_9 hb
    have hp := plcW_pos hb
    have C := specWorkOk_any w v dss h hx hm
    rw [hb] at C
    go_enter Tryz.func61, Tryz.ntmps61
    go_wp2_with fail
    refine C.mono ?_
    rintro e w1 ⟨rfl, k1⟩
    go_wp2_with fail
    refine (l6Events_any _ _ _ (h.keep k1) u1 u2).mono ?_
    rintro e w2 ⟨v2, rfl, a2, k2⟩
    go_wp2_with fail
    refine (l9Ok_any _ _ _ _ _ a2.rd (hf.keep (k1.trans k2)) hcap (by omega) hfl hp).mono ?_
    rintro e w3 ⟨rfl, k3⟩
    generalize rowsL (evsW dss dss.length) f = R at HE
    go_wp2
    go_ret
    exact ⟨by rw [HE.out]; rfl, (k1.trans k2).trans k3⟩
end Go.Proofs.YtkbkdlaknmgjpaaGreat

/- Contract of the specification's TaleOk. -/
namespace Go.Proofs.YtkbkdlaknmgjpaaGreat
open Go.ChangeShapes Go.WideShapes Go.ChangeAt Go.RowKit

theorem specTaleOk_any (w : World) (v vF vR : Value) (dss : List (List Dd)) (f rows : List Int) (h : RdW w v dss) (hf : Rd w vF f) (hr : Rd w vR rows) (hcap : rows.length ≤ capZ vR) (hx : dss.length ≤ 1048576) (hm : ∀ i, i < dss.length → (dss.getD i []).length ≤ 1048576) (hfl : f.length ≤ 1048576) (hrl : rows.length ≤ 1048576) :
    Calls Tryz.prog 19 #[v, .agg #[vF, vR]] w fun e w' => e = .returned (.bool (taleB dss f rows)) ∧ Keep w w' := by
  have CS := fun (W : World) (kW : Keep w W) => specSourceOk_any W v vF dss f (h.keep kW) (hf.keep kW) hx hm hfl
  have CR := fun (W : World) (kW : Keep w W) => specRowsOk_any W v vR dss rows (h.keep kW) (hr.keep kW) hcap hx hm hrl
  obtain ⟨aF, cF, rfl, -⟩ := hf
  obtain ⟨aR, cR, rfl, -⟩ := hr
  have HE : Hid (taleB dss f rows = (sourceB dss f && rowsB dss rows)) := Lib.hid rfl
  generalize sourceB dss f = S at CS HE
  generalize rowsB dss rows = R at CR HE
  go_enter Tryz.func19, Tryz.ntmps19
  go_wp2_with fail
  refine (CS _ ((Keep.refl w).alloc _)).mono ?_
  rintro e w1 ⟨rfl, k1⟩
  have c0 := box_cell k1 0
  have c1 := box_cell k1 1
  simp at c0 c1
  have K1 := ((Keep.refl w).alloc _).trans k1
  cases S
  · go_wp2
    go_ret
    exact ⟨by rw [HE.out]; rfl, K1⟩
  · go_wp2_with fail
    refine (CR _ K1).mono ?_
    rintro e w2 ⟨rfl, k2⟩
    go_wp2
    go_ret
    exact ⟨by rw [HE.out]; rfl, K1.trans k2⟩
end Go.Proofs.YtkbkdlaknmgjpaaGreat

/- What a tale that is right gives to the walks. -/
namespace Go.Proofs.YtkbkdlaknmgjpaaGreat
open Go.RowKit

theorem tale_facts {dss : List (List Dd)} {f rows : List Int} (h : taleB dss f rows = true) : (dss.length ≤ 3 ∧ ∀ i, i < dss.length → okL (dss.getD i []) = true) ∧ eventsB dss = evsW dss dss.length ∧
    (evsW dss dss.length).length ≤ 12 ∧ rows.length ≤ 36 ∧ (∀ j, j < rows.length → 0 ≤ rows.getD j 0 ∧ rows.getD j 0 < ((evsW dss dss.length).length : Int)) ∧ (∀ j, j < rows.length → 0 ≤ plE (evsW dss dss.length) (rows.getD j 0) ∧ plE (evsW dss dss.length) (rows.getD j 0) ≤ 2) ∧
    (idxB rdE (evsW dss dss.length)).length = f.length ∧ f.length ≤ 12 ∧ (∀ i, i < f.length → 0 ≤ f.getD i 0 ∧ f.getD i 0 < ((evsW dss dss.length).length : Int)) := by
  obtain ⟨hb, hs, hr⟩ := tale_use h
  have e1 : eventsB dss = evsW dss dss.length := by rw [eventsB, if_pos hb]
  have h12 := (events_law hb).1
  rw [e1] at hs hr
  obtain ⟨s1, s2⟩ := src_use h12 hs
  obtain ⟨_, r2, r3⟩ := rows_use h12 hr
  have rl : (idxB rdE (evsW dss dss.length)).length ≤ 12 := by
    unfold idxB
    rw [if_pos h12]
    have := idxK_len rdE (evsW dss dss.length) (evsW dss dss.length).length
    omega
  exact ⟨workB_useR hb, e1, h12, r2, r3, fun j hj => plW_in h12 hr hj, s1, by omega, fun i hi => (s2 i (by omega)).1⟩
end Go.Proofs.YtkbkdlaknmgjpaaGreat

/- Contract of the specification's l9Web: from each write to all behind it at its place. -/
namespace Go.Proofs.YtkbkdlaknmgjpaaGreat
open Go.ChangeShapes Go.WideShapes Go.ChangeAt Go.RowKit

theorem made_rw (n : Nat) : (madeCells (Value.int .i64 0).cells (n * 1)).toList = ((List.replicate n (0 : Int)).map (Value.int .i64)) := by
  rw [Nat.mul_one, List.map_replicate]
  exact toList_madeCells_one _ _
set_option maxRecDepth 100000 in
set_option maxHeartbeats 4000000 in
theorem l9Web_any (w : World) (v vf : Value) (es : List Ev) (rows : List Int) (h : RdE w v es) (hf : Rd w vf rows) (hn : es.length ≤ 12) (hl : rows.length ≤ 36) (hr : ∀ j, j < rows.length → 0 ≤ rows.getD j 0 ∧ rows.getD j 0 < (es.length : Int)) :
    Calls Tryz.prog 104 #[v, vf] w fun e w' => ∃ v', e = .returned v' ∧ Row w' w.heap.size v' (rwL es rows) ∧ Keep w w' := by
  obtain ⟨a, c, rfl, h⟩ := h
  obtain ⟨af, cf, rfl, hf⟩ := hf
  obtain ⟨i0, hi, hz0, hz1, hz2⟩ := info_parts Tryz.infoI
  go_enter Tryz.func104, Tryz.ntmps104
  go_wp2_with (at_make; refine wpList_make_full _ rfl _ _ 25 rfl w.heap.size 2 i0 (.int .i64 0) 1 Tryz.underlying25 hi hz0 hz1 .i64 .i64 _ _ es.length rfl rfl rfl rfl (by rw [hz2]; omega) (by unfold maxLen; omega) (Nat.le_refl _) ?_; intro w1 hown hgrow)
  rw [made_rw] at hown
  have k1 : Keep w w1 := (Keep.refl w).grown hgrow (by simp)
  have rb : RowAt w1 w.heap.size (rwAll es rows 0) := by
    have o : Own w1 w.heap.size (.slice (some ⟨w.heap.size, 0, none⟩) es.length es.length) (List.replicate es.length 0) := by
      unfold Own; simpa using hown
    rcases o.row with ⟨e, _⟩ | ⟨g, cap, e, _, hr⟩
    · cases e
    · have e1 := congrArg Value.ownBlock e
      simp [Value.ownBlock] at e1
      rw [e1]; exact hr
  clear hgrow hown hi hz0 hz1 hz2
  have HR := Lib.hid hr
  clear hr
  go_loopw [6] (fun i wr => ∃ k : Nat, k ≤ rows.length ∧ i = .int .i64 k ∧ RowAt wr w.heap.size (rwAll es rows k) ∧ Keep w wr) (fun i _ => rows.length - (intOf i).toNat)
  case atStart => exact ⟨0, Nat.zero_le _, rfl, rb, k1⟩
  case round =>
    obtain ⟨k, hk, rfl, hw, hK⟩ := hrel
    clear rb k1
    by_cases hlt : k < rows.length
    · rcases hf with h0 | ⟨bf, of', rfl, hbf, hcf⟩
      · exfalso; rw [h0] at hlt; simp at hlt
      obtain ⟨r0, r1⟩ := HR.out k hlt
      rcases h with h0 | ⟨b, off, rfl, hb, hc⟩
      · exfalso; rw [h0] at r1; simp only [List.length_nil] at r1; omega
      obtain ⟨x, hx⟩ := Int.eq_ofNat_of_zero_le r0
      have hxl : x < es.length := by omega
      have HW := Lib.hid (web_rwAll hn HR.out k (by omega)).1
      have HE : Hid (rwIn es rows k (rwAll es rows k) rows.length = rwAll es rows (k + 1)) := Lib.hid rfl
      generalize rwAll es rows k = T at *
      obtain ⟨wo, rfl⟩ : ∃ wo : World, wo = wr := ⟨_, rfl⟩
      have i1 : (0 : Int) ≤ (k : Int) := Int.natCast_nonneg _
      have i2 : (k : Int) < (rows.length : Int) := by omega
      have i0 : (rows.length : Int) ≤ 36 := by omega
      have HST : Hid (rwIn es rows k T (k + 1) = T) := Lib.hid (rwIn_none T _ (fun j hj => rwP_up (by omega)))
      have HC := Lib.hid hc
      have HCF := Lib.hid hcf
      have HX := Lib.hid hx
      clear hc hcf hx r0 r1
      go_wp2
      go_loopw [7] (fun i wr => ∃ m : Nat, k + 1 ≤ m ∧ m ≤ rows.length ∧ i = .int .i64 m ∧ RowAt wr w.heap.size (rwIn es rows k T m) ∧ Keep w wr) (fun i _ => rows.length - (intOf i).toNat)
      case atStart => exact ⟨k + 1, Nat.le_refl _, by omega, by go_num, by rw [HST.out]; exact hw, hK⟩
      case round =>
        clear hw hK HST
        obtain ⟨m, hkm, hm, rfl, hw, hK⟩ := hrel
        by_cases hml : m < rows.length
        · obtain ⟨y, hy⟩ := Int.eq_ofNat_of_zero_le (HR.out m hml).1
          have hyl : y < es.length := by have := (HR.out m hml).2; omega
          have d1 := (hK.cell hbf).trans (HCF.out k hlt)
          have d2 := (hK.cell hbf).trans (HCF.out m hml)
          have hxx := HX.out
          rw [hxx] at d1
          rw [hy] at d2
          have AX := (HC.out x _ (evs_get hxl)).keep hb hK
          have AY := (HC.out y _ (evs_get hyl)).keep hb hK
          have hB := (web_rwIn (es := es) HR.out hlt HW.out m hm).1
          have hrg := okB_range (hB.2.2 x hxl)
          have hBl : x < (rwIn es rows k T m).length := by rw [hB.2.1]; exact hxl
          have HP : Hid (rwP es rows k m = ((es.getD x zE).2.2.2.1 == (es.getD y zE).2.2.2.1)) := Lib.hid (by
            unfold rwP plE
            rw [decide_eq_true (show k < m by omega), Bool.true_and, hxx, hy, Int.toNat_natCast, Int.toNat_natCast])
          have HH : rwP es rows k m = true → Hid (rwIn es rows k T (m + 1) = (rwIn es rows k T m).set x (bits .or .i64 ((rwIn es rows k T m).getD x 0) (wrap64 (2 ^ (y : Int).toNat)))) := fun hp => Lib.hid (by
            rw [rwIn_hit T hp, hxx, hy, Int.toNat_natCast, gAdd_ok _ _ hrg.1 (by unfold inB; simp; omega)])
          have HM : rwP es rows k m = false → Hid (rwIn es rows k T (m + 1) = rwIn es rows k T m) := fun hp => Lib.hid (rwIn_miss T hp)
          clear hB hxx hy
          obtain ⟨e, he⟩ : ∃ e, e = es.getD x zE := ⟨_, rfl⟩
          rw [← he] at AX HP
          clear he
          obtain ⟨d, hd⟩ : ∃ d, d = es.getD y zE := ⟨_, rfl⟩
          rw [← hd] at AY HP
          clear hd
          obtain ⟨x0, x1, x2, x3, x4, x5⟩ := e
          obtain ⟨y0, y1, y2, y3, y4, y5⟩ := d
          obtain ⟨-, -, -, A3, -, -⟩ := atE AX
          obtain ⟨-, -, -, B3, -, -⟩ := atE AY
          clear AX AY
          simp only at HP
          have j1 : (0 : Int) ≤ (m : Int) := Int.natCast_nonneg _
          have j2 : (m : Int) < (rows.length : Int) := by omega
          have j3 : (0 : Int) ≤ (x : Int) := Int.natCast_nonneg _
          have j4 : (x : Int) < (es.length : Int) := by omega
          have j5 : (0 : Int) ≤ (y : Int) := Int.natCast_nonneg _
          have j6 : (y : Int) < (es.length : Int) := by omega
          have j7 : (es.length : Int) ≤ 12 := by omega
          have c1 := hw.cell (j := x) hBl
          have c2 := hw.free x
          have hGl := hw.lt
          have hbw : b < wr.heap.size := Nat.lt_of_lt_of_le hb hK.size
          have hbfw : bf < wr.heap.size := Nat.lt_of_lt_of_le hbf hK.size
          obtain ⟨S, hS⟩ : ∃ S, S = rwIn es rows k T m := ⟨_, rfl⟩
          rw [← hS] at c1 hw HH HM hrg
          clear hS hBl
          obtain ⟨z, hz⟩ : ∃ z, z = S.getD x 0 := ⟨_, rfl⟩
          rw [← hz] at c1 HH hrg
          clear hz
          by_cases xy : x3 = y3
          · subst xy
            have HE1 := HH (by rw [HP.out]; simp)
            clear HH HM HP
            go_wp2
            go_quiet (fail)
            go_wp2
            go_region
            all_goals
              go_wp2
              refine ⟨⟨m + 1, by omega, by omega, by go_num, ?_, ?_⟩, by simp [intOf]; omega⟩
              · rw [HE1.out]
                exact (hw.drewN _).set x _
              · exact (hK.grown (grown_draw wr _ none) (by simp)).grown (grown_set _ w.heap.size x _) (by simp)
          · have xb : (x3 == y3) = false := by simp [xy]
            have HE1 := HM (by rw [HP.out]; exact xb)
            clear HH HM HP xy c1 c2
            go_wp2
            go_quiet (fail)
            go_wp2
            go_roundw
            case rel => exact ⟨m + 1, by omega, by omega, by go_num, by rw [HE1.out]; exact hw.drewN _, hK.grown (grown_draw wr _ none) (by simp)⟩
            case measure => simp [intOf]; omega
        · obtain rfl : m = rows.length := by omega
          go_wp2
          go_roundw
          case rel => exact ⟨k + 1, by omega, by go_num, by rw [← HE.out]; exact hw, hK⟩
          case measure => simp [intOf]; omega
    · obtain rfl : k = rows.length := by omega
      have HL := (web_rwAll hn HR.out rows.length (Nat.le_refl _)).1.2.1
      go_wp2
      go_ret
      exact ⟨_, rfl, row_new hw (Nat.le_refl _) HL, hK⟩
end Go.Proofs.YtkbkdlaknmgjpaaGreat

/- Contract of the specification's l10Against: from each read to all behind what it is from. -/
namespace Go.Proofs.YtkbkdlaknmgjpaaGreat
open Go.ChangeShapes Go.WideShapes Go.ChangeAt Go.RowKit

set_option maxRecDepth 100000 in
set_option maxHeartbeats 4000000 in
theorem l10Against_any (w : World) (v vF vR : Value) (es : List Ev) (f rows : List Int) (h : RdE w v es) (hf : Rd w vF f) (hr : Rd w vR rows) (hn : es.length ≤ 12) (hlr : rows.length ≤ 36) (hrw : ∀ j, j < rows.length → 0 ≤ rows.getD j 0 ∧ rows.getD j 0 < (es.length : Int)) (hl : (idxB rdE es).length ≤ f.length) (hb : ∀ i, i < (idxB rdE es).length → 0 ≤ f.getD i 0 ∧ f.getD i 0 < (es.length : Int)) :
    Calls Tryz.prog 105 #[v, .agg #[vF, vR]] w fun e w' => ∃ v', e = .returned v' ∧ Row w' w.heap.size v' (agL es f rows) ∧ Keep w w' := by
  have hE := h
  obtain ⟨a, c, rfl, -⟩ := id h
  obtain ⟨aF, cF, rfl, -⟩ := id hf
  obtain ⟨aR, cR, rfl, -⟩ := id hr
  obtain ⟨i0, hi, hz0, hz1, hz2⟩ := info_parts Tryz.infoI
  have rl : (idxB rdE es).length ≤ 12 := by
    unfold idxB
    rw [if_pos hn]
    have := idxK_len rdE es es.length
    omega
  have rin : ∀ i, i < (idxB rdE es).length → 0 ≤ (idxB rdE es).getD i 0 ∧ (idxB rdE es).getD i 0 < (es.length : Int) := by
    intro i hi
    have hm : (idxB rdE es).getD i 0 ∈ idxB rdE es := by
      rw [List.getD_eq_getElem?_getD, List.getElem?_eq_getElem hi]
      exact List.getElem_mem hi
    refine idxK_lt rdE es _ _ ?_
    unfold idxB at hm ⊢
    rw [if_pos hn] at hm ⊢
    exact hm
  have HL : Hid (agL es f rows = agK es.length (idxB rdE es) f (rwL es rows) (idxB rdE es).length) := Lib.hid rfl
  have HWL : Hid ((rwL es rows).length = es.length) := Lib.hid (web_rwAll hn hrw rows.length (Nat.le_refl _)).1.2.1
  go_enter Tryz.func105, Tryz.ntmps105
  go_upto_region 1 with fail
  obtain ⟨wB, hwB⟩ : ∃ W : World, W = w.alloc (.cells #[.slice aF f.length cF, .slice aR rows.length cR] 27) := ⟨_, rfl⟩
  have kB : Keep w wB := by rw [hwB]; exact (Keep.refl w).alloc _
  have sB : wB.heap.size = w.heap.size + 1 := by rw [hwB]; exact heap_size _ _
  have b0 : wB.cell? ⟨w.heap.size, 0, none⟩ = some (.slice aF f.length cF) := by rw [hwB]; exact box_cell (Keep.refl _) 0
  have b1 : wB.cell? ⟨w.heap.size, 1, none⟩ = some (.slice aR rows.length cR) := by rw [hwB]; exact box_cell (Keep.refl _) 1
  rw [← hwB]
  clear hwB
  have SB := Lib.hid sB
  have lB : w.heap.size < wB.heap.size := by omega
  clear sB
  go_wp2_with (at_make; refine wpList_make_full _ rfl _ _ 25 rfl wB.heap.size 2 i0 (.int .i64 0) 1 Tryz.underlying25 hi hz0 hz1 .i64 .i64 _ _ es.length rfl rfl rfl rfl (by rw [hz2]; omega) (by unfold maxLen; omega) (Nat.le_refl _) ?_; intro w1 hown hgrow; have k1 : Keep wB w1 := (Keep.refl wB).grown hgrow (by simp); have d1 := (k1.cell lB).trans b1)
  rw [made_rw] at hown
  have rb : RowAt w1 wB.heap.size (agK es.length (idxB rdE es) f (rwL es rows) 0) := by
    have o : Own w1 wB.heap.size (.slice (some ⟨wB.heap.size, 0, none⟩) es.length es.length) (List.replicate es.length 0) := by
      unfold Own; simpa using hown
    rcases o.row with ⟨e, _⟩ | ⟨g, cap, e, _, hr⟩
    · cases e
    · have e1 := congrArg Value.ownBlock e
      simp [Value.ownBlock] at e1
      rw [e1]; exact hr
  clear hgrow hown hi hz0 hz1 hz2
  have hlt1 := rb.lt
  refine (l9Web_any _ _ _ _ _ (hE.keep (kB.trans k1)) (hr.keep (kB.trans k1)) hn hlr hrw).mono ?_
  rintro e w2 ⟨vw, rfl, ow, k2⟩
  clear d1
  have NW : vw.ownBlock = none ∨ vw.ownBlock ≠ some wB.heap.size := by
    cases hu : vw.ownBlock with
    | none => exact .inl rfl
    | some k => exact .inr (fun e => by have := ow.ge k hu; have := Option.some.inj e; omega)
  have K2 := k1.trans k2
  go_wp2_with fail
  refine (specReadsOf_any _ _ _ (hE.keep (kB.trans K2)) (by omega)).mono ?_
  rintro e w3 ⟨vr, rfl, or2, k3⟩
  have hlt2 : wB.heap.size < w2.heap.size := Nat.lt_of_lt_of_le hlt1 k2.size
  have W3 : Rd w3 vw (rwL es rows) := ow.rd.keep k3
  generalize idxB rdE es = rs at rl rin HL or2 hl hb rb
  generalize rwL es rows = rw' at HL HWL W3 rb ow
  have R3 : Rd w3 vr rs := or2.rd
  have NR : vr.ownBlock = none ∨ vr.ownBlock ≠ some wB.heap.size := by
    cases hu : vr.ownBlock with
    | none => exact .inl rfl
    | some k => exact .inr (fun e => by have := or2.ge k hu; have := Option.some.inj e; omega)
  have rb3 := (rb.keep k2).keep k3
  have K3 := K2.trans k3
  have RIN := Lib.hid rin
  have HB := Lib.hid hb
  have HF := Lib.hid hf
  obtain ⟨ar, cr, rfl, -⟩ := id R3
  obtain ⟨aw, cw, rfl, -⟩ := id W3
  clear rb k1 k2 k3 K2 or2 ow rin hb hlt1 hlt2 hf hr hE h
  go_wp2
  go_loopw [8] (fun i wr => ∃ k : Nat, k ≤ rs.length ∧ i = .int .i64 k ∧ RowAt wr wB.heap.size (agK es.length rs f rw' k) ∧ Rd wr (.slice ar rs.length cr) rs ∧ Rd wr (.slice aw rw'.length cw) rw' ∧ Keep wB wr) (fun i _ => rs.length - (intOf i).toNat)
  case atStart => exact ⟨0, Nat.zero_le _, rfl, rb3, R3, W3, K3⟩
  case round =>
    obtain ⟨k, hk, rfl, hr, hR, hW, hK⟩ := hrel
    clear rb3 R3 W3 K3
    by_cases hlt : k < rs.length
    · obtain ⟨r, hr0⟩ := Int.eq_ofNat_of_zero_le (RIN.out k hlt).1
      obtain ⟨t, ht0⟩ := Int.eq_ofNat_of_zero_le (HB.out k hlt).1
      have hre : r < es.length := by have := (RIN.out k hlt).2; omega
      have hte : t < rw'.length := by have := (HB.out k hlt).2; have := HWL.out; omega
      have HC : Hid (agK es.length rs f rw' (k + 1) = (agK es.length rs f rw' k).set r (rw'.getD t 0)) := Lib.hid (by
        rw [agK, ht0, hr0, Int.toNat_natCast, Int.toNat_natCast])
      have d2 := hr.free r
      have d7 := hr.cell (j := r) (by rw [agK_len]; exact hre)
      have d5 := (hK.cell lB).trans b0
      have hR' := hR
      obtain ⟨a', c', he', hR'⟩ := hR'
      simp only [Value.slice.injEq, true_and] at he'
      obtain ⟨rfl, rfl⟩ := he'
      rcases hR' with h0 | ⟨br, orr, rfl, hbr, hcr⟩
      · exfalso; rw [h0] at hlt; simp at hlt
      have d3 := hcr k hlt
      rw [hr0] at d3
      have hF := (HF.out.keep kB).keep hK
      obtain ⟨a2, c2, he2, hF'⟩ := hF
      simp only [Value.slice.injEq, true_and] at he2
      obtain ⟨rfl, rfl⟩ := he2
      rcases hF' with h0 | ⟨bf, off, rfl, hbf, hcf⟩
      · exfalso; rw [h0] at hl; simp only [List.length_nil] at hl; omega
      have d4 := hcf k (by omega)
      rw [ht0] at d4
      have hW' := hW
      obtain ⟨a3, c3, he3, hW'⟩ := hW'
      simp only [Value.slice.injEq, true_and] at he3
      obtain ⟨rfl, rfl⟩ := he3
      rcases hW' with h0 | ⟨bw, oww, rfl, hbw, hcw⟩
      · exfalso; rw [h0] at hte; simp at hte
      have d6 := hcw t hte
      clear hcr hcf hcw hr0 ht0
      obtain ⟨S, hS⟩ : ∃ S, S = agK es.length rs f rw' k := ⟨_, rfl⟩
      rw [← hS] at hr HC d7
      clear hS
      obtain ⟨x, hx⟩ : ∃ x, x = rw'.getD t 0 := ⟨_, rfl⟩
      rw [← hx] at d6 HC
      clear hx
      have i1 : (0 : Int) ≤ (k : Int) := Int.natCast_nonneg _
      have i2 : (k : Int) < (rs.length : Int) := by omega
      have i3 : (k : Int) < (f.length : Int) := by omega
      have j1 : (0 : Int) ≤ (r : Int) := Int.natCast_nonneg _
      have j2 : (r : Int) < (es.length : Int) := by omega
      have j3 : (0 : Int) ≤ (t : Int) := Int.natCast_nonneg _
      have j4 : (t : Int) < (rw'.length : Int) := by omega
      have j5 : (es.length : Int) ≤ 12 := by omega
      go_wp2
      go_region
      all_goals
        go_wp2
        go_roundw
        case rel =>
          refine ⟨k + 1, by omega, by go_num, ?_, ?_, ?_, ?_⟩
          · rw [HC.out]; exact hr.drew.set r _
          · exact (hR.keptR (grown_drew wr (some wB.heap.size)) NR).keptR (grown_set _ wB.heap.size r _) NR
          · exact (hW.keptR (grown_drew wr (some wB.heap.size)) NW).keptR (grown_set _ wB.heap.size r _) NW
          · exact (hK.drew).grown (grown_set _ wB.heap.size r _) (by simp)
        case measure => simp [intOf]; omega
    · obtain rfl : k = rs.length := by omega
      go_wp2
      go_ret
      refine ⟨_, rfl, ?_, kB.trans hK⟩
      rw [HL.out]
      exact row_new hr (by have := SB.out; omega) (agK_len _ _ _ _ _)
end Go.Proofs.YtkbkdlaknmgjpaaGreat

/- Contract of the specification's l7Behind. -/
namespace Go.Proofs.YtkbkdlaknmgjpaaGreat
open Go.ChangeShapes Go.WideShapes Go.ChangeAt Go.RowKit

theorem made_noughtsB (n : Nat) : (madeCells (Value.int .i64 0).cells (n * 1)).toList = ((List.replicate n (0 : Int)).map (Value.int .i64)) := by
  rw [Nat.mul_one, List.map_replicate]
  exact toList_madeCells_one _ _
set_option maxRecDepth 100000 in
set_option maxHeartbeats 4000000 in
theorem l7Behind_any (w : World) (v : Value) (es : List Ev) (h : RdE w v es) (hn : es.length ≤ 12) :
    Calls Tryz.prog 153 #[v] w fun e w' => ∃ v', e = .returned v' ∧ Row w' w.heap.size v' (behL es) ∧ Keep w w' := by
  obtain ⟨a, c, rfl, h⟩ := h
  obtain ⟨i0, hi, hz0, hz1, hz2⟩ := info_parts Tryz.infoI
  go_enter Tryz.func153, Tryz.ntmps153
  go_wp2_with (at_make; refine wpList_make_full _ rfl _ _ 25 rfl w.heap.size 2 i0 (.int .i64 0) 1 Tryz.underlying25 hi hz0 hz1 .i64 .i64 _ _ es.length rfl rfl rfl rfl (by rw [hz2]; omega) (by unfold maxLen; omega) (Nat.le_refl _) ?_; intro w1 hown hgrow)
  rw [made_noughtsB] at hown
  have k1 : Keep w w1 := (Keep.refl w).grown hgrow (by simp)
  have rb : RowAt w1 w.heap.size (addAll (behP es) es.length 0) := by
    have o : Own w1 w.heap.size (.slice (some ⟨w.heap.size, 0, none⟩) es.length es.length) (List.replicate es.length 0) := by
      unfold Own; simpa using hown
    rcases o.row with ⟨e, _⟩ | ⟨g, cap, e, _, hr⟩
    · cases e
    · have e1 := congrArg Value.ownBlock e
      simp [Value.ownBlock] at e1
      rw [e1]; exact hr
  clear hgrow hown hi hz0 hz1 hz2
  go_loopw [4] (fun i wr => ∃ k : Nat, k ≤ es.length ∧ i = .int .i64 k ∧ RowAt wr w.heap.size (addAll (behP es) es.length k) ∧ Keep w wr) (fun i _ => es.length - (intOf i).toNat)
  case atStart => exact ⟨0, Nat.zero_le _, rfl, rb, k1⟩
  case round =>
    obtain ⟨k, hk, rfl, hr, hK⟩ := hrel
    clear rb k1
    by_cases hlt : k < es.length
    · rcases h with h | ⟨b, off, rfl, hb, hc⟩
      · exfalso; rw [h] at hlt; simp at hlt
      have AT := hc k _ (evs_get hlt)
      have HW := Lib.hid (web_addAll (p := behP es) hn k (by omega)).1
      have HE : Hid (addIn (behP es) k (addAll (behP es) es.length k) es.length = addAll (behP es) es.length (k + 1)) := Lib.hid rfl
      generalize addAll (behP es) es.length k = T at *
      obtain ⟨wo, rfl⟩ : ∃ wo : World, wo = wr := ⟨_, rfl⟩
      have i1 : (0 : Int) ≤ (k : Int) := Int.natCast_nonneg _
      have i2 : (k : Int) < (es.length : Int) := by omega
      have HST : Hid (addIn (behP es) k T (k + 1) = T) := Lib.hid (addIn_none T _ (fun j hj => behP_up (by omega)))
      go_wp2
      go_loopw [5] (fun i wr => ∃ m : Nat, k + 1 ≤ m ∧ m ≤ es.length ∧ i = .int .i64 m ∧ RowAt wr w.heap.size (addIn (behP es) k T m) ∧ Keep w wr) (fun i _ => es.length - (intOf i).toNat)
      case atStart => exact ⟨k + 1, Nat.le_refl _, by omega, by go_num, by rw [HST.out]; exact hr, hK⟩
      case round =>
        clear hr hK HST
        obtain ⟨m, hkm, hm, rfl, hr, hK⟩ := hrel
        by_cases hml : m < es.length
        · have AK := AT.keep hb hK
          have AM := (hc m _ (evs_get hml)).keep hb hK
          have hbw : b < wr.heap.size := Nat.lt_of_lt_of_le hb hK.size
          have hB := (web_addIn (p := behP es) hlt HW.out m hm).1
          have hrg := okB_range (hB.2.2 k hlt)
          have hBl : k < (addIn (behP es) k T m).length := by rw [hB.2.1]; exact hlt
          clear hB AT hc
          have HP : Hid (behP es k m = (decide (k < m) && ((decide (k < 3) && decide (3 ≤ m)) || (decide (3 ≤ k) && ((es.getD k zE).1 == (es.getD m zE).1))))) := Lib.hid rfl
          obtain ⟨e, he⟩ : ∃ e, e = es.getD k zE := ⟨_, rfl⟩
          rw [← he] at AK HP
          clear he
          obtain ⟨d, hd⟩ : ∃ d, d = es.getD m zE := ⟨_, rfl⟩
          rw [← hd] at AM HP
          clear hd
          obtain ⟨x0, x1, x2, x3, x4, x5⟩ := e
          obtain ⟨y0, y1, y2, y3, y4, y5⟩ := d
          obtain ⟨A0, -, -, -, -, -⟩ := atE AK
          obtain ⟨B0, -, -, -, -, -⟩ := atE AM
          clear AK AM
          have j1 : (0 : Int) ≤ (m : Int) := Int.natCast_nonneg _
          have j2 : (m : Int) < (es.length : Int) := by omega
          have j3 : (es.length : Int) ≤ 12 := by omega
          have HH : behP es k m = true → Hid (addIn (behP es) k T (m + 1) = (addIn (behP es) k T m).set k (bits .or .i64 ((addIn (behP es) k T m).getD k 0) (wrap64 (2 ^ (m : Int).toNat)))) := fun hp => Lib.hid (by
            rw [addIn_hit T hp, gAdd_ok _ _ hrg.1 (by unfold inB; simp; omega)])
          have HM : behP es k m = false → Hid (addIn (behP es) k T (m + 1) = addIn (behP es) k T m) := fun hp => Lib.hid (addIn_miss T hp)
          have d1 := hr.cell (j := k) hBl
          have d2 := hr.free k
          obtain ⟨S, hS⟩ : ∃ S, S = addIn (behP es) k T m := ⟨_, rfl⟩
          rw [← hS] at d1 hr HH HM hrg
          clear hS hBl
          obtain ⟨x, hx⟩ : ∃ x, x = S.getD k 0 := ⟨_, rfl⟩
          rw [← hx] at d1 HH hrg
          clear hx
          by_cases k3 : k < 3
          · have k4 : (k : Int) < 3 := by omega
            have k5 : decide ((3 : Int) ≤ (k : Int)) = false := decide_eq_false (by omega)
            by_cases m3 : m < 3
            · have m4 : decide ((3 : Int) ≤ (m : Int)) = false := decide_eq_false (by omega)
              have HE1 := HM (by rw [HP.out]; simp; omega)
              clear HH HM HP d1 d2
              go_wp2
              go_quiet (fail)
              go_wp2
              go_roundw
              case rel => exact ⟨m + 1, by omega, by omega, by go_num, by rw [HE1.out]; exact hr.drewN _, hK.grown (grown_draw wr _ none) (by simp)⟩
              case measure => simp [intOf]; omega
            · have m4 : (3 : Int) ≤ (m : Int) := by omega
              have HE1 := HH (by rw [HP.out]; simp; omega)
              clear HH HM HP
              go_wp2
              go_quiet (fail)
              go_wp2
              go_roundw
              case rel => exact ⟨m + 1, by omega, by omega, by go_num, by rw [HE1.out]; exact (hr.drewN _).set k _, (hK.grown (grown_draw wr _ none) (by simp)).grown (grown_set _ w.heap.size k _) (by simp)⟩
              case measure => simp [intOf]; omega
          · have k4 : (3 : Int) ≤ (k : Int) := by omega
            have k5 : decide ((k : Int) < 3) = false := decide_eq_false (by omega)
            by_cases xy : x0 = y0
            · subst xy
              have HE1 := HH (by rw [HP.out]; simp; omega)
              clear HH HM HP
              go_wp2
              go_quiet (fail)
              go_wp2
              go_roundw
              case rel => exact ⟨m + 1, by omega, by omega, by go_num, by rw [HE1.out]; exact (hr.drewN _).set k _, (hK.grown (grown_draw wr _ none) (by simp)).grown (grown_set _ w.heap.size k _) (by simp)⟩
              case measure => simp [intOf]; omega
            · have xb : (x0 == y0) = false := by simp [xy]
              have HE1 := HM (by rw [HP.out]; simp [xb]; omega)
              clear HH HM HP d1 d2
              go_wp2
              go_quiet (fail)
              go_wp2
              go_roundw
              case rel => exact ⟨m + 1, by omega, by omega, by go_num, by rw [HE1.out]; exact hr.drewN _, hK.grown (grown_draw wr _ none) (by simp)⟩
              case measure => simp [intOf]; omega
        · obtain rfl : m = es.length := by omega
          go_wp2
          go_roundw
          case rel => exact ⟨k + 1, by omega, by go_num, by rw [← HE.out]; exact hr, hK⟩
          case measure => simp [intOf]; omega
    · obtain rfl : k = es.length := by omega
      have HL := (web_addAll (p := behP es) hn es.length (Nat.le_refl _)).1.2.1
      go_wp2
      go_ret
      exact ⟨_, rfl, row_new hr (Nat.le_refl _) HL, hK⟩
end Go.Proofs.YtkbkdlaknmgjpaaGreat

/- Contract of the specification's l7Place. -/
namespace Go.Proofs.YtkbkdlaknmgjpaaGreat
open Go.ChangeShapes Go.WideShapes Go.ChangeAt Go.RowKit

set_option maxRecDepth 100000 in
set_option maxHeartbeats 4000000 in
theorem l7Place_any (w : World) (v : Value) (es : List Ev) (h : RdE w v es) (hn : es.length ≤ 12) :
    Calls Tryz.prog 118 #[v] w fun e w' => ∃ v', e = .returned v' ∧ Row w' w.heap.size v' (plcL es) ∧ Keep w w' := by
  have HB := (beh_line hn).1
  have r := h
  obtain ⟨a, c, rfl, h⟩ := h
  go_enter Tryz.func118, Tryz.ntmps118
  go_wp2_with fail
  refine (l7Behind_any _ _ _ r hn).mono ?_
  rintro e w1 ⟨v1, rfl, o1, k1⟩
  clear r
  by_cases h0 : es.length = 0
  · have e0 : es = [] := List.eq_nil_of_length_eq_zero h0
    subst e0
    go_wp2
    refine wp_loop_rounds 1 ?_
    rw [rounds_succ]
    go_wp2
    go_ret
    exact ⟨_, rfl, o1, k1⟩
  obtain ⟨G, cap, rfl, hG, hR⟩ : ∃ g cap, v1 = .slice (some ⟨g, 0, none⟩) es.length cap ∧ w.heap.size ≤ g ∧ RowAt w1 g (behL es) := by
    rcases o1 with ⟨_, e⟩ | ⟨g, cap, e, hg, hr⟩
    · exact absurd (HB.2.1.symm.trans (by rw [e]; rfl)) h0
    · exact ⟨g, cap, by rw [e, HB.2.1], hg, hr⟩
  clear o1 h0
  have HW0 := Lib.hid HB
  clear HB
  go_wp2
  go_loopw [4] (fun i wr => ∃ k : Nat, k ≤ es.length ∧ i = .int .i64 k ∧ RowAt wr G (offAll (plcP es) es.length (behL es) k) ∧ Keep w wr) (fun i _ => es.length - (intOf i).toNat)
  case atStart => exact ⟨0, Nat.zero_le _, rfl, hR, k1⟩
  case round =>
    obtain ⟨k, hk, rfl, hr, hK⟩ := hrel
    clear hR k1
    by_cases hlt : k < es.length
    · rcases h with h | ⟨b, off, rfl, hb, hc⟩
      · exfalso; rw [h] at hlt; simp at hlt
      have AT := hc k _ (evs_get hlt)
      have HW := Lib.hid (web_offAll (p := plcP es) HW0.out k (by omega)).1
      have HE : Hid (offIn (plcP es) k (offAll (plcP es) es.length (behL es) k) es.length = offAll (plcP es) es.length (behL es) (k + 1)) := Lib.hid rfl
      generalize offAll (plcP es) es.length (behL es) k = T at *
      obtain ⟨wo, rfl⟩ : ∃ wo : World, wo = wr := ⟨_, rfl⟩
      have i1 : (0 : Int) ≤ (k : Int) := Int.natCast_nonneg _
      have i2 : (k : Int) < (es.length : Int) := by omega
      go_wp2
      go_loopw [5] (fun i wr => ∃ m : Nat, m ≤ es.length ∧ i = .int .i64 m ∧ RowAt wr G (offIn (plcP es) k T m) ∧ Keep w wr) (fun i _ => es.length - (intOf i).toNat)
      case atStart => exact ⟨0, by omega, rfl, hr, hK⟩
      case round =>
        clear hr hK
        obtain ⟨m, hm, rfl, hr, hK⟩ := hrel
        by_cases hml : m < es.length
        · have AK := AT.keep hb hK
          have AM := (hc m _ (evs_get hml)).keep hb hK
          have hbw : b < wr.heap.size := Nat.lt_of_lt_of_le hb hK.size
          have hB := (web_offIn (p := plcP es) hlt HW.out m hm).1
          have hBl : k < (offIn (plcP es) k T m).length := by rw [hB.2.1]; exact hlt
          clear hB AT hc
          have HP : Hid (plcP es k m = ((es.getD k zE).2.2.2.1 != (es.getD m zE).2.2.2.1)) := Lib.hid rfl
          obtain ⟨e, he⟩ : ∃ e, e = es.getD k zE := ⟨_, rfl⟩
          rw [← he] at AK HP
          clear he
          obtain ⟨d, hd⟩ : ∃ d, d = es.getD m zE := ⟨_, rfl⟩
          rw [← hd] at AM HP
          clear hd
          obtain ⟨x0, x1, x2, x3, x4, x5⟩ := e
          obtain ⟨y0, y1, y2, y3, y4, y5⟩ := d
          obtain ⟨-, -, -, A3, -, -⟩ := atE AK
          obtain ⟨-, -, -, B3, -, -⟩ := atE AM
          clear AK AM
          have j1 : (0 : Int) ≤ (m : Int) := Int.natCast_nonneg _
          have j2 : (m : Int) < (es.length : Int) := by omega
          have j3 : (es.length : Int) ≤ 12 := by omega
          have HH : plcP es k m = true → Hid (offIn (plcP es) k T (m + 1) = (offIn (plcP es) k T m).set k (bits .andNot .i64 ((offIn (plcP es) k T m).getD k 0) (wrap64 (2 ^ (m : Int).toNat)))) := fun hp => Lib.hid (offIn_hit T hp)
          have HM : plcP es k m = false → Hid (offIn (plcP es) k T (m + 1) = offIn (plcP es) k T m) := fun hp => Lib.hid (offIn_miss T hp)
          have d1 := hr.cell (j := k) hBl
          have d2 := hr.free k
          have hGl := hr.lt
          obtain ⟨S, hS⟩ : ∃ S, S = offIn (plcP es) k T m := ⟨_, rfl⟩
          rw [← hS] at d1 hr HH HM
          clear hS hBl
          obtain ⟨x, hx⟩ : ∃ x, x = S.getD k 0 := ⟨_, rfl⟩
          rw [← hx] at d1 HH
          clear hx
          by_cases xy : x3 = y3
          · subst xy
            have HE1 := HM (by rw [HP.out]; simp)
            clear HH HM HP d1 d2
            go_wp2
            go_quiet (fail)
            go_wp2
            go_roundw
            case rel => exact ⟨m + 1, by omega, by go_num, by rw [HE1.out]; exact hr.drewN _, hK.grown (grown_draw wr _ none) (by simp)⟩
            case measure => simp [intOf]; omega
          · have xb : (x3 != y3) = true := by simp [xy]
            have HE1 := HH (by rw [HP.out]; exact xb)
            clear HH HM HP xy
            go_wp2
            go_quiet (fail)
            go_wp2
            go_roundw
            case rel => exact ⟨m + 1, by omega, by go_num, by rw [HE1.out]; exact (hr.drewN _).set k _, (hK.grown (grown_draw wr _ none) (by simp)).grown (grown_set _ G k _) (by simp; exact hG)⟩
            case measure => simp [intOf]; omega
        · obtain rfl : m = es.length := by omega
          go_wp2
          go_roundw
          case rel => exact ⟨k + 1, by omega, by go_num, by rw [← HE.out]; exact hr, hK⟩
          case measure => simp [intOf]; omega
    · obtain rfl : k = es.length := by omega
      have HL := (web_offAll (p := plcP es) HW0.out es.length (Nat.le_refl _)).1.2.1
      go_wp2
      go_ret
      exact ⟨_, rfl, row_new hr hG HL, hK⟩
end Go.Proofs.YtkbkdlaknmgjpaaGreat

/- Contract of the specification's l8Web: from each write to its read. -/
namespace Go.Proofs.YtkbkdlaknmgjpaaGreat
open Go.ChangeShapes Go.WideShapes Go.ChangeAt Go.RowKit

theorem made_nil (n : Nat) : (madeCells (Value.int .i64 0).cells (n * 1)).toList = ((List.replicate n (0 : Int)).map (Value.int .i64)) := by
  rw [Nat.mul_one, List.map_replicate]
  exact toList_madeCells_one _ _
set_option maxRecDepth 100000 in
set_option maxHeartbeats 4000000 in
theorem l8Web_any (w : World) (v vf : Value) (es : List Ev) (f : List Int) (h : RdE w v es) (hv : Rd w vf f) (hn : es.length ≤ 12) (hl : (idxB rdE es).length ≤ f.length) (hb : ∀ i, i < (idxB rdE es).length → 0 ≤ f.getD i 0 ∧ f.getD i 0 < (es.length : Int)) :
    Calls Tryz.prog 58 #[v, vf] w fun e w' => ∃ v', e = .returned v' ∧ Row w' w.heap.size v' (fwL es f) ∧ Keep w w' := by
  have hE := h
  obtain ⟨a, c, rfl, h⟩ := h
  obtain ⟨i0, hi, hz0, hz1, hz2⟩ := info_parts Tryz.infoI
  have rl : (idxB rdE es).length ≤ 12 := by
    unfold idxB
    rw [if_pos hn]
    have := idxK_len rdE es es.length
    omega
  have rin : ∀ i, i < (idxB rdE es).length → 0 ≤ (idxB rdE es).getD i 0 ∧ (idxB rdE es).getD i 0 < (es.length : Int) := by
    intro i hi
    have hm : (idxB rdE es).getD i 0 ∈ idxB rdE es := by
      rw [List.getD_eq_getElem?_getD, List.getElem?_eq_getElem hi]
      exact List.getElem_mem hi
    refine idxK_lt rdE es _ _ ?_
    unfold idxB at hm ⊢
    rw [if_pos hn] at hm ⊢
    exact hm
  have HL : Hid (fwL es f = fwK es.length (idxB rdE es) f (idxB rdE es).length) := Lib.hid rfl
  go_enter Tryz.func58, Tryz.ntmps58
  go_wp2_with (at_make; refine wpList_make_full _ rfl _ _ 25 rfl w.heap.size 2 i0 (.int .i64 0) 1 Tryz.underlying25 hi hz0 hz1 .i64 .i64 _ _ es.length rfl rfl rfl rfl (by rw [hz2]; omega) (by unfold maxLen; omega) (Nat.le_refl _) ?_; intro w1 hown hgrow)
  rw [made_nil] at hown
  have k1 : Keep w w1 := (Keep.refl w).grown hgrow (by simp)
  have rb : RowAt w1 w.heap.size (fwK es.length (idxB rdE es) f 0) := by
    have o : Own w1 w.heap.size (.slice (some ⟨w.heap.size, 0, none⟩) es.length es.length) (List.replicate es.length 0) := by
      unfold Own; simpa using hown
    rcases o.row with ⟨e, _⟩ | ⟨g, cap, e, _, hr⟩
    · cases e
    · have e1 := congrArg Value.ownBlock e
      simp [Value.ownBlock] at e1
      rw [e1]; exact hr
  clear hgrow hown hi hz0 hz1 hz2
  have hlt1 := rb.lt
  refine (specReadsOf_any _ _ _ (hE.keep k1) (by omega)).mono ?_
  rintro e w2 ⟨vr, rfl, or2, k2⟩
  generalize idxB rdE es = rs at rl rin HL or2 hl hb rb
  have R2 : Rd w2 vr rs := or2.rd
  have N2 : vr.ownBlock = none ∨ vr.ownBlock ≠ some w.heap.size := by
    cases hu : vr.ownBlock with
    | none => exact .inl rfl
    | some k => exact .inr (fun e => by have := or2.ge k hu; have := Option.some.inj e; omega)
  have rb2 := rb.keep k2
  have K2 := k1.trans k2
  have RIN := Lib.hid rin
  have HB := Lib.hid hb
  obtain ⟨ar, cr, rfl, -⟩ := id R2
  obtain ⟨af, cf, rfl, -⟩ := id hv
  clear rb k1 k2 or2 rin hb hlt1
  go_wp2
  go_loopw [7] (fun i wr => ∃ k : Nat, k ≤ rs.length ∧ i = .int .i64 k ∧ RowAt wr w.heap.size (fwK es.length rs f k) ∧ Rd wr (.slice ar rs.length cr) rs ∧ Keep w wr) (fun i _ => rs.length - (intOf i).toNat)
  case atStart => exact ⟨0, Nat.zero_le _, rfl, rb2, R2, K2⟩
  case round =>
    obtain ⟨k, hk, rfl, hr, hR, hK⟩ := hrel
    clear rb2 R2 K2
    by_cases hlt : k < rs.length
    · obtain ⟨r, hr0⟩ := Int.eq_ofNat_of_zero_le (RIN.out k hlt).1
      obtain ⟨t, ht0⟩ := Int.eq_ofNat_of_zero_le (HB.out k hlt).1
      have hre : r < es.length := by have := (RIN.out k hlt).2; omega
      have hte : t < es.length := by have := (HB.out k hlt).2; omega
      have hW := (fw_line (n := es.length) (rs := rs) (f := f) hn k (fun i hi => RIN.out i (by omega)) (fun i hi => HB.out i (by omega))).1
      have hrg := okB_range (hW.2.2 t hte)
      have hBl : t < (fwK es.length rs f k).length := by rw [hW.2.1]; exact hte
      have HC : Hid (fwK es.length rs f (k + 1) = (fwK es.length rs f k).set t (bits .or .i64 ((fwK es.length rs f k).getD t 0) (wrap64 (2 ^ (r : Int).toNat)))) := Lib.hid (by
        rw [fwK, ht0, hr0, Int.toNat_natCast, gAdd_ok _ _ hrg.1 (by unfold inB; simp; omega)])
      have d1 := hr.cell (j := t) hBl
      have d2 := hr.free t
      have hR' := hR
      obtain ⟨a', c', he', hR'⟩ := hR'
      simp only [Value.slice.injEq, true_and] at he'
      obtain ⟨rfl, rfl⟩ := he'
      rcases hR' with h0 | ⟨br, orr, rfl, hbr, hcr⟩
      · exfalso; rw [h0] at hlt; simp at hlt
      have d3 := hcr k hlt
      rw [hr0] at d3
      have hF := hv.keep hK
      obtain ⟨a2, c2, he2, hF'⟩ := hF
      simp only [Value.slice.injEq, true_and] at he2
      obtain ⟨rfl, rfl⟩ := he2
      rcases hF' with h0 | ⟨bf, off, rfl, hbf, hcf⟩
      · exfalso; rw [h0] at hl; simp only [List.length_nil] at hl; omega
      have d4 := hcf k (by omega)
      rw [ht0] at d4
      clear hcr hcf hr0 ht0 hW hBl
      obtain ⟨S, hS⟩ : ∃ S, S = fwK es.length rs f k := ⟨_, rfl⟩
      rw [← hS] at d1 hr HC hrg
      clear hS
      obtain ⟨x, hx⟩ : ∃ x, x = S.getD t 0 := ⟨_, rfl⟩
      rw [← hx] at d1 HC hrg
      clear hx
      have i1 : (0 : Int) ≤ (k : Int) := Int.natCast_nonneg _
      have i2 : (k : Int) < (rs.length : Int) := by omega
      have i3 : (k : Int) < (f.length : Int) := by omega
      have j1 : (0 : Int) ≤ (r : Int) := Int.natCast_nonneg _
      have j2 : (r : Int) < (es.length : Int) := by omega
      have j3 : (0 : Int) ≤ (t : Int) := Int.natCast_nonneg _
      have j4 : (t : Int) < (es.length : Int) := by omega
      have j5 : (es.length : Int) ≤ 12 := by omega
      go_wp2
      go_region
      all_goals
        go_wp2
        go_roundw
        case rel =>
          refine ⟨k + 1, by omega, by go_num, ?_, ?_, ?_⟩
          · rw [HC.out]; exact hr.drew.set t _
          · exact (hR.keptR (grown_drew wr (some w.heap.size)) N2).keptR (grown_set _ w.heap.size t _) N2
          · exact (hK.drew).grown (grown_set _ w.heap.size t _) (by simp)
        case measure => simp [intOf]; omega
    · obtain rfl : k = rs.length := by omega
      go_wp2
      go_ret
      refine ⟨_, rfl, ?_, hK⟩
      rw [HL.out]
      have hW := (fw_line (n := es.length) (rs := rs) (f := f) hn rs.length (fun i hi => RIN.out i (by omega)) (fun i hi => HB.out i (by omega))).1
      exact .inr ⟨w.heap.size, es.length, by rw [hW.2.1]; rfl, Nat.le_refl _, hr⟩
end Go.Proofs.YtkbkdlaknmgjpaaGreat

/- Contract of the specification's l1Has (split off SetsA). -/
namespace Go.Proofs.YtkbkdlaknmgjpaaGreat
open Go.ChangeShapes Go.WideShapes Go.ChangeAt Go.RowKit

theorem l1Has_any (s i : Int) (w : World) (h1 : 0 ≤ i) (h2 : i ≤ 11) :
    Calls Tryz.prog 117 #[.int .i64 s, .int .i64 i] w fun e w' => e = .returned (.bool (bitB s i)) ∧ w' = w := by
  go_enter Tryz.func117, Tryz.ntmps117
  go_wp2
  go_ret
  exact ⟨rfl, rfl⟩
end Go.Proofs.YtkbkdlaknmgjpaaGreat

/- Contract of the specification's l2Join: a new list of the sets mixed place by place. -/
namespace Go.Proofs.YtkbkdlaknmgjpaaGreat
open Go.ChangeShapes Go.WideShapes Go.ChangeAt Go.RowKit

theorem zip_stepJ {a b : List Int} {k : Nat} (ha : k < a.length) (hb : k < b.length) : (List.zipWith orI a b).take (k + 1) = (List.zipWith orI a b).take k ++ [orI (a.getD k 0) (b.getD k 0)] := by
  have hz : k < (List.zipWith orI a b).length := by rw [List.length_zipWith]; omega
  rw [List.take_succ_eq_append_getElem hz, List.getElem_zipWith, List.getD_eq_getElem?_getD, List.getD_eq_getElem?_getD, List.getElem?_eq_getElem ha, List.getElem?_eq_getElem hb]
  rfl
set_option maxRecDepth 100000 in
set_option maxHeartbeats 3200000 in
theorem l2Join_any (w : World) (v1 v2 : Value) (xs ys : List Int) (h1 : Rd w v1 xs) (h2 : Rd w v2 ys) (n1 : xs.length ≤ 12) (hl : xs.length = ys.length) :
    Calls Tryz.prog 102 #[v1, v2] w fun e w' => ∃ v', e = .returned v' ∧ Own w' w.heap.size v' (List.zipWith orI xs ys) ∧ Keep w w' := by
  have r1 := h1
  have r2 := h2
  obtain ⟨a1, c1, rfl, h1⟩ := h1
  obtain ⟨a2, c2, rfl, h2⟩ := h2
  have hl1 : xs.length ≤ ys.length := by omega
  have hl2 : ys.length ≤ xs.length := by omega
  clear hl
  have hown0 : Own (w.alloc (.cells #[] 2)) w.heap.size (.slice (some ⟨w.heap.size, 0, none⟩) 0 0) [] := World.ownsRow_lit w #[] 0 (Nat.le_refl _) (by decide) rfl
  obtain ⟨i0, hi, hz0, hz1, hz2⟩ := info_parts Tryz.infoI
  go_enter Tryz.func102, Tryz.ntmps102
  go_wp2
  go_loopw [5, 6] (fun v0 i wr => ∃ (v : Value) (k : Nat), v = v0 ∧ k ≤ xs.length ∧ i = .int .i64 k ∧ Own wr w.heap.size v ((List.zipWith orI xs ys).take k) ∧ Keep w wr) (fun _ i _ => xs.length - (intOf i).toNat)
  case atStart => exact ⟨_, 0, rfl, Nat.zero_le _, rfl, hown0, (Keep.refl _).alloc _⟩
  case round =>
    obtain ⟨v, k, rfl, hk, rfl, ho, hK⟩ := hrel
    clear hown0
    by_cases hlt : k < xs.length
    · rcases h1 with h | ⟨b1, o1, rfl, hb1, hc1⟩
      · exfalso; rw [h] at hlt; simp at hlt
      have hlt2 : k < ys.length := by omega
      rcases h2 with h | ⟨b2, o2, rfl, hb2, hc2⟩
      · exfalso; rw [h] at hlt2; simp at hlt2
      have d1 := (hK.cell hb1).trans (hc1 k hlt)
      have d2 := (hK.cell hb2).trans (hc2 k hlt2)
      have HZ : Hid ((List.zipWith orI xs ys).take (k + 1) = (List.zipWith orI xs ys).take k ++ [orI (xs.getD k 0) (ys.getD k 0)]) := zip_stepJ hlt hlt2
      have hLl : ((List.zipWith orI xs ys).take k).length ≤ 12 := by rw [List.length_take, List.length_zipWith]; omega
      have ag1 := ho.ge b1
      have ag2 := ho.ge b2
      have hsz := hK.size
      have rr1 := r1.keep hK
      have rr2 := r2.keep hK
      clear hc1 hc2
      generalize xs.getD k 0 = p at *
      generalize ys.getD k 0 = q at *
      generalize (List.zipWith orI xs ys).take k = L at *
      have an1 : v.ownBlock ≠ some b1 := fun e => by have := ag1 e; omega
      have an2 : v.ownBlock ≠ some b2 := fun e => by have := ag2 e; omega
      clear ag1 ag2
      have i1 : (0 : Int) ≤ (k : Int) := Int.natCast_nonneg _
      have i2 : (k : Int) < (xs.length : Int) := by omega
      have i3 : (k : Int) < (ys.length : Int) := by omega
      have m1 : L.length + 1 ≤ maxLen := by unfold maxLen; omega
      have m2 : (L.length + 1) * 8 ≤ 140737488355328 := by omega
      go_wp2_with fail
      go_region_held3 (fun w' => w'.cell? ⟨b1, o1 + k, none⟩ = some (.int .i64 p) ∧ w'.cell? ⟨b2, o2 + k, none⟩ = some (.int .i64 q))
        (first
          | go_keep
          | (go_split_ands
             refine ⟨?_, ?_⟩
             · (rw [hgrow.cell_far _ (by simp; omega) (Ne.symm an1)]; assumption)
             · (rw [hgrow.cell_far _ (by simp; omega) (Ne.symm an2)]; assumption)))
        ((refine step_append_lies _ (by rfl) _ _ _ (by rfl) w.heap.size 2 i0 _ 1 8 Tryz.underlying25 hi hz0 hz1 hz2 rfl (by omega) v L.length (L.map (Value.int .i64)) (by rfl) ((World.ownsRow.alloc ho _).drew)
            ⟨wr.heap.size, 0, none⟩ 1 1 [.int .i64 (orI p q)] (by rfl) (by rfl) (World.news_of_block (cs := #[.int .i64 (orI p q)]) (t := 2) (fr := (0, 0)) (heap_alloc_new wr _)) (by simp [Value.oneCell'])
            (by omega) m1 m2 (by simp; omega) (wr.heap.size + 1) (by simp) ?_; intro gg cap w1 hown1 hgrow hat hlt1))
      have k1 : Keep w w1 := ((hK.alloc _).drew).grown hgrow ho.ge
      have o1' := own_hit hown1
      clear hgrow hown1 hat
      go_wp2
      go_roundw
      case rel => exact ⟨_, k + 1, rfl, by omega, by go_num, by rw [HZ.out]; exact o1', k1⟩
      case measure => simp [intOf]; omega
    · obtain rfl : k = xs.length := by omega
      go_wp2
      go_ret
      refine ⟨_, rfl, ?_, hK⟩
      rw [List.take_of_length_le (by rw [List.length_zipWith]; omega)] at ho
      exact ho
end Go.Proofs.YtkbkdlaknmgjpaaGreat

/- Contracts of the specification's l2Ways, and of its copy of a list. -/
namespace Go.Proofs.YtkbkdlaknmgjpaaGreat
open Go.ChangeShapes Go.WideShapes Go.ChangeAt Go.RowKit

set_option maxHeartbeats 400000 in
theorem l1Copy_any (w : World) (base : Nat) (v : Value) (zs : List Int) (h : Row w base v zs) (hn : zs.length ≤ 1048576) :
    Calls Tryz.prog 158 #[v] w fun e w' => ∃ v', e = .returned v' ∧ Own w' w.heap.size v' zs ∧ Keep w w' := by
  have ho : Own (w.alloc (.cells #[] 2)) w.heap.size (.slice (some ⟨w.heap.size, 0, none⟩) 0 0) [] := World.ownsRow_lit w #[] 0 (Nat.le_refl _) (by decide) rfl
  have hK : Keep w (w.alloc (.cells #[] 2)) := (Keep.refl w).alloc _
  obtain ⟨i0, hi, hz0, hz1, hz2⟩ := info_parts Tryz.infoI
  rcases h with ⟨rfl, rfl⟩ | ⟨g, cap, rfl, hg, hr⟩
  · go_enter Tryz.func158, Tryz.ntmps158
    go_wp2_with (at_builtin; refine wpList_append_own_none rfl _ _ 25 rfl w.heap.size 2 i0 1 Tryz.underlying25 hi _ _ _ rfl ho rfl ?_)
    go_wp2
    go_ret
    exact ⟨_, rfl, ho, hK⟩
  · go_enter Tryz.func158, Tryz.ntmps158
    go_wp2_with (at_builtin; refine wpList_append_own _ rfl _ _ 25 rfl w.heap.size 2 i0 (.int .i64 0) 1 8 Tryz.underlying25 hi hz0 hz1 hz2 rfl (by decide) _ _ _ rfl ho ⟨g, 0, none⟩ zs.length cap (zs.map (Value.int .i64)) rfl (by simp) ?c1 ?c2 ?c3 ?c4 ?c5 ?_)
    case c1 =>
      intro j u hj
      rw [List.getElem?_map] at hj
      have hjl : j < zs.length := by
        apply Classical.byContradiction
        intro hno
        rw [List.getElem?_eq_none (by omega)] at hj
        cases hj
      have e1 : (⟨g, 0, none⟩ : Addr).add j = ⟨g, j, none⟩ := by unfold Addr.add; split <;> simp_all
      rw [e1, hK.cell hr.lt, hr.cell hjl, List.getD_eq_getElem?_getD]
      rw [List.getElem?_eq_getElem hjl] at hj ⊢
      simpa using hj
    case c2 =>
      intro u hu
      obtain ⟨y, _, rfl⟩ := List.mem_map.1 hu
      rfl
    case c3 => simp; unfold maxLen; omega
    case c4 => simp; omega
    case c5 => simp
    intro v' w1 hown' hgrow _
    have k1 : Keep w w1 := hK.grown hgrow ho.ge
    have o1 : Own w1 w.heap.size v' zs := by unfold Own; simpa using hown'
    clear hgrow hown'
    go_wp2
    go_ret
    exact ⟨_, rfl, o1, k1⟩
theorem wayS_hit (k : Nat) (st : List Int) (i : Nat) (h : inSetB ((wayIn k st i).getD i 0) k = true) : wayIn k st (i + 1) = (wayIn k st i).set i (orI ((wayIn k st i).getD i 0) ((wayIn k st i).getD k 0)) := by
  conv => lhs; unfold wayIn
  rw [if_pos h]
theorem wayS_miss (k : Nat) (st : List Int) (i : Nat) (h : inSetB ((wayIn k st i).getD i 0) k = false) : wayIn k st (i + 1) = wayIn k st i := by
  conv => lhs; unfold wayIn
  rw [h]; rfl
set_option maxRecDepth 100000 in
set_option maxHeartbeats 3200000 in
theorem l2Ways_any (w : World) (base : Nat) (v : Value) (zs : List Int) (h : Row w base v zs) (ht : Web zs.length zs) :
    Calls Tryz.prog 116 #[v] w fun e w' => ∃ v', e = .returned v' ∧ Row w' w.heap.size v' (wayAll zs zs.length) ∧ Keep w w' := by
  have hz12 := ht.1
  have HX : Hid (Web zs.length zs) := ht
  clear ht
  go_enter Tryz.func116, Tryz.ntmps116
  go_wp2_with fail
  refine (l1Copy_any _ _ _ _ h (by omega)).mono ?_
  rintro e w1 ⟨vo, rfl, oo, k1⟩
  clear h
  have hrow := oo.row
  clear oo
  rcases hrow with ⟨rfl, hnil⟩ | ⟨g, cap, rfl, hg, rb⟩
  · subst hnil
    go_wp2
    refine wp_loop_rounds 1 ?_
    rw [rounds_succ]
    go_wp2
    go_ret
    exact ⟨_, rfl, .inl ⟨rfl, rfl⟩, k1⟩
  · go_wp2_with fail
    go_loopw [4] (fun i wr => ∃ k : Nat, k ≤ zs.length ∧ i = .int .i64 k ∧ RowAt wr g (wayAll zs k) ∧ Keep w wr) (fun i _ => zs.length - (intOf i).toNat)
    case atStart => exact ⟨0, Nat.zero_le _, rfl, rb, k1⟩
    case round =>
      obtain ⟨k, hk, rfl, hr, hK⟩ := hrel
      clear rb k1
      by_cases hlt : k < zs.length
      · have HT : Hid (Web zs.length (wayAll zs k)) := web_wayAll HX.out k hk
        have HE : Hid (wayIn k (wayAll zs k) zs.length = wayAll zs (k + 1)) := rfl
        generalize wayAll zs k = T at *
        obtain ⟨wo, rfl⟩ : ∃ wo : World, wo = wr := ⟨_, rfl⟩
        go_wp2_with fail
        go_loopw [5] (fun i wr => ∃ m : Nat, m ≤ zs.length ∧ i = .int .i64 m ∧ RowAt wr g (wayIn k T m) ∧ Keep w wr) (fun i _ => zs.length - (intOf i).toNat)
        case atStart => exact ⟨0, Nat.zero_le _, rfl, hr, hK⟩
        case round =>
          clear hr hK
          obtain ⟨m, hm, rfl, hr, hK⟩ := hrel
          by_cases hml : m < zs.length
          · have hB := (web_wayIn hlt HT.out m hm).1
            have hBl := hB.2.1
            have hbit : inSetB ((wayIn k T m).getD m 0) k = bitB ((wayIn k T m).getD m 0) k := inSetB_bit (okB_range (hB.2.2 m hml)) (by omega)
            clear hB
            have d0 := hr.cell (j := m) (by omega)
            have d1 := hr.cell (j := k) (by omega)
            have d2 := hr.free m
            cases hb : bitB ((wayIn k T m).getD m 0) k
            · rw [hb] at hbit
              have HM : Hid (wayIn k T (m + 1) = wayIn k T m) := wayS_miss k T m hbit
              rw [← HM.out] at hr
              clear hbit
              generalize (wayIn k T m).getD m 0 = x at *
              generalize (wayIn k T m).getD k 0 = y at *
              clear d1 d2 HM
              go_wp2_with fail
              refine (l1Has_any _ _ _ (by omega) (by omega)).mono ?_
              rintro e w2 ⟨rfl, rfl⟩
              go_wp2
              go_roundw
              case rel => exact ⟨m + 1, by omega, by go_num, hr, hK⟩
              case measure => simp [intOf]; omega
            · rw [hb] at hbit
              have HM : Hid (wayIn k T (m + 1) = (wayIn k T m).set m (orI ((wayIn k T m).getD m 0) ((wayIn k T m).getD k 0))) := wayS_hit k T m hbit
              have hs := hr.set m (orI ((wayIn k T m).getD m 0) ((wayIn k T m).getD k 0))
              rw [← HM.out] at hs
              have hK2 := hK.grown (grown_set wr g m (.int .i64 (orI ((wayIn k T m).getD m 0) ((wayIn k T m).getD k 0)))) (by simp; exact hg)
              clear HM hr hbit
              generalize (wayIn k T m).getD m 0 = x at *
              generalize (wayIn k T m).getD k 0 = y at *
              have i1 : (0 : Int) ≤ (m : Int) := Int.natCast_nonneg _
              have i2 : (m : Int) < (zs.length : Int) := by omega
              have i3 : (0 : Int) ≤ (k : Int) := Int.natCast_nonneg _
              have i4 : (k : Int) < (zs.length : Int) := by omega
              go_wp2_with fail
              refine (l1Has_any _ _ _ (by omega) (by omega)).mono ?_
              rintro e w2 ⟨rfl, rfl⟩
              go_wp2
              go_region
              go_wp2
              go_roundw
              case rel => exact ⟨m + 1, by omega, by go_num, hs.drew, hK2.drew⟩
              case measure => simp [intOf]; omega
          · obtain rfl : m = zs.length := by omega
            rw [HE.out] at hr
            go_wp2
            go_roundw
            case rel => exact ⟨k + 1, by omega, by go_num, hr, hK⟩
            case measure => simp [intOf]; omega
      · obtain rfl : k = zs.length := by omega
        go_wp2
        go_ret
        exact ⟨_, rfl, row_new hr hg (wayAll_len zs _), hK⟩
end Go.Proofs.YtkbkdlaknmgjpaaGreat

/- Contract of the specification's l3Round. -/
namespace Go.Proofs.YtkbkdlaknmgjpaaGreat
open Go.ChangeShapes Go.WideShapes Go.ChangeAt Go.RowKit

theorem roundS_yes {zs : List Int} (ht : webB zs = true) {k : Nat} (hk : k < (waysL zs).length) (h : inSetB ((waysL zs).getD k 0) k = true) : roundB zs = true := by
  have hl := (web_ways (web_iff.1 ht)).2.1
  unfold roundB
  rw [ht, Bool.true_and, List.any_eq_true]
  exact ⟨k, List.mem_range.2 (by omega), h⟩
theorem roundS_no {zs : List Int} (ht : webB zs = true) (h : ∀ i, i < (waysL zs).length → inSetB ((waysL zs).getD i 0) i = false) : roundB zs = false := by
  have hl := (web_ways (web_iff.1 ht)).2.1
  unfold roundB
  rw [ht, Bool.true_and, List.any_eq_false]
  intro i hi
  have := h i (by have := List.mem_range.1 hi; omega)
  unfold line
  rw [this]; simp
set_option maxRecDepth 100000 in
set_option maxHeartbeats 1000000 in
theorem l3Round_any (w : World) (base : Nat) (v : Value) (zs : List Int) (h : Row w base v zs) (ht : webB zs = true) :
    Calls Tryz.prog 62 #[v] w fun e w' => e = .returned (.bool (roundB zs)) ∧ Keep w w' := by
  have HW : Hid (Web zs.length zs) := web_iff.1 ht
  have HE : Hid (wayAll zs zs.length = waysL zs) := (ways_eq HW.out).symm
  have hY : Hid (∀ k, k < (waysL zs).length → inSetB ((waysL zs).getD k 0) k = true → roundB zs = true) := fun k => roundS_yes ht
  have hN : Hid ((∀ i, i < (waysL zs).length → inSetB ((waysL zs).getD i 0) i = false) → roundB zs = false) := roundS_no ht
  have hO : Hid (∀ k, k < (waysL zs).length → inSetB ((waysL zs).getD k 0) k = bitB ((waysL zs).getD k 0) k) := fun k hk => by
    have hw := web_ways HW.out
    have hl := hw.2.1
    have := hw.1
    exact inSetB_bit (okB_range (hw.2.2 k (by omega))) (by omega)
  have hl : (waysL zs).length ≤ 12 := by have hw := web_ways HW.out; have := hw.1; have := hw.2.1; omega
  clear ht
  go_enter Tryz.func62, Tryz.ntmps62
  go_wp2_with fail
  refine (l2Ways_any _ _ _ _ h HW.out).mono ?_
  rintro e w1 ⟨v1, rfl, r1, k1⟩
  rw [HE.out] at r1
  clear h HW HE
  generalize waysL zs = W at *
  obtain ⟨a, c, rfl, hr⟩ := r1.rd
  clear r1
  go_wp2
  go_loop [4] (fun i => ∃ k : Nat, k ≤ W.length ∧ i = .int .i64 k ∧ ∀ j : Nat, j < k → inSetB (W.getD j 0) j = false) (fun i => W.length - (intOf i).toNat)
  case atStart => exact ⟨0, Nat.zero_le _, rfl, fun j hj => by omega⟩
  case round =>
    obtain ⟨k, hk, rfl, hall⟩ := hrel
    have HA : Hid (∀ j : Nat, j < k → inSetB (W.getD j 0) j = false) := hall
    clear hall
    by_cases hlt : k < W.length
    · rcases hr with hr | ⟨b, o, rfl, hb, hc⟩
      · exfalso; rw [hr] at hlt; simp at hlt
      have d0 := hc k hlt
      have HO : Hid (inSetB (W.getD k 0) k = bitB (W.getD k 0) k) := hO.out k hlt
      have HY : Hid (inSetB (W.getD k 0) k = true → roundB zs = true) := hY.out k hlt
      clear hc hO hY
      cases hbit : bitB (W.getD k 0) k
      · have HB : Hid (inSetB (W.getD k 0) k = false) := HO.out.trans hbit
        obtain ⟨x, hx⟩ : ∃ x, x = W.getD k 0 := ⟨_, rfl⟩
        have HX : Hid (x = W.getD k 0) := hx
        rw [← hx] at d0 hbit
        clear hx HY HO
        go_wp2_with fail
        refine (l1Has_any _ _ _ (by omega) (by omega)).mono ?_
        rintro e w2 ⟨rfl, rfl⟩
        go_wp2
        go_round
        case rel =>
          refine ⟨k + 1, by omega, by go_num, fun j hj => ?_⟩
          by_cases e : j = k
          · subst e; exact HB.out
          · exact HA.out j (by omega)
        case measure => simp [intOf]; omega
      · have HB : Hid (roundB zs = true) := HY.out (HO.out.trans hbit)
        clear HY HO
        obtain ⟨x, hx⟩ : ∃ x, x = W.getD k 0 := ⟨_, rfl⟩
        have HX : Hid (x = W.getD k 0) := hx
        rw [← hx] at d0 hbit
        clear hx
        go_wp2_with fail
        refine (l1Has_any _ _ _ (by omega) (by omega)).mono ?_
        rintro e w2 ⟨rfl, rfl⟩
        go_wp2
        go_ret
        exact ⟨ret_bool HB.out.symm, k1⟩
    · go_wp2
      go_ret
      exact ⟨ret_bool (hN.out fun i hi => HA.out i (by omega)).symm, k1⟩
end Go.Proofs.YtkbkdlaknmgjpaaGreat

/- Contract of the specification's l11Web. -/
namespace Go.Proofs.YtkbkdlaknmgjpaaGreat
open Go.ChangeShapes Go.WideShapes Go.ChangeAt Go.RowKit

/-- The four webs of a tale have as many places as there are events. -/
theorem four_len {n : Nat} {a b c d : List Int} (ha : Web n a) (hb : Web n b) (hc : Web n c) (hd : Web n d) : a.length = b.length ∧ c.length = d.length ∧ (List.zipWith orI a b).length = (List.zipWith orI c d).length ∧ a.length ≤ 12 ∧ c.length ≤ 12 ∧ (List.zipWith orI a b).length ≤ 12 ∧
    mixL orI (mixL orI a b) (mixL orI c d) = List.zipWith orI (List.zipWith orI a b) (List.zipWith orI c d) := by
  have h1 := (web_join ha hb).1
  have h2 := (web_join hc hd).1
  have e := mixL_web orI h1 h2
  rw [mixL_web orI ha hb] at h1 e ⊢
  rw [mixL_web orI hc hd] at h2 e ⊢
  refine ⟨by rw [ha.2.1, hb.2.1], by rw [hc.2.1, hd.2.1], by rw [h1.2.1, h2.2.1], by rw [ha.2.1]; exact ha.1, by rw [hc.2.1]; exact hc.1, by rw [h1.2.1]; exact h1.1, e⟩
set_option maxRecDepth 100000 in
set_option maxHeartbeats 4000000 in
theorem l11Web_any (w : World) (v vF vR : Value) (es : List Ev) (f rows : List Int) (h : RdE w v es) (hf : Rd w vF f) (hr : Rd w vR rows) (hn : es.length ≤ 12) (W : Webs es f rows) (hlr : rows.length ≤ 36) (hrw : ∀ j, j < rows.length → 0 ≤ rows.getD j 0 ∧ rows.getD j 0 < (es.length : Int)) (hl : (idxB rdE es).length ≤ f.length) (hb : ∀ i, i < (idxB rdE es).length → 0 ≤ f.getD i 0 ∧ f.getD i 0 < (es.length : Int)) :
    Calls Tryz.prog 63 #[v, .agg #[vF, vR]] w fun e w' => ∃ v', e = .returned v' ∧ Own w' w.heap.size v' (pwL es f rows) ∧ Keep w w' := by
  have HF := Lib.hid (four_len (plc_line hn).1 W.fw W.rw' W.ag)
  have C1 := Lib.hid (fun (U : World) (kU : Keep w U) => l7Place_any U v es (h.keep kU) hn)
  have C2 := Lib.hid (fun (U : World) (kU : Keep w U) => l8Web_any U v vF es f (h.keep kU) (hf.keep kU) hn hl hb)
  have C3 := Lib.hid (fun (U : World) (kU : Keep w U) => l9Web_any U v vR es rows (h.keep kU) (hr.keep kU) hn hlr hrw)
  have C4 := Lib.hid (fun (U : World) (kU : Keep w U) => l10Against_any U v vF vR es f rows (h.keep kU) (hf.keep kU) (hr.keep kU) hn hlr hrw hl hb)
  have HE : Hid (pwL es f rows = mixL orI (mixL orI (plcL es) (fwL es f)) (mixL orI (rwL es rows) (agL es f rows))) := Lib.hid rfl
  clear hl hb hrw hlr W hn
  obtain ⟨aF, cF, rfl, -⟩ := hf
  obtain ⟨aR, cR, rfl, -⟩ := hr
  obtain ⟨aE, cE', rfl, -⟩ := h
  generalize pwL es f rows = PW at HE ⊢
  generalize plcL es = L1 at *
  generalize fwL es f = L2 at *
  generalize rwL es rows = L3 at *
  generalize agL es f rows = L4 at *
  go_enter Tryz.func63, Tryz.ntmps63
  have b0 : (w.alloc (.cells #[.slice aF f.length cF, .slice aR rows.length cR] 27)).cell? ⟨w.heap.size, 0, none⟩ = some (.slice aF f.length cF) := box_cell (Keep.refl _) 0
  have b1 : (w.alloc (.cells #[.slice aF f.length cF, .slice aR rows.length cR] 27)).cell? ⟨w.heap.size, 1, none⟩ = some (.slice aR rows.length cR) := box_cell (Keep.refl _) 1
  have K0 : Keep w (w.alloc (.cells #[.slice aF f.length cF, .slice aR rows.length cR] 27)).drew := ((Keep.refl w).alloc _).drew
  have z0 : w.heap.size < (w.alloc (.cells #[.slice aF f.length cF, .slice aR rows.length cR] 27)).drew.heap.size := by simp
  go_wp2_with fail
  go_region_held3 (fun w' => w'.cell? ⟨w.heap.size, 0, none⟩ = some (.slice aF f.length cF) ∧ w'.cell? ⟨w.heap.size, 1, none⟩ = some (.slice aR rows.length cR))
    (first | go_keep | (go_split_ands; refine ⟨?_, ?_⟩ <;> (rw [kk.cell (by assumption)]; assumption)))
    ((first
      | (go_at_call 118; refine (C1.out _ K0).mono ?_; rintro e w1 ⟨v1, rfl, o1, kk⟩; have z1 : w.heap.size < w1.heap.size := Nat.lt_of_lt_of_le z0 kk.size; have K1 := K0.trans kk; have r1 := o1.rd; clear o1)
      | (go_at_call 58; refine (C2.out _ K1).mono ?_; clear kk; rintro e w2 ⟨v2, rfl, o2, kk⟩; have z2 : w.heap.size < w2.heap.size := Nat.lt_of_lt_of_le z1 kk.size; have K2 := K1.trans kk; have r2 := o2.rd; replace r1 := r1.keep kk; clear o2)
      | (go_at_call 104; refine (C3.out _ K3).mono ?_; clear kk; rintro e w4 ⟨v4, rfl, o4, kk⟩; have z4 : w.heap.size < w4.heap.size := Nat.lt_of_lt_of_le z3 kk.size; have K4 := K3.trans kk; have r4 := o4.rd; replace r3 := r3.keep kk; clear o4)
      | (go_at_call 105; refine (C4.out _ K4).mono ?_; clear kk; rintro e w5 ⟨v5, rfl, o5, kk⟩; have z5 : w.heap.size < w5.heap.size := Nat.lt_of_lt_of_le z4 kk.size; have K5 := K4.trans kk; have r5 := o5.rd; replace r4 := r4.keep kk; replace r3 := r3.keep kk; clear o5)
      | (go_at_call 102; refine (l2Join_any _ _ _ _ _ r1 r2 HF.out.2.2.2.1 HF.out.1).mono ?_; clear kk; rintro e w3 ⟨v3, rfl, o3, kk⟩; have z3 : w.heap.size < w3.heap.size := Nat.lt_of_lt_of_le z2 kk.size; have K3 := K2.trans kk; have r3 := o3.rd; clear o3 r1 r2)
      | (go_at_call 102; refine (l2Join_any _ _ _ _ _ r4 r5 HF.out.2.2.2.2.1 HF.out.2.1).mono ?_; clear kk; rintro e w6 ⟨v6, rfl, o6, kk⟩; have z6 : w.heap.size < w6.heap.size := Nat.lt_of_lt_of_le z5 kk.size; have K6 := K5.trans kk; have r6 := o6.rd; replace r3 := r3.keep kk; clear o6 r4 r5)
      | (go_at_call 102; refine (l2Join_any _ _ _ _ _ r3 r6 HF.out.2.2.2.2.2.1 HF.out.2.2.1).mono ?_; clear kk; rintro e w7 ⟨v7, rfl, o7, kk⟩)))
  all_goals
    go_wp2
    go_ret
    exact ⟨_, rfl, by rw [HE.out, HF.out.2.2.2.2.2.2]; exact o7.base_le (by have := K6.size; omega), K6.trans kk⟩
theorem tale_webs {dss : List (List Dd)} {f rows : List Int} (h : taleB dss f rows = true) : Webs (evsW dss dss.length) f rows ∧ webB (pwL (evsW dss dss.length) f rows) = true := by
  obtain ⟨hb, hs, hr⟩ := tale_use h
  have e1 : eventsB dss = evsW dss dss.length := by rw [eventsB, if_pos hb]
  have h12 := (events_law hb).1
  rw [e1] at hs hr
  have W := webs_of h12 hs hr
  exact ⟨W, (web_four (plc_line h12).1 W.fw W.rw' W.ag).1.b⟩
end Go.Proofs.YtkbkdlaknmgjpaaGreat

/- Contract of the specification's l12Others. -/
namespace Go.Proofs.YtkbkdlaknmgjpaaGreat
open Go.ChangeShapes Go.WideShapes Go.ChangeAt Go.RowKit

theorem ow_three {es : List Ev} {f : List Int} : ∀ k : Nat, k ≤ 3 → offAll (owP es) es.length (fwL es f) k = fwL es f
  | 0, _ => rfl
  | k + 1, h => by
    rw [offAll, ow_three k (by omega)]
    exact offIn_none _ _ (fun j _ => by unfold owP; rw [decide_eq_false (show ¬ 3 ≤ k by omega)]; rfl)
set_option maxRecDepth 100000 in
set_option maxHeartbeats 4000000 in
theorem l12Others_any (w : World) (v vf : Value) (es : List Ev) (f : List Int) (h : RdE w v es) (hv : Rd w vf f) (h3 : 3 ≤ es.length) (hn : es.length ≤ 12) (HB : Web es.length (fwL es f)) (hl : (idxB rdE es).length ≤ f.length) (hb : ∀ i, i < (idxB rdE es).length → 0 ≤ f.getD i 0 ∧ f.getD i 0 < (es.length : Int)) :
    Calls Tryz.prog 57 #[v, vf] w fun e w' => ∃ v', e = .returned v' ∧ Row w' w.heap.size v' (owL es f) ∧ Keep w w' := by
  have HT := Lib.hid (ow_three (es := es) (f := f) 3 (Nat.le_refl _))
  have r := h
  obtain ⟨a, c, rfl, h⟩ := h
  go_enter Tryz.func57, Tryz.ntmps57
  go_wp2_with fail
  refine (l8Web_any _ _ _ _ _ r hv hn hl hb).mono ?_
  rintro e w1 ⟨v1, rfl, o1, k1⟩
  clear r hl hb hv
  obtain ⟨G, cap, rfl, hG, hR⟩ : ∃ g cap, v1 = .slice (some ⟨g, 0, none⟩) es.length cap ∧ w.heap.size ≤ g ∧ RowAt w1 g (fwL es f) := by
    rcases o1 with ⟨_, e⟩ | ⟨g, cap, e, hg, hr⟩
    · exact absurd (congrArg List.length e) (by rw [HB.2.1]; show ¬ es.length = 0; omega)
    · exact ⟨g, cap, by rw [e, HB.2.1], hg, hr⟩
  clear o1
  have HW0 := Lib.hid HB
  clear HB
  go_wp2
  go_loopw [6] (fun i wr => ∃ k : Nat, 3 ≤ k ∧ k ≤ es.length ∧ i = .int .i64 k ∧ RowAt wr G (offAll (owP es) es.length (fwL es f) k) ∧ Keep w wr) (fun i _ => es.length - (intOf i).toNat)
  case atStart => exact ⟨3, Nat.le_refl _, h3, rfl, by rw [HT.out]; exact hR, k1⟩
  case round =>
    obtain ⟨k, hk3, hk, rfl, hr, hK⟩ := hrel
    clear hR k1
    by_cases hlt : k < es.length
    · rcases h with h | ⟨b, off, rfl, hb, hc⟩
      · exfalso; rw [h] at hlt; simp at hlt
      have AT := hc k _ (evs_get hlt)
      have HW := Lib.hid (web_offAll (p := owP es) HW0.out k (by omega)).1
      have HE : Hid (offIn (owP es) k (offAll (owP es) es.length (fwL es f) k) es.length = offAll (owP es) es.length (fwL es f) (k + 1)) := Lib.hid rfl
      generalize offAll (owP es) es.length (fwL es f) k = T at *
      have HI : Hid (offIn (owP es) k T 3 = T) := Lib.hid (offIn_none _ _ (fun j hj => by unfold owP; rw [decide_eq_false (show ¬ 3 ≤ j by omega)]; simp))
      obtain ⟨wo, rfl⟩ : ∃ wo : World, wo = wr := ⟨_, rfl⟩
      have i1 : (0 : Int) ≤ (k : Int) := Int.natCast_nonneg _
      have i2 : (k : Int) < (es.length : Int) := by omega
      go_wp2
      go_loopw [7] (fun i wr => ∃ m : Nat, 3 ≤ m ∧ m ≤ es.length ∧ i = .int .i64 m ∧ RowAt wr G (offIn (owP es) k T m) ∧ Keep w wr) (fun i _ => es.length - (intOf i).toNat)
      case atStart => exact ⟨3, Nat.le_refl _, h3, rfl, by rw [HI.out]; exact hr, hK⟩
      case round =>
        clear hr hK
        obtain ⟨m, hm3, hm, rfl, hr, hK⟩ := hrel
        by_cases hml : m < es.length
        · have AK := AT.keep hb hK
          have AM := (hc m _ (evs_get hml)).keep hb hK
          have hbw : b < wr.heap.size := Nat.lt_of_lt_of_le hb hK.size
          have hB := (web_offIn (p := owP es) hlt HW.out m hm).1
          have hBl : k < (offIn (owP es) k T m).length := by rw [hB.2.1]; exact hlt
          clear hB AT hc
          have HP : Hid (owP es k m = ((es.getD k zE).1 == (es.getD m zE).1)) := Lib.hid (by unfold owP; rw [decide_eq_true hk3, decide_eq_true hm3]; rfl)
          obtain ⟨e, he⟩ : ∃ e, e = es.getD k zE := ⟨_, rfl⟩
          rw [← he] at AK HP
          clear he
          obtain ⟨d, hd⟩ : ∃ d, d = es.getD m zE := ⟨_, rfl⟩
          rw [← hd] at AM HP
          clear hd
          obtain ⟨x0, x1, x2, x3, x4, x5⟩ := e
          obtain ⟨y0, y1, y2, y3, y4, y5⟩ := d
          obtain ⟨A3, -, -, -, -, -⟩ := atE AK
          obtain ⟨B3, -, -, -, -, -⟩ := atE AM
          clear AK AM
          have j1 : (0 : Int) ≤ (m : Int) := Int.natCast_nonneg _
          have j2 : (m : Int) < (es.length : Int) := by omega
          have j3 : (es.length : Int) ≤ 12 := by omega
          have HH : owP es k m = true → Hid (offIn (owP es) k T (m + 1) = (offIn (owP es) k T m).set k (bits .andNot .i64 ((offIn (owP es) k T m).getD k 0) (wrap64 (2 ^ (m : Int).toNat)))) := fun hp => Lib.hid (offIn_hit T hp)
          have HM : owP es k m = false → Hid (offIn (owP es) k T (m + 1) = offIn (owP es) k T m) := fun hp => Lib.hid (offIn_miss T hp)
          have d1 := hr.cell (j := k) hBl
          have d2 := hr.free k
          have hGl := hr.lt
          obtain ⟨S, hS⟩ : ∃ S, S = offIn (owP es) k T m := ⟨_, rfl⟩
          rw [← hS] at d1 hr HH HM
          clear hS hBl
          obtain ⟨x, hx⟩ : ∃ x, x = S.getD k 0 := ⟨_, rfl⟩
          rw [← hx] at d1 HH
          clear hx
          by_cases xy : x0 = y0
          · subst xy
            have HE1 := HH (by rw [HP.out]; simp)
            clear HH HM HP
            go_wp2
            go_quiet (fail)
            go_wp2
            go_roundw
            case rel => exact ⟨m + 1, by omega, by omega, by go_num, by rw [HE1.out]; exact (hr.drewN _).set k _, (hK.grown (grown_draw wr _ none) (by simp)).grown (grown_set _ G k _) (by simp; exact hG)⟩
            case measure => simp [intOf]; omega
          · have xb : (x0 == y0) = false := by simp [xy]
            have HE1 := HM (by rw [HP.out]; exact xb)
            clear HH HM HP d1 d2
            go_wp2
            go_quiet (fail)
            go_wp2
            go_roundw
            case rel => exact ⟨m + 1, by omega, by omega, by go_num, by rw [HE1.out]; exact hr.drewN _, hK.grown (grown_draw wr _ none) (by simp)⟩
            case measure => simp [intOf]; omega
        · obtain rfl : m = es.length := by omega
          go_wp2
          go_roundw
          case rel => exact ⟨k + 1, by omega, by omega, by go_num, by rw [← HE.out]; exact hr, hK⟩
          case measure => simp [intOf]; omega
    · obtain rfl : k = es.length := by omega
      have HL := (web_offAll (p := owP es) HW0.out es.length (Nat.le_refl _)).1.2.1
      go_wp2
      go_ret
      exact ⟨_, rfl, row_new hr hG HL, hK⟩
end Go.Proofs.YtkbkdlaknmgjpaaGreat

/- Contracts of the specification's l7Whole and l7Waits. -/
namespace Go.Proofs.YtkbkdlaknmgjpaaGreat
open Go.ChangeShapes Go.WideShapes Go.ChangeAt Go.RowKit

abbrev eV (i q : Int) (r : Bool) (pl vl c : Int) : Value := .agg #[.int .i64 i, .int .i64 q, .bool r, .int .i64 pl, .int .i64 vl, .int .i64 c]
set_option maxRecDepth 100000 in
set_option maxHeartbeats 2000000 in
theorem l7Whole_any (w : World) (v : Value) (dss : List (List Dd)) (h : RdW w v dss) (i k : Nat) (r : Bool) (pl vl cl : Int) (hi : i < dss.length) (hk : k < (dss.getD i []).length) :
    Calls Tryz.prog 155 #[v, eV i k r pl vl cl] w fun e w' => e = .returned (.bool (wholeD ((dss.getD i []).getD k zD))) ∧ Keep w w' := by
  obtain ⟨a, c, rfl, h⟩ := h
  rcases h with h | ⟨b, o, rfl, hb, hc⟩
  · exfalso; rw [h] at hi; simp at hi
  obtain ⟨u, e1, r1⟩ := hc i hi
  clear hc
  obtain ⟨ds, hds⟩ : ∃ ds, ds = dss.getD i [] := ⟨_, rfl⟩
  rw [← hds] at r1 hk ⊢
  clear hds
  obtain ⟨ai, ci, rfl, r1⟩ := r1
  rcases r1 with h | ⟨b2, o2, rfl, hb2, hc2⟩
  · exfalso; rw [h] at hk; simp at hk
  have AT := hc2 k hk
  clear hc2
  obtain ⟨d, hd⟩ : ∃ d, d = ds.getD k zD := ⟨_, rfl⟩
  rw [← hd] at AT ⊢
  clear hd
  obtain ⟨x0, x1, x2, x3⟩ := d
  obtain ⟨A0, A1, A2, A3⟩ := AT
  simp only at A0 A1 A2 A3
  have i1 : (0 : Int) ≤ (i : Int) := Int.natCast_nonneg _
  have i2 : (i : Int) < (dss.length : Int) := by omega
  have j1 : (0 : Int) ≤ (k : Int) := Int.natCast_nonneg _
  have j2 : (k : Int) < (ds.length : Int) := by omega
  by_cases x3e : x0 = 3
  · subst x3e
    go_enter Tryz.func155, Tryz.ntmps155
    go_wp2
    go_region
    go_wp2
    go_ret
    exact ⟨by simp [wholeD], by first | exact (((Keep.refl w).alloc _).drew).alloc _ | exact ((((Keep.refl w).alloc _)).alloc _).drew⟩
  · have xb : (x0 == 3) = false := by simp [x3e]
    have HE : Hid (wholeD (x0, x1, x2, x3) = decide (0 < x3)) := Lib.hid (by simp [wholeD, x3e])
    clear x3e
    go_enter Tryz.func155, Tryz.ntmps155
    go_wp2
    go_region
    go_wp2
    go_ret
    exact ⟨by rw [HE.out]; rfl, by first | exact (((Keep.refl w).alloc _).drew).alloc _ | exact ((((Keep.refl w).alloc _)).alloc _).drew⟩
set_option maxRecDepth 100000 in
set_option maxHeartbeats 2000000 in
theorem l7Waits_any (w : World) (v : Value) (dss : List (List Dd)) (h : RdW w v dss) (i p q : Nat) (r : Bool) (pl vl cl i' : Int) (r' : Bool) (pl' vl' cl' : Int) (hi : i < dss.length) (hp : p < (dss.getD i []).length) (hq : q < (dss.getD i []).length) (hl : (dss.getD i []).length ≤ 1048576) :
    Calls Tryz.prog 154 #[v, eV i p r pl vl cl, eV i' q r' pl' vl' cl'] w fun e w' => e = .returned (.bool (waitsD (dss.getD i []) p q)) ∧ Keep w w' := by
  obtain ⟨a, c, rfl, h⟩ := h
  rcases h with h | ⟨b, o, rfl, hb, hc⟩
  · exfalso; rw [h] at hi; simp at hi
  obtain ⟨u, e1, r1⟩ := hc i hi
  clear hc
  obtain ⟨ds, hds⟩ : ∃ ds, ds = dss.getD i [] := ⟨_, rfl⟩
  rw [← hds] at r1 hp hq hl ⊢
  clear hds
  obtain ⟨ai, ci, rfl, r1⟩ := r1
  rcases r1 with h | ⟨b2, o2, rfl, hb2, hc2⟩
  · exfalso; rw [h] at hp; simp at hp
  have i1 : (0 : Int) ≤ (i : Int) := Int.natCast_nonneg _
  have i2 : (i : Int) < (dss.length : Int) := by omega
  go_enter Tryz.func154, Tryz.ntmps154
  go_wp2
  go_loopw [7] (fun s wr => ∃ k : Nat, p < k ∧ k ≤ ds.length ∧ s = .int .i64 k ∧ Hid (∀ j, p < j → j < k → (ds.getD j zD).1 ≠ 4) ∧ wr = (w.alloc (.cells #[.int .i64 i, .int .i64 p, .bool r, .int .i64 pl, .int .i64 vl, .int .i64 cl] 40)).alloc (.cells #[.int .i64 i', .int .i64 q, .bool r', .int .i64 pl', .int .i64 vl', .int .i64 cl'] 40)) (fun s _ => ds.length - (intOf s).toNat)
  case atStart => exact ⟨p + 1, by omega, by omega, by go_num, Lib.hid (fun j h1 h2 => by omega), rfl⟩
  case round =>
    obtain ⟨k, hpk, hk, rfl, HN, rfl⟩ := hrel
    by_cases hlt : k < q
    · have AT := hc2 k (by omega)
      clear hc2
      have HY := @waitsD_yes ds p q k hpk hlt
      have HX : (ds.getD k zD).1 ≠ 4 → Hid (∀ j, p < j → j < k + 1 → (ds.getD j zD).1 ≠ 4) := fun h4 => Lib.hid (fun j h1 h2 => by
        by_cases e : j = k
        · subst e; exact h4
        · exact HN.out j h1 (by omega))
      obtain ⟨d, hd⟩ : ∃ d, d = ds.getD k zD := ⟨_, rfl⟩
      rw [← hd] at AT HY HX
      clear hd HN
      obtain ⟨x0, x1, x2, x3⟩ := d
      obtain ⟨A0, -, -, -⟩ := AT
      simp only at A0 HY HX
      have j0 : (k : Int) < (q : Int) := by omega
      have j1 : (0 : Int) ≤ (k : Int) := Int.natCast_nonneg _
      have j2 : (k : Int) < (ds.length : Int) := by omega
      by_cases x4 : x0 = 4
      · have HE := Lib.hid (HY x4)
        subst x4
        clear HX HY
        go_wp2
        go_ret
        exact ⟨by rw [HE.out]; rfl, ((Keep.refl w).alloc _).alloc _⟩
      · have HE := HX x4
        have xb : (x0 == 4) = false := by simp [x4]
        clear HX HY x4
        go_wp2
        go_roundw
        case rel => exact ⟨k + 1, by omega, by omega, by go_num, HE, trivial⟩
        case measure => simp [intOf]; omega
    · have HE : Hid (waitsD ds p q = false) := Lib.hid (waitsD_no (fun j h1 h2 => HN.out j h1 (by omega)))
      clear HN
      have j0 : (q : Int) ≤ (k : Int) := by omega
      go_wp2
      go_ret
      exact ⟨by rw [HE.out]; rfl, ((Keep.refl w).alloc _).alloc _⟩
end Go.Proofs.YtkbkdlaknmgjpaaGreat

/- Contract of the specification's l7Kept. (Its cases are written by mkkept.py.) -/
namespace Go.Proofs.YtkbkdlaknmgjpaaGreat
open Go.ChangeShapes Go.WideShapes Go.ChangeAt Go.RowKit

set_option maxRecDepth 100000 in
set_option maxHeartbeats 8000000 in
theorem l7Kept_any (w : World) (vd v : Value) (dss : List (List Dd)) (es : List Ev) (hd : RdW w vd dss) (h : RdE w v es) (h3 : 3 ≤ es.length) (hn : es.length ≤ 12) (hl : ∀ i, i < dss.length → (dss.getD i []).length ≤ 1048576)
    (hin : ∀ j, 3 ≤ j → j < es.length → ∃ i k : Nat, (es.getD j zE).1 = (i : Int) ∧ (es.getD j zE).2.1 = (k : Int) ∧ i < dss.length ∧ k < (dss.getD i []).length) :
    Calls Tryz.prog 103 #[vd, v] w fun e w' => ∃ v', e = .returned v' ∧ Row w' w.heap.size v' (kepL dss es) ∧ Keep w w' := by
  have HB := (beh_line hn).1
  have r := h
  obtain ⟨a, c, rfl, h⟩ := h
  go_enter Tryz.func103, Tryz.ntmps103
  go_wp2_with fail
  refine (l7Behind_any _ _ _ r hn).mono ?_
  rintro e w1 ⟨v1, rfl, o1, k1⟩
  clear r
  obtain ⟨G, cap, rfl, hG, hR⟩ : ∃ g cap, v1 = .slice (some ⟨g, 0, none⟩) es.length cap ∧ w.heap.size ≤ g ∧ RowAt w1 g (behL es) := by
    rcases o1 with ⟨_, e⟩ | ⟨g, cap, e, hg, hr⟩
    · have h0 : es.length = 0 := by rw [← HB.2.1, e]; rfl
      omega
    · exact ⟨g, cap, by rw [e, HB.2.1], hg, hr⟩
  clear o1
  have HW0 := Lib.hid HB
  clear HB
  go_wp2
  go_loopw [6] (fun i wr => ∃ k : Nat, 3 ≤ k ∧ k ≤ es.length ∧ i = .int .i64 k ∧ RowAt wr G (offAll (kepP dss es) es.length (behL es) k) ∧ Keep w wr) (fun i _ => es.length - (intOf i).toNat)
  case atStart => exact ⟨3, Nat.le_refl _, h3, rfl, by rw [kep_three 3 (Nat.le_refl _)]; exact hR, k1⟩
  case round =>
    obtain ⟨k, hk3, hk, rfl, hr, hK⟩ := hrel
    clear hR k1
    by_cases hlt : k < es.length
    · rcases h with h | ⟨b, off, rfl, hb, hc⟩
      · exfalso; rw [h] at hlt; simp at hlt
      have AT := hc k _ (evs_get hlt)
      have HW := Lib.hid (web_offAll (p := kepP dss es) HW0.out k (by omega)).1
      have HE : Hid (offIn (kepP dss es) k (offAll (kepP dss es) es.length (behL es) k) es.length = offAll (kepP dss es) es.length (behL es) (k + 1)) := Lib.hid rfl
      have HHas := fun m hm => kep_has (dss := dss) hn (k := k) (m := m) hlt hm
      generalize offAll (kepP dss es) es.length (behL es) k = T at *
      obtain ⟨wo, rfl⟩ : ∃ wo : World, wo = wr := ⟨_, rfl⟩
      have i1 : (0 : Int) ≤ (k : Int) := Int.natCast_nonneg _
      have i2 : (k : Int) < (es.length : Int) := by omega
      have HST : Hid (offIn (kepP dss es) k T (k + 1) = T) := Lib.hid (offIn_none T _ (fun j hj => kepP_up (by omega)))
      go_wp2
      go_loopw [7] (fun i wr => ∃ m : Nat, k + 1 ≤ m ∧ m ≤ es.length ∧ i = .int .i64 m ∧ RowAt wr G (offIn (kepP dss es) k T m) ∧ Keep w wr) (fun i _ => es.length - (intOf i).toNat)
      case atStart => exact ⟨k + 1, Nat.le_refl _, by omega, by go_num, by rw [HST.out]; exact hr, hK⟩
      case round =>
        clear hr hK HST
        obtain ⟨m, hkm, hm, rfl, hr, hK⟩ := hrel
        by_cases hml : m < es.length
        · have AK := AT.keep hb hK
          have AM := (hc m _ (evs_get hml)).keep hb hK
          have hbw : b < wr.heap.size := Nat.lt_of_lt_of_le hb hK.size
          have hB := (web_offIn (p := kepP dss es) hlt HW.out m hm).1
          have hBl : k < (offIn (kepP dss es) k T m).length := by rw [hB.2.1]; exact hlt
          have hbt : bitB ((offIn (kepP dss es) k T m).getD k 0) m = behP es k m := by
            rw [← inSetB_bit (okB_range (hB.2.2 k hlt)) (by omega)]; exact HHas m hml
          obtain ⟨ci, di, E0, E1, cI, dI⟩ := hin k hk3 hlt
          obtain ⟨ck, dk, F0, F1, cK, dK⟩ := hin m (by omega) hml
          have hcl : behP es k m = true → ci = ck := fun hp => by
            unfold behP at hp
            rw [E0, F0] at hp
            simp at hp
            omega
          clear hB AT hc HHas hin
          have HP : Hid (kepP dss es k m = (decide (3 ≤ k) && behP es k m && kepQ dss (es.getD k zE) (es.getD m zE))) := Lib.hid rfl
          obtain ⟨e, he⟩ : ∃ e, e = es.getD k zE := ⟨_, rfl⟩
          rw [← he] at AK HP E0 E1
          obtain ⟨d, hd2⟩ : ∃ d, d = es.getD m zE := ⟨_, rfl⟩
          rw [← hd2] at AM HP F0 F1
          obtain ⟨x0, x1, x2, x3, x4, x5⟩ := e
          obtain ⟨y0, y1, y2, y3, y4, y5⟩ := d
          simp only at E0 E1 F0 F1
          subst E0 E1 F0 F1
          have HP2 := Lib.hid (And.intro he hd2)
          clear he hd2
          obtain ⟨A0, A1, A2, A3, A4, A5⟩ := atE AK
          obtain ⟨B0, B1, B2, B3, B4, B5⟩ := atE AM
          clear AK AM
          have j1 : (0 : Int) ≤ (m : Int) := Int.natCast_nonneg _
          have j2 : (m : Int) < (es.length : Int) := by omega
          have j3 : (es.length : Int) ≤ 12 := by omega
          have HH : kepP dss es k m = true → Hid (offIn (kepP dss es) k T (m + 1) = (offIn (kepP dss es) k T m).set k (bits .andNot .i64 ((offIn (kepP dss es) k T m).getD k 0) (wrap64 (2 ^ (m : Int).toNat)))) := fun hp => Lib.hid (offIn_hit T hp)
          have HM : kepP dss es k m = false → Hid (offIn (kepP dss es) k T (m + 1) = offIn (kepP dss es) k T m) := fun hp => Lib.hid (offIn_miss T hp)
          have d1 := hr.cell (j := k) hBl
          have d2 := hr.free k
          have hGl := hr.lt
          obtain ⟨S, hS⟩ : ∃ S, S = offIn (kepP dss es) k T m := ⟨_, rfl⟩
          rw [← hS] at d1 hr HH HM hbt hBl
          clear hS
          obtain ⟨x, hx⟩ : ∃ x, x = S.getD k 0 := ⟨_, rfl⟩
          rw [← hx] at d1 HH hbt
          have HX := Lib.hid hx
          clear hx
          cases hbp : behP es k m
          · have HE1 := HM (by rw [kepP, hbp]; simp)
            rw [hbp] at hbt
            clear HH HM HP HP2 d2 hcl
            go_wp2
            go_quiet ((go_at_call 117; exact Calls.quiet_of_same (l1Has_any _ _ _ (by omega) (by omega))))
            go_wp2
            go_roundw
            case rel => exact ⟨m + 1, by omega, by omega, by go_num, by rw [HE1.out]; exact hr.drewN _, hK.grown (grown_draw wr _ none) (by simp)⟩
            case measure => simp [intOf]; omega
          rw [hbp] at hbt
          cases x2
          rotate_left
          · have HE1 := HM (by rw [HP.out, kepQ]; simp [rdE])
            clear HH HM HP HP2 d2 hcl
            go_wp2
            go_quiet ((go_at_call 117; exact Calls.quiet_of_same (l1Has_any _ _ _ (by omega) (by omega))))
            go_wp2
            go_roundw
            case rel => exact ⟨m + 1, by omega, by omega, by go_num, by rw [HE1.out]; exact hr.drewN _, hK.grown (grown_draw wr _ none) (by simp)⟩
            case measure => simp [intOf]; omega
          cases y2
          · have HE1 := HM (by rw [HP.out, kepQ]; simp [rdE])
            clear HH HM HP HP2 d2 hcl
            go_wp2
            go_quiet ((go_at_call 117; exact Calls.quiet_of_same (l1Has_any _ _ _ (by omega) (by omega))))
            go_wp2
            go_roundw
            case rel => exact ⟨m + 1, by omega, by omega, by go_num, by rw [HE1.out]; exact hr.drewN _, hK.grown (grown_draw wr _ none) (by simp)⟩
            case measure => simp [intOf]; omega
          by_cases cc : x5 = y5
          · subst cc
            have HE1 := HM (by rw [HP.out, kepQ]; simp [csE])
            clear HH HM HP HP2 d2 hcl
            go_wp2
            go_quiet ((go_at_call 117; exact Calls.quiet_of_same (l1Has_any _ _ _ (by omega) (by omega))))
            go_wp2
            go_roundw
            case rel => exact ⟨m + 1, by omega, by omega, by go_num, by rw [HE1.out]; exact hr.drewN _, hK.grown (grown_draw wr _ none) (by simp)⟩
            case measure => simp [intOf]; omega
          have cb : (x5 == y5) = false := by simp [cc]
          have xy := hcl hbp
          subst xy
          have HQ : Hid (kepP dss es k m = (!waitsD (dss.getD ci []) di dk && !wholeD ((dss.getD ci []).getD di zD) && !wholeD ((dss.getD ci []).getD dk zD))) := Lib.hid (by
            rw [kepP, hbp, ← HP2.out.1, ← HP2.out.2, kepQ]
            have h3' : decide (3 ≤ k) = true := decide_eq_true hk3
            have cn : (x5 != y5) = true := by simp [cc]
            show (decide (3 ≤ k) && true && (!false && true && (x5 != y5) && (!waitsD (dss.getD ci []) di dk && !wholeD ((dss.getD ci []).getD di zD) && !wholeD ((dss.getD ci []).getD dk zD)))) = _
            rw [h3', cn]
            simp)
          clear HP2 cc hcl cK
          have KW := fun (wz : World) (kz : Keep wr wz) => l7Waits_any wz vd dss (hd.keep (hK.trans kz)) ci di dk false x3 x4 x5 ci true y3 y4 y5 cI dI dK (hl ci cI)
          have KI := fun (wz : World) (kz : Keep wr wz) => l7Whole_any wz vd dss (hd.keep (hK.trans kz)) ci di false x3 x4 x5 cI dI
          have KK2 := fun (wz : World) (kz : Keep wr wz) => l7Whole_any wz vd dss (hd.keep (hK.trans kz)) ci dk true y3 y4 y5 cI dK
          cases hw : waitsD (dss.getD ci []) di dk
          rotate_left
          · have HE1 := HM (by rw [HQ.out, hw]; simp)
            rw [hw] at KW
            clear HQ KI KK2
            clear HH HM HP d2
            go_wp2
            go_quiet ((go_at_call 117; exact Calls.quiet_of_same (l1Has_any _ _ _ (by omega) (by omega))))
            go_wp2
            have KR : Keep wr ((wr.drewN nq).drew) := ((Keep.refl wr).grown (grown_draw wr nq none) (by simp)).drew
            have z1 : b < ((wr.drewN nq).drew).heap.size := hbw
            refine wp_region_held_drew (S := (fun w' => w'.cell? ⟨b, off + k * 6, none⟩ = some (.int .i64 ci) ∧ w'.cell? ⟨b, off + k * 6 + 1, none⟩ = some (.int .i64 di) ∧ w'.cell? ⟨b, off + k * 6 + 2, none⟩ = some (.bool false) ∧ w'.cell? ⟨b, off + k * 6 + 3, none⟩ = some (.int .i64 x3) ∧ w'.cell? ⟨b, off + k * 6 + 4, none⟩ = some (.int .i64 x4) ∧ w'.cell? ⟨b, off + k * 6 + 5, none⟩ = some (.int .i64 x5) ∧ w'.cell? ⟨b, off + m * 6, none⟩ = some (.int .i64 ci) ∧ w'.cell? ⟨b, off + m * 6 + 1, none⟩ = some (.int .i64 dk) ∧ w'.cell? ⟨b, off + m * 6 + 2, none⟩ = some (.bool true) ∧ w'.cell? ⟨b, off + m * 6 + 3, none⟩ = some (.int .i64 y3) ∧ w'.cell? ⟨b, off + m * 6 + 4, none⟩ = some (.int .i64 y4) ∧ w'.cell? ⟨b, off + m * 6 + 5, none⟩ = some (.int .i64 y5))) (by kernel_rfl) ?_ (fun hHeld => ?_)
            · go_keep
            refine takeH 0 59 (v := ?_) rfl rfl (by kernel_rfl) (by kernel_rfl) (by kernel_rfl) (fun _ _ _ h => h) (by rfl) ?_ (by assumption) ?_
            rotate_left
            · intro wx hSw
              try dsimp only at hSw
              go_simp
              with_reducible rfl
            simp only [Act.put, List.setIfInBounds_toArray, List.set_cons_zero, List.set_cons_succ]
            refine takeH 1 60 (v := ?_) rfl rfl (by kernel_rfl) (by kernel_rfl) (by kernel_rfl) (fun _ _ _ h => h) (by rfl) ?_ (by assumption) ?_
            rotate_left
            · intro wx hSw
              try dsimp only at hSw
              go_simp
              with_reducible rfl
            simp only [Act.put, List.setIfInBounds_toArray, List.set_cons_zero, List.set_cons_succ]
            refine takeH 2 61 (v := ?_) rfl rfl (by kernel_rfl) (by kernel_rfl) (by kernel_rfl) (fun _ _ _ h => h) (by rfl) ?_ (by assumption) ?_
            rotate_left
            · intro wx hSw
              try dsimp only at hSw
              go_simp
              with_reducible rfl
            simp only [Act.put, List.setIfInBounds_toArray, List.set_cons_zero, List.set_cons_succ]
            refine takeH 3 62 (v := ?_) rfl rfl (by kernel_rfl) (by kernel_rfl) (by kernel_rfl) (fun _ _ _ h => h) (by rfl) ?_ (by assumption) ?_
            rotate_left
            · intro wx hSw
              try dsimp only at hSw
              go_simp
              with_reducible rfl
            simp only [Act.put, List.setIfInBounds_toArray, List.set_cons_zero, List.set_cons_succ]
            refine takeH 4 63 (v := ?_) rfl rfl (by kernel_rfl) (by kernel_rfl) (by kernel_rfl) (fun _ _ _ h => h) (by rfl) ?_ (by assumption) ?_
            rotate_left
            · intro wx hSw
              try dsimp only at hSw
              go_simp
              with_reducible rfl
            simp only [Act.put, List.setIfInBounds_toArray, List.set_cons_zero, List.set_cons_succ]
            refine takeH 5 64 (v := ?_) rfl rfl (by kernel_rfl) (by kernel_rfl) (by kernel_rfl) (fun _ _ _ h => h) (by rfl) ?_ (by assumption) ?_
            rotate_left
            · intro wx hSw
              try dsimp only at hSw
              go_simp
              with_reducible rfl
            simp only [Act.put, List.setIfInBounds_toArray, List.set_cons_zero, List.set_cons_succ]
            refine takeH 6 65 (v := ?_) rfl rfl (by kernel_rfl) (by kernel_rfl) (by kernel_rfl) (fun _ _ _ h => h) (by rfl) ?_ (by assumption) ?_
            rotate_left
            · intro wx hSw
              try dsimp only at hSw
              go_simp
              with_reducible rfl
            simp only [Act.put, List.setIfInBounds_toArray, List.set_cons_zero, List.set_cons_succ]
            refine takeH 7 66 (v := ?_) rfl rfl (by kernel_rfl) (by kernel_rfl) (by kernel_rfl) (fun _ _ _ h => h) (by rfl) ?_ (by assumption) ?_
            rotate_left
            · intro wx hSw
              try dsimp only at hSw
              go_simp
              with_reducible rfl
            simp only [Act.put, List.setIfInBounds_toArray, List.set_cons_zero, List.set_cons_succ]
            refine takeH 8 67 (v := ?_) rfl rfl (by kernel_rfl) (by kernel_rfl) (by kernel_rfl) (fun _ _ _ h => h) (by rfl) ?_ (by assumption) ?_
            rotate_left
            · intro wx hSw
              try dsimp only at hSw
              go_simp
              with_reducible rfl
            simp only [Act.put, List.setIfInBounds_toArray, List.set_cons_zero, List.set_cons_succ]
            refine wpAnyH_ready (rs := [9]) (by kernel_rfl) (by simp) ?_
            refine AllReadyH.cons rfl (fun K hK => ?_) AllReadyH.nil
            go_simp
            refine (KW _ KR).mono ?_
            rintro e wz1 ⟨rfl, kk⟩
            have z0 := z1
            have KR := KR.trans kk
            have z1 := Nat.lt_of_lt_of_le z1 kk.size
            go_wp2_with fail
            refine hK.out _ _ ?_ (fun hHeld => ?_)
            · exact ⟨(kk.cell z0).trans hHeld.1, (kk.cell z0).trans hHeld.2.1, (kk.cell z0).trans hHeld.2.2.1, (kk.cell z0).trans hHeld.2.2.2.1, (kk.cell z0).trans hHeld.2.2.2.2.1, (kk.cell z0).trans hHeld.2.2.2.2.2.1, (kk.cell z0).trans hHeld.2.2.2.2.2.2.1, (kk.cell z0).trans hHeld.2.2.2.2.2.2.2.1, (kk.cell z0).trans hHeld.2.2.2.2.2.2.2.2.1, (kk.cell z0).trans hHeld.2.2.2.2.2.2.2.2.2.1, (kk.cell z0).trans hHeld.2.2.2.2.2.2.2.2.2.2.1, (kk.cell z0).trans hHeld.2.2.2.2.2.2.2.2.2.2.2⟩
            clear hK K
            refine takeH 10 69 (v := ?_) rfl rfl (by kernel_rfl) (by kernel_rfl) (by kernel_rfl) (fun _ _ _ h => h) (by rfl) ?_ (by assumption) ?_
            rotate_left
            · intro wx hSw
              try dsimp only at hSw
              go_simp
              with_reducible rfl
            simp only [Act.put, List.setIfInBounds_toArray, List.set_cons_zero, List.set_cons_succ]
            refine takeH 11 70 (v := ?_) rfl rfl (by kernel_rfl) (by kernel_rfl) (by kernel_rfl) (fun _ _ _ h => h) (by rfl) ?_ (by assumption) ?_
            rotate_left
            · intro wx hSw
              try dsimp only at hSw
              go_simp
              with_reducible rfl
            simp only [Act.put, List.setIfInBounds_toArray, List.set_cons_zero, List.set_cons_succ]
            refine skipH 12 71 rfl rfl (by kernel_rfl) (by kernel_rfl) (by kernel_rfl) (fun _ _ _ h => h) (by rfl) (by assumption) ?_
            simp only [Act.put, List.setIfInBounds_toArray, List.set_cons_zero, List.set_cons_succ]
            refine skipH 13 72 rfl rfl (by kernel_rfl) (by kernel_rfl) (by kernel_rfl) (fun _ _ _ h => h) (by rfl) (by assumption) ?_
            simp only [Act.put, List.setIfInBounds_toArray, List.set_cons_zero, List.set_cons_succ]
            refine skipH 14 73 rfl rfl (by kernel_rfl) (by kernel_rfl) (by kernel_rfl) (fun _ _ _ h => h) (by rfl) (by assumption) ?_
            simp only [Act.put, List.setIfInBounds_toArray, List.set_cons_zero, List.set_cons_succ]
            refine skipH 15 74 rfl rfl (by kernel_rfl) (by kernel_rfl) (by kernel_rfl) (fun _ _ _ h => h) (by rfl) (by assumption) ?_
            simp only [Act.put, List.setIfInBounds_toArray, List.set_cons_zero, List.set_cons_succ]
            refine skipH 16 75 rfl rfl (by kernel_rfl) (by kernel_rfl) (by kernel_rfl) (fun _ _ _ h => h) (by rfl) (by assumption) ?_
            simp only [Act.put, List.setIfInBounds_toArray, List.set_cons_zero, List.set_cons_succ]
            refine skipH 17 76 rfl rfl (by kernel_rfl) (by kernel_rfl) (by kernel_rfl) (fun _ _ _ h => h) (by rfl) (by assumption) ?_
            simp only [Act.put, List.setIfInBounds_toArray, List.set_cons_zero, List.set_cons_succ]
            refine skipH 18 77 rfl rfl (by kernel_rfl) (by kernel_rfl) (by kernel_rfl) (fun _ _ _ h => h) (by rfl) (by assumption) ?_
            simp only [Act.put, List.setIfInBounds_toArray, List.set_cons_zero, List.set_cons_succ]
            refine takeH 19 78 (v := ?_) rfl rfl (by kernel_rfl) (by kernel_rfl) (by kernel_rfl) (fun _ _ _ h => h) (by rfl) ?_ (by assumption) ?_
            rotate_left
            · intro wx hSw
              try dsimp only at hSw
              go_simp
              with_reducible rfl
            simp only [Act.put, List.setIfInBounds_toArray, List.set_cons_zero, List.set_cons_succ]
            refine takeH 20 79 (v := ?_) rfl rfl (by kernel_rfl) (by kernel_rfl) (by kernel_rfl) (fun _ _ _ h => h) (by rfl) ?_ (by assumption) ?_
            rotate_left
            · intro wx hSw
              try dsimp only at hSw
              go_simp
              with_reducible rfl
            simp only [Act.put, List.setIfInBounds_toArray, List.set_cons_zero, List.set_cons_succ]
            refine skipH 21 80 rfl rfl (by kernel_rfl) (by kernel_rfl) (by kernel_rfl) (fun _ _ _ h => h) (by rfl) (by assumption) ?_
            simp only [Act.put, List.setIfInBounds_toArray, List.set_cons_zero, List.set_cons_succ]
            refine skipH 22 81 rfl rfl (by kernel_rfl) (by kernel_rfl) (by kernel_rfl) (fun _ _ _ h => h) (by rfl) (by assumption) ?_
            simp only [Act.put, List.setIfInBounds_toArray, List.set_cons_zero, List.set_cons_succ]
            refine skipH 23 82 rfl rfl (by kernel_rfl) (by kernel_rfl) (by kernel_rfl) (fun _ _ _ h => h) (by rfl) (by assumption) ?_
            simp only [Act.put, List.setIfInBounds_toArray, List.set_cons_zero, List.set_cons_succ]
            refine skipH 24 83 rfl rfl (by kernel_rfl) (by kernel_rfl) (by kernel_rfl) (fun _ _ _ h => h) (by rfl) (by assumption) ?_
            simp only [Act.put, List.setIfInBounds_toArray, List.set_cons_zero, List.set_cons_succ]
            refine skipH 25 84 rfl rfl (by kernel_rfl) (by kernel_rfl) (by kernel_rfl) (fun _ _ _ h => h) (by rfl) (by assumption) ?_
            simp only [Act.put, List.setIfInBounds_toArray, List.set_cons_zero, List.set_cons_succ]
            refine skipH 26 85 rfl rfl (by kernel_rfl) (by kernel_rfl) (by kernel_rfl) (fun _ _ _ h => h) (by rfl) (by assumption) ?_
            simp only [Act.put, List.setIfInBounds_toArray, List.set_cons_zero, List.set_cons_succ]
            refine skipH 27 86 rfl rfl (by kernel_rfl) (by kernel_rfl) (by kernel_rfl) (fun _ _ _ h => h) (by rfl) (by assumption) ?_
            simp only [Act.put, List.setIfInBounds_toArray, List.set_cons_zero, List.set_cons_succ]
            refine takeH 28 87 (v := ?_) rfl rfl (by kernel_rfl) (by kernel_rfl) (by kernel_rfl) (fun _ _ _ h => h) (by rfl) ?_ (by assumption) ?_
            rotate_left
            · intro wx hSw
              try dsimp only at hSw
              go_simp
              with_reducible rfl
            simp only [Act.put, List.setIfInBounds_toArray, List.set_cons_zero, List.set_cons_succ]
            refine wpAnyH_done (by kernel_rfl) ?_ _
            clear d1 hHeld
            have hr := hr.keep KR
            go_wp2
            go_roundw
            case rel => exact ⟨m + 1, by omega, by omega, by go_num, by rw [HE1.out]; exact hr, hK.trans KR⟩
            case measure => simp [intOf]; omega
          cases hi1 : wholeD ((dss.getD ci []).getD di zD)
          rotate_left
          · have HE1 := HM (by rw [HQ.out, hw, hi1]; simp)
            rw [hw] at KW
            rw [hi1] at KI
            clear HQ KK2
            clear HH HM HP d2
            go_wp2
            go_quiet ((go_at_call 117; exact Calls.quiet_of_same (l1Has_any _ _ _ (by omega) (by omega))))
            go_wp2
            have KR : Keep wr ((wr.drewN nq).drew) := ((Keep.refl wr).grown (grown_draw wr nq none) (by simp)).drew
            have z1 : b < ((wr.drewN nq).drew).heap.size := hbw
            refine wp_region_held_drew (S := (fun w' => w'.cell? ⟨b, off + k * 6, none⟩ = some (.int .i64 ci) ∧ w'.cell? ⟨b, off + k * 6 + 1, none⟩ = some (.int .i64 di) ∧ w'.cell? ⟨b, off + k * 6 + 2, none⟩ = some (.bool false) ∧ w'.cell? ⟨b, off + k * 6 + 3, none⟩ = some (.int .i64 x3) ∧ w'.cell? ⟨b, off + k * 6 + 4, none⟩ = some (.int .i64 x4) ∧ w'.cell? ⟨b, off + k * 6 + 5, none⟩ = some (.int .i64 x5) ∧ w'.cell? ⟨b, off + m * 6, none⟩ = some (.int .i64 ci) ∧ w'.cell? ⟨b, off + m * 6 + 1, none⟩ = some (.int .i64 dk) ∧ w'.cell? ⟨b, off + m * 6 + 2, none⟩ = some (.bool true) ∧ w'.cell? ⟨b, off + m * 6 + 3, none⟩ = some (.int .i64 y3) ∧ w'.cell? ⟨b, off + m * 6 + 4, none⟩ = some (.int .i64 y4) ∧ w'.cell? ⟨b, off + m * 6 + 5, none⟩ = some (.int .i64 y5))) (by kernel_rfl) ?_ (fun hHeld => ?_)
            · go_keep
            refine takeH 0 59 (v := ?_) rfl rfl (by kernel_rfl) (by kernel_rfl) (by kernel_rfl) (fun _ _ _ h => h) (by rfl) ?_ (by assumption) ?_
            rotate_left
            · intro wx hSw
              try dsimp only at hSw
              go_simp
              with_reducible rfl
            simp only [Act.put, List.setIfInBounds_toArray, List.set_cons_zero, List.set_cons_succ]
            refine takeH 1 60 (v := ?_) rfl rfl (by kernel_rfl) (by kernel_rfl) (by kernel_rfl) (fun _ _ _ h => h) (by rfl) ?_ (by assumption) ?_
            rotate_left
            · intro wx hSw
              try dsimp only at hSw
              go_simp
              with_reducible rfl
            simp only [Act.put, List.setIfInBounds_toArray, List.set_cons_zero, List.set_cons_succ]
            refine takeH 2 61 (v := ?_) rfl rfl (by kernel_rfl) (by kernel_rfl) (by kernel_rfl) (fun _ _ _ h => h) (by rfl) ?_ (by assumption) ?_
            rotate_left
            · intro wx hSw
              try dsimp only at hSw
              go_simp
              with_reducible rfl
            simp only [Act.put, List.setIfInBounds_toArray, List.set_cons_zero, List.set_cons_succ]
            refine takeH 3 62 (v := ?_) rfl rfl (by kernel_rfl) (by kernel_rfl) (by kernel_rfl) (fun _ _ _ h => h) (by rfl) ?_ (by assumption) ?_
            rotate_left
            · intro wx hSw
              try dsimp only at hSw
              go_simp
              with_reducible rfl
            simp only [Act.put, List.setIfInBounds_toArray, List.set_cons_zero, List.set_cons_succ]
            refine takeH 4 63 (v := ?_) rfl rfl (by kernel_rfl) (by kernel_rfl) (by kernel_rfl) (fun _ _ _ h => h) (by rfl) ?_ (by assumption) ?_
            rotate_left
            · intro wx hSw
              try dsimp only at hSw
              go_simp
              with_reducible rfl
            simp only [Act.put, List.setIfInBounds_toArray, List.set_cons_zero, List.set_cons_succ]
            refine takeH 5 64 (v := ?_) rfl rfl (by kernel_rfl) (by kernel_rfl) (by kernel_rfl) (fun _ _ _ h => h) (by rfl) ?_ (by assumption) ?_
            rotate_left
            · intro wx hSw
              try dsimp only at hSw
              go_simp
              with_reducible rfl
            simp only [Act.put, List.setIfInBounds_toArray, List.set_cons_zero, List.set_cons_succ]
            refine takeH 6 65 (v := ?_) rfl rfl (by kernel_rfl) (by kernel_rfl) (by kernel_rfl) (fun _ _ _ h => h) (by rfl) ?_ (by assumption) ?_
            rotate_left
            · intro wx hSw
              try dsimp only at hSw
              go_simp
              with_reducible rfl
            simp only [Act.put, List.setIfInBounds_toArray, List.set_cons_zero, List.set_cons_succ]
            refine takeH 7 66 (v := ?_) rfl rfl (by kernel_rfl) (by kernel_rfl) (by kernel_rfl) (fun _ _ _ h => h) (by rfl) ?_ (by assumption) ?_
            rotate_left
            · intro wx hSw
              try dsimp only at hSw
              go_simp
              with_reducible rfl
            simp only [Act.put, List.setIfInBounds_toArray, List.set_cons_zero, List.set_cons_succ]
            refine takeH 8 67 (v := ?_) rfl rfl (by kernel_rfl) (by kernel_rfl) (by kernel_rfl) (fun _ _ _ h => h) (by rfl) ?_ (by assumption) ?_
            rotate_left
            · intro wx hSw
              try dsimp only at hSw
              go_simp
              with_reducible rfl
            simp only [Act.put, List.setIfInBounds_toArray, List.set_cons_zero, List.set_cons_succ]
            refine wpAnyH_ready (rs := [9]) (by kernel_rfl) (by simp) ?_
            refine AllReadyH.cons rfl (fun K hK => ?_) AllReadyH.nil
            go_simp
            refine (KW _ KR).mono ?_
            rintro e wz1 ⟨rfl, kk⟩
            have z0 := z1
            have KR := KR.trans kk
            have z1 := Nat.lt_of_lt_of_le z1 kk.size
            go_wp2_with fail
            refine hK.out _ _ ?_ (fun hHeld => ?_)
            · exact ⟨(kk.cell z0).trans hHeld.1, (kk.cell z0).trans hHeld.2.1, (kk.cell z0).trans hHeld.2.2.1, (kk.cell z0).trans hHeld.2.2.2.1, (kk.cell z0).trans hHeld.2.2.2.2.1, (kk.cell z0).trans hHeld.2.2.2.2.2.1, (kk.cell z0).trans hHeld.2.2.2.2.2.2.1, (kk.cell z0).trans hHeld.2.2.2.2.2.2.2.1, (kk.cell z0).trans hHeld.2.2.2.2.2.2.2.2.1, (kk.cell z0).trans hHeld.2.2.2.2.2.2.2.2.2.1, (kk.cell z0).trans hHeld.2.2.2.2.2.2.2.2.2.2.1, (kk.cell z0).trans hHeld.2.2.2.2.2.2.2.2.2.2.2⟩
            clear hK K
            refine takeH 10 69 (v := ?_) rfl rfl (by kernel_rfl) (by kernel_rfl) (by kernel_rfl) (fun _ _ _ h => h) (by rfl) ?_ (by assumption) ?_
            rotate_left
            · intro wx hSw
              try dsimp only at hSw
              go_simp
              with_reducible rfl
            simp only [Act.put, List.setIfInBounds_toArray, List.set_cons_zero, List.set_cons_succ]
            refine takeH 11 70 (v := ?_) rfl rfl (by kernel_rfl) (by kernel_rfl) (by kernel_rfl) (fun _ _ _ h => h) (by rfl) ?_ (by assumption) ?_
            rotate_left
            · intro wx hSw
              try dsimp only at hSw
              go_simp
              with_reducible rfl
            simp only [Act.put, List.setIfInBounds_toArray, List.set_cons_zero, List.set_cons_succ]
            refine takeH 12 71 (v := ?_) rfl rfl (by kernel_rfl) (by kernel_rfl) (by kernel_rfl) (fun _ _ _ h => h) (by rfl) ?_ (by assumption) ?_
            rotate_left
            · intro wx hSw
              try dsimp only at hSw
              go_simp
              with_reducible rfl
            simp only [Act.put, List.setIfInBounds_toArray, List.set_cons_zero, List.set_cons_succ]
            refine takeH 13 72 (v := ?_) rfl rfl (by kernel_rfl) (by kernel_rfl) (by kernel_rfl) (fun _ _ _ h => h) (by rfl) ?_ (by assumption) ?_
            rotate_left
            · intro wx hSw
              try dsimp only at hSw
              go_simp
              with_reducible rfl
            simp only [Act.put, List.setIfInBounds_toArray, List.set_cons_zero, List.set_cons_succ]
            refine takeH 14 73 (v := ?_) rfl rfl (by kernel_rfl) (by kernel_rfl) (by kernel_rfl) (fun _ _ _ h => h) (by rfl) ?_ (by assumption) ?_
            rotate_left
            · intro wx hSw
              try dsimp only at hSw
              go_simp
              with_reducible rfl
            simp only [Act.put, List.setIfInBounds_toArray, List.set_cons_zero, List.set_cons_succ]
            refine takeH 15 74 (v := ?_) rfl rfl (by kernel_rfl) (by kernel_rfl) (by kernel_rfl) (fun _ _ _ h => h) (by rfl) ?_ (by assumption) ?_
            rotate_left
            · intro wx hSw
              try dsimp only at hSw
              go_simp
              with_reducible rfl
            simp only [Act.put, List.setIfInBounds_toArray, List.set_cons_zero, List.set_cons_succ]
            refine takeH 16 75 (v := ?_) rfl rfl (by kernel_rfl) (by kernel_rfl) (by kernel_rfl) (fun _ _ _ h => h) (by rfl) ?_ (by assumption) ?_
            rotate_left
            · intro wx hSw
              try dsimp only at hSw
              go_simp
              with_reducible rfl
            simp only [Act.put, List.setIfInBounds_toArray, List.set_cons_zero, List.set_cons_succ]
            refine wpAnyH_ready (rs := [17]) (by kernel_rfl) (by simp) ?_
            refine AllReadyH.cons rfl (fun K hK => ?_) AllReadyH.nil
            go_simp
            refine (KI _ KR).mono ?_
            rintro e wz2 ⟨rfl, kk⟩
            have z0 := z1
            have KR := KR.trans kk
            have z1 := Nat.lt_of_lt_of_le z1 kk.size
            go_wp2_with fail
            refine hK.out _ _ ?_ (fun hHeld => ?_)
            · exact ⟨(kk.cell z0).trans hHeld.1, (kk.cell z0).trans hHeld.2.1, (kk.cell z0).trans hHeld.2.2.1, (kk.cell z0).trans hHeld.2.2.2.1, (kk.cell z0).trans hHeld.2.2.2.2.1, (kk.cell z0).trans hHeld.2.2.2.2.2.1, (kk.cell z0).trans hHeld.2.2.2.2.2.2.1, (kk.cell z0).trans hHeld.2.2.2.2.2.2.2.1, (kk.cell z0).trans hHeld.2.2.2.2.2.2.2.2.1, (kk.cell z0).trans hHeld.2.2.2.2.2.2.2.2.2.1, (kk.cell z0).trans hHeld.2.2.2.2.2.2.2.2.2.2.1, (kk.cell z0).trans hHeld.2.2.2.2.2.2.2.2.2.2.2⟩
            clear hK K
            refine takeH 18 77 (v := ?_) rfl rfl (by kernel_rfl) (by kernel_rfl) (by kernel_rfl) (fun _ _ _ h => h) (by rfl) ?_ (by assumption) ?_
            rotate_left
            · intro wx hSw
              try dsimp only at hSw
              go_simp
              with_reducible rfl
            simp only [Act.put, List.setIfInBounds_toArray, List.set_cons_zero, List.set_cons_succ]
            refine takeH 19 78 (v := ?_) rfl rfl (by kernel_rfl) (by kernel_rfl) (by kernel_rfl) (fun _ _ _ h => h) (by rfl) ?_ (by assumption) ?_
            rotate_left
            · intro wx hSw
              try dsimp only at hSw
              go_simp
              with_reducible rfl
            simp only [Act.put, List.setIfInBounds_toArray, List.set_cons_zero, List.set_cons_succ]
            refine takeH 20 79 (v := ?_) rfl rfl (by kernel_rfl) (by kernel_rfl) (by kernel_rfl) (fun _ _ _ h => h) (by rfl) ?_ (by assumption) ?_
            rotate_left
            · intro wx hSw
              try dsimp only at hSw
              go_simp
              with_reducible rfl
            simp only [Act.put, List.setIfInBounds_toArray, List.set_cons_zero, List.set_cons_succ]
            refine skipH 21 80 rfl rfl (by kernel_rfl) (by kernel_rfl) (by kernel_rfl) (fun _ _ _ h => h) (by rfl) (by assumption) ?_
            simp only [Act.put, List.setIfInBounds_toArray, List.set_cons_zero, List.set_cons_succ]
            refine skipH 22 81 rfl rfl (by kernel_rfl) (by kernel_rfl) (by kernel_rfl) (fun _ _ _ h => h) (by rfl) (by assumption) ?_
            simp only [Act.put, List.setIfInBounds_toArray, List.set_cons_zero, List.set_cons_succ]
            refine skipH 23 82 rfl rfl (by kernel_rfl) (by kernel_rfl) (by kernel_rfl) (fun _ _ _ h => h) (by rfl) (by assumption) ?_
            simp only [Act.put, List.setIfInBounds_toArray, List.set_cons_zero, List.set_cons_succ]
            refine skipH 24 83 rfl rfl (by kernel_rfl) (by kernel_rfl) (by kernel_rfl) (fun _ _ _ h => h) (by rfl) (by assumption) ?_
            simp only [Act.put, List.setIfInBounds_toArray, List.set_cons_zero, List.set_cons_succ]
            refine skipH 25 84 rfl rfl (by kernel_rfl) (by kernel_rfl) (by kernel_rfl) (fun _ _ _ h => h) (by rfl) (by assumption) ?_
            simp only [Act.put, List.setIfInBounds_toArray, List.set_cons_zero, List.set_cons_succ]
            refine skipH 26 85 rfl rfl (by kernel_rfl) (by kernel_rfl) (by kernel_rfl) (fun _ _ _ h => h) (by rfl) (by assumption) ?_
            simp only [Act.put, List.setIfInBounds_toArray, List.set_cons_zero, List.set_cons_succ]
            refine skipH 27 86 rfl rfl (by kernel_rfl) (by kernel_rfl) (by kernel_rfl) (fun _ _ _ h => h) (by rfl) (by assumption) ?_
            simp only [Act.put, List.setIfInBounds_toArray, List.set_cons_zero, List.set_cons_succ]
            refine takeH 28 87 (v := ?_) rfl rfl (by kernel_rfl) (by kernel_rfl) (by kernel_rfl) (fun _ _ _ h => h) (by rfl) ?_ (by assumption) ?_
            rotate_left
            · intro wx hSw
              try dsimp only at hSw
              go_simp
              with_reducible rfl
            simp only [Act.put, List.setIfInBounds_toArray, List.set_cons_zero, List.set_cons_succ]
            refine wpAnyH_done (by kernel_rfl) ?_ _
            clear d1 hHeld
            have hr := hr.keep KR
            go_wp2
            go_roundw
            case rel => exact ⟨m + 1, by omega, by omega, by go_num, by rw [HE1.out]; exact hr, hK.trans KR⟩
            case measure => simp [intOf]; omega
          cases hk1 : wholeD ((dss.getD ci []).getD dk zD)
          rotate_left
          · have HE1 := HM (by rw [HQ.out, hw, hi1, hk1]; simp)
            rw [hw] at KW
            rw [hi1] at KI
            rw [hk1] at KK2
            clear HQ
            clear HH HM HP d2
            go_wp2
            go_quiet ((go_at_call 117; exact Calls.quiet_of_same (l1Has_any _ _ _ (by omega) (by omega))))
            go_wp2
            have KR : Keep wr ((wr.drewN nq).drew) := ((Keep.refl wr).grown (grown_draw wr nq none) (by simp)).drew
            have z1 : b < ((wr.drewN nq).drew).heap.size := hbw
            refine wp_region_held_drew (S := (fun w' => w'.cell? ⟨b, off + k * 6, none⟩ = some (.int .i64 ci) ∧ w'.cell? ⟨b, off + k * 6 + 1, none⟩ = some (.int .i64 di) ∧ w'.cell? ⟨b, off + k * 6 + 2, none⟩ = some (.bool false) ∧ w'.cell? ⟨b, off + k * 6 + 3, none⟩ = some (.int .i64 x3) ∧ w'.cell? ⟨b, off + k * 6 + 4, none⟩ = some (.int .i64 x4) ∧ w'.cell? ⟨b, off + k * 6 + 5, none⟩ = some (.int .i64 x5) ∧ w'.cell? ⟨b, off + m * 6, none⟩ = some (.int .i64 ci) ∧ w'.cell? ⟨b, off + m * 6 + 1, none⟩ = some (.int .i64 dk) ∧ w'.cell? ⟨b, off + m * 6 + 2, none⟩ = some (.bool true) ∧ w'.cell? ⟨b, off + m * 6 + 3, none⟩ = some (.int .i64 y3) ∧ w'.cell? ⟨b, off + m * 6 + 4, none⟩ = some (.int .i64 y4) ∧ w'.cell? ⟨b, off + m * 6 + 5, none⟩ = some (.int .i64 y5))) (by kernel_rfl) ?_ (fun hHeld => ?_)
            · go_keep
            refine takeH 0 59 (v := ?_) rfl rfl (by kernel_rfl) (by kernel_rfl) (by kernel_rfl) (fun _ _ _ h => h) (by rfl) ?_ (by assumption) ?_
            rotate_left
            · intro wx hSw
              try dsimp only at hSw
              go_simp
              with_reducible rfl
            simp only [Act.put, List.setIfInBounds_toArray, List.set_cons_zero, List.set_cons_succ]
            refine takeH 1 60 (v := ?_) rfl rfl (by kernel_rfl) (by kernel_rfl) (by kernel_rfl) (fun _ _ _ h => h) (by rfl) ?_ (by assumption) ?_
            rotate_left
            · intro wx hSw
              try dsimp only at hSw
              go_simp
              with_reducible rfl
            simp only [Act.put, List.setIfInBounds_toArray, List.set_cons_zero, List.set_cons_succ]
            refine takeH 2 61 (v := ?_) rfl rfl (by kernel_rfl) (by kernel_rfl) (by kernel_rfl) (fun _ _ _ h => h) (by rfl) ?_ (by assumption) ?_
            rotate_left
            · intro wx hSw
              try dsimp only at hSw
              go_simp
              with_reducible rfl
            simp only [Act.put, List.setIfInBounds_toArray, List.set_cons_zero, List.set_cons_succ]
            refine takeH 3 62 (v := ?_) rfl rfl (by kernel_rfl) (by kernel_rfl) (by kernel_rfl) (fun _ _ _ h => h) (by rfl) ?_ (by assumption) ?_
            rotate_left
            · intro wx hSw
              try dsimp only at hSw
              go_simp
              with_reducible rfl
            simp only [Act.put, List.setIfInBounds_toArray, List.set_cons_zero, List.set_cons_succ]
            refine takeH 4 63 (v := ?_) rfl rfl (by kernel_rfl) (by kernel_rfl) (by kernel_rfl) (fun _ _ _ h => h) (by rfl) ?_ (by assumption) ?_
            rotate_left
            · intro wx hSw
              try dsimp only at hSw
              go_simp
              with_reducible rfl
            simp only [Act.put, List.setIfInBounds_toArray, List.set_cons_zero, List.set_cons_succ]
            refine takeH 5 64 (v := ?_) rfl rfl (by kernel_rfl) (by kernel_rfl) (by kernel_rfl) (fun _ _ _ h => h) (by rfl) ?_ (by assumption) ?_
            rotate_left
            · intro wx hSw
              try dsimp only at hSw
              go_simp
              with_reducible rfl
            simp only [Act.put, List.setIfInBounds_toArray, List.set_cons_zero, List.set_cons_succ]
            refine takeH 6 65 (v := ?_) rfl rfl (by kernel_rfl) (by kernel_rfl) (by kernel_rfl) (fun _ _ _ h => h) (by rfl) ?_ (by assumption) ?_
            rotate_left
            · intro wx hSw
              try dsimp only at hSw
              go_simp
              with_reducible rfl
            simp only [Act.put, List.setIfInBounds_toArray, List.set_cons_zero, List.set_cons_succ]
            refine takeH 7 66 (v := ?_) rfl rfl (by kernel_rfl) (by kernel_rfl) (by kernel_rfl) (fun _ _ _ h => h) (by rfl) ?_ (by assumption) ?_
            rotate_left
            · intro wx hSw
              try dsimp only at hSw
              go_simp
              with_reducible rfl
            simp only [Act.put, List.setIfInBounds_toArray, List.set_cons_zero, List.set_cons_succ]
            refine takeH 8 67 (v := ?_) rfl rfl (by kernel_rfl) (by kernel_rfl) (by kernel_rfl) (fun _ _ _ h => h) (by rfl) ?_ (by assumption) ?_
            rotate_left
            · intro wx hSw
              try dsimp only at hSw
              go_simp
              with_reducible rfl
            simp only [Act.put, List.setIfInBounds_toArray, List.set_cons_zero, List.set_cons_succ]
            refine wpAnyH_ready (rs := [9]) (by kernel_rfl) (by simp) ?_
            refine AllReadyH.cons rfl (fun K hK => ?_) AllReadyH.nil
            go_simp
            refine (KW _ KR).mono ?_
            rintro e wz1 ⟨rfl, kk⟩
            have z0 := z1
            have KR := KR.trans kk
            have z1 := Nat.lt_of_lt_of_le z1 kk.size
            go_wp2_with fail
            refine hK.out _ _ ?_ (fun hHeld => ?_)
            · exact ⟨(kk.cell z0).trans hHeld.1, (kk.cell z0).trans hHeld.2.1, (kk.cell z0).trans hHeld.2.2.1, (kk.cell z0).trans hHeld.2.2.2.1, (kk.cell z0).trans hHeld.2.2.2.2.1, (kk.cell z0).trans hHeld.2.2.2.2.2.1, (kk.cell z0).trans hHeld.2.2.2.2.2.2.1, (kk.cell z0).trans hHeld.2.2.2.2.2.2.2.1, (kk.cell z0).trans hHeld.2.2.2.2.2.2.2.2.1, (kk.cell z0).trans hHeld.2.2.2.2.2.2.2.2.2.1, (kk.cell z0).trans hHeld.2.2.2.2.2.2.2.2.2.2.1, (kk.cell z0).trans hHeld.2.2.2.2.2.2.2.2.2.2.2⟩
            clear hK K
            refine takeH 10 69 (v := ?_) rfl rfl (by kernel_rfl) (by kernel_rfl) (by kernel_rfl) (fun _ _ _ h => h) (by rfl) ?_ (by assumption) ?_
            rotate_left
            · intro wx hSw
              try dsimp only at hSw
              go_simp
              with_reducible rfl
            simp only [Act.put, List.setIfInBounds_toArray, List.set_cons_zero, List.set_cons_succ]
            refine takeH 11 70 (v := ?_) rfl rfl (by kernel_rfl) (by kernel_rfl) (by kernel_rfl) (fun _ _ _ h => h) (by rfl) ?_ (by assumption) ?_
            rotate_left
            · intro wx hSw
              try dsimp only at hSw
              go_simp
              with_reducible rfl
            simp only [Act.put, List.setIfInBounds_toArray, List.set_cons_zero, List.set_cons_succ]
            refine takeH 12 71 (v := ?_) rfl rfl (by kernel_rfl) (by kernel_rfl) (by kernel_rfl) (fun _ _ _ h => h) (by rfl) ?_ (by assumption) ?_
            rotate_left
            · intro wx hSw
              try dsimp only at hSw
              go_simp
              with_reducible rfl
            simp only [Act.put, List.setIfInBounds_toArray, List.set_cons_zero, List.set_cons_succ]
            refine takeH 13 72 (v := ?_) rfl rfl (by kernel_rfl) (by kernel_rfl) (by kernel_rfl) (fun _ _ _ h => h) (by rfl) ?_ (by assumption) ?_
            rotate_left
            · intro wx hSw
              try dsimp only at hSw
              go_simp
              with_reducible rfl
            simp only [Act.put, List.setIfInBounds_toArray, List.set_cons_zero, List.set_cons_succ]
            refine takeH 14 73 (v := ?_) rfl rfl (by kernel_rfl) (by kernel_rfl) (by kernel_rfl) (fun _ _ _ h => h) (by rfl) ?_ (by assumption) ?_
            rotate_left
            · intro wx hSw
              try dsimp only at hSw
              go_simp
              with_reducible rfl
            simp only [Act.put, List.setIfInBounds_toArray, List.set_cons_zero, List.set_cons_succ]
            refine takeH 15 74 (v := ?_) rfl rfl (by kernel_rfl) (by kernel_rfl) (by kernel_rfl) (fun _ _ _ h => h) (by rfl) ?_ (by assumption) ?_
            rotate_left
            · intro wx hSw
              try dsimp only at hSw
              go_simp
              with_reducible rfl
            simp only [Act.put, List.setIfInBounds_toArray, List.set_cons_zero, List.set_cons_succ]
            refine takeH 16 75 (v := ?_) rfl rfl (by kernel_rfl) (by kernel_rfl) (by kernel_rfl) (fun _ _ _ h => h) (by rfl) ?_ (by assumption) ?_
            rotate_left
            · intro wx hSw
              try dsimp only at hSw
              go_simp
              with_reducible rfl
            simp only [Act.put, List.setIfInBounds_toArray, List.set_cons_zero, List.set_cons_succ]
            refine wpAnyH_ready (rs := [17]) (by kernel_rfl) (by simp) ?_
            refine AllReadyH.cons rfl (fun K hK => ?_) AllReadyH.nil
            go_simp
            refine (KI _ KR).mono ?_
            rintro e wz2 ⟨rfl, kk⟩
            have z0 := z1
            have KR := KR.trans kk
            have z1 := Nat.lt_of_lt_of_le z1 kk.size
            go_wp2_with fail
            refine hK.out _ _ ?_ (fun hHeld => ?_)
            · exact ⟨(kk.cell z0).trans hHeld.1, (kk.cell z0).trans hHeld.2.1, (kk.cell z0).trans hHeld.2.2.1, (kk.cell z0).trans hHeld.2.2.2.1, (kk.cell z0).trans hHeld.2.2.2.2.1, (kk.cell z0).trans hHeld.2.2.2.2.2.1, (kk.cell z0).trans hHeld.2.2.2.2.2.2.1, (kk.cell z0).trans hHeld.2.2.2.2.2.2.2.1, (kk.cell z0).trans hHeld.2.2.2.2.2.2.2.2.1, (kk.cell z0).trans hHeld.2.2.2.2.2.2.2.2.2.1, (kk.cell z0).trans hHeld.2.2.2.2.2.2.2.2.2.2.1, (kk.cell z0).trans hHeld.2.2.2.2.2.2.2.2.2.2.2⟩
            clear hK K
            refine takeH 18 77 (v := ?_) rfl rfl (by kernel_rfl) (by kernel_rfl) (by kernel_rfl) (fun _ _ _ h => h) (by rfl) ?_ (by assumption) ?_
            rotate_left
            · intro wx hSw
              try dsimp only at hSw
              go_simp
              with_reducible rfl
            simp only [Act.put, List.setIfInBounds_toArray, List.set_cons_zero, List.set_cons_succ]
            refine takeH 19 78 (v := ?_) rfl rfl (by kernel_rfl) (by kernel_rfl) (by kernel_rfl) (fun _ _ _ h => h) (by rfl) ?_ (by assumption) ?_
            rotate_left
            · intro wx hSw
              try dsimp only at hSw
              go_simp
              with_reducible rfl
            simp only [Act.put, List.setIfInBounds_toArray, List.set_cons_zero, List.set_cons_succ]
            refine takeH 20 79 (v := ?_) rfl rfl (by kernel_rfl) (by kernel_rfl) (by kernel_rfl) (fun _ _ _ h => h) (by rfl) ?_ (by assumption) ?_
            rotate_left
            · intro wx hSw
              try dsimp only at hSw
              go_simp
              with_reducible rfl
            simp only [Act.put, List.setIfInBounds_toArray, List.set_cons_zero, List.set_cons_succ]
            refine takeH 21 80 (v := ?_) rfl rfl (by kernel_rfl) (by kernel_rfl) (by kernel_rfl) (fun _ _ _ h => h) (by rfl) ?_ (by assumption) ?_
            rotate_left
            · intro wx hSw
              try dsimp only at hSw
              go_simp
              with_reducible rfl
            simp only [Act.put, List.setIfInBounds_toArray, List.set_cons_zero, List.set_cons_succ]
            refine takeH 22 81 (v := ?_) rfl rfl (by kernel_rfl) (by kernel_rfl) (by kernel_rfl) (fun _ _ _ h => h) (by rfl) ?_ (by assumption) ?_
            rotate_left
            · intro wx hSw
              try dsimp only at hSw
              go_simp
              with_reducible rfl
            simp only [Act.put, List.setIfInBounds_toArray, List.set_cons_zero, List.set_cons_succ]
            refine takeH 23 82 (v := ?_) rfl rfl (by kernel_rfl) (by kernel_rfl) (by kernel_rfl) (fun _ _ _ h => h) (by rfl) ?_ (by assumption) ?_
            rotate_left
            · intro wx hSw
              try dsimp only at hSw
              go_simp
              with_reducible rfl
            simp only [Act.put, List.setIfInBounds_toArray, List.set_cons_zero, List.set_cons_succ]
            refine takeH 24 83 (v := ?_) rfl rfl (by kernel_rfl) (by kernel_rfl) (by kernel_rfl) (fun _ _ _ h => h) (by rfl) ?_ (by assumption) ?_
            rotate_left
            · intro wx hSw
              try dsimp only at hSw
              go_simp
              with_reducible rfl
            simp only [Act.put, List.setIfInBounds_toArray, List.set_cons_zero, List.set_cons_succ]
            refine takeH 25 84 (v := ?_) rfl rfl (by kernel_rfl) (by kernel_rfl) (by kernel_rfl) (fun _ _ _ h => h) (by rfl) ?_ (by assumption) ?_
            rotate_left
            · intro wx hSw
              try dsimp only at hSw
              go_simp
              with_reducible rfl
            simp only [Act.put, List.setIfInBounds_toArray, List.set_cons_zero, List.set_cons_succ]
            refine wpAnyH_ready (rs := [26]) (by kernel_rfl) (by simp) ?_
            refine AllReadyH.cons rfl (fun K hK => ?_) AllReadyH.nil
            go_simp
            refine (KK2 _ KR).mono ?_
            rintro e wz3 ⟨rfl, kk⟩
            have z0 := z1
            have KR := KR.trans kk
            have z1 := Nat.lt_of_lt_of_le z1 kk.size
            go_wp2_with fail
            refine hK.out _ _ ?_ (fun hHeld => ?_)
            · exact ⟨(kk.cell z0).trans hHeld.1, (kk.cell z0).trans hHeld.2.1, (kk.cell z0).trans hHeld.2.2.1, (kk.cell z0).trans hHeld.2.2.2.1, (kk.cell z0).trans hHeld.2.2.2.2.1, (kk.cell z0).trans hHeld.2.2.2.2.2.1, (kk.cell z0).trans hHeld.2.2.2.2.2.2.1, (kk.cell z0).trans hHeld.2.2.2.2.2.2.2.1, (kk.cell z0).trans hHeld.2.2.2.2.2.2.2.2.1, (kk.cell z0).trans hHeld.2.2.2.2.2.2.2.2.2.1, (kk.cell z0).trans hHeld.2.2.2.2.2.2.2.2.2.2.1, (kk.cell z0).trans hHeld.2.2.2.2.2.2.2.2.2.2.2⟩
            clear hK K
            refine takeH 27 86 (v := ?_) rfl rfl (by kernel_rfl) (by kernel_rfl) (by kernel_rfl) (fun _ _ _ h => h) (by rfl) ?_ (by assumption) ?_
            rotate_left
            · intro wx hSw
              try dsimp only at hSw
              go_simp
              with_reducible rfl
            simp only [Act.put, List.setIfInBounds_toArray, List.set_cons_zero, List.set_cons_succ]
            refine takeH 28 87 (v := ?_) rfl rfl (by kernel_rfl) (by kernel_rfl) (by kernel_rfl) (fun _ _ _ h => h) (by rfl) ?_ (by assumption) ?_
            rotate_left
            · intro wx hSw
              try dsimp only at hSw
              go_simp
              with_reducible rfl
            simp only [Act.put, List.setIfInBounds_toArray, List.set_cons_zero, List.set_cons_succ]
            refine wpAnyH_done (by kernel_rfl) ?_ _
            clear d1 hHeld
            have hr := hr.keep KR
            go_wp2
            go_roundw
            case rel => exact ⟨m + 1, by omega, by omega, by go_num, by rw [HE1.out]; exact hr, hK.trans KR⟩
            case measure => simp [intOf]; omega
          · have HE1 := HH (by rw [HQ.out, hw, hi1, hk1]; rfl)
            rw [hw] at KW
            rw [hi1] at KI
            rw [hk1] at KK2
            clear HQ
            clear HH HM HP d2
            go_wp2
            go_quiet ((go_at_call 117; exact Calls.quiet_of_same (l1Has_any _ _ _ (by omega) (by omega))))
            go_wp2
            have KR : Keep wr ((wr.drewN nq).drew) := ((Keep.refl wr).grown (grown_draw wr nq none) (by simp)).drew
            have z1 : b < ((wr.drewN nq).drew).heap.size := hbw
            refine wp_region_held_drew (S := (fun w' => w'.cell? ⟨b, off + k * 6, none⟩ = some (.int .i64 ci) ∧ w'.cell? ⟨b, off + k * 6 + 1, none⟩ = some (.int .i64 di) ∧ w'.cell? ⟨b, off + k * 6 + 2, none⟩ = some (.bool false) ∧ w'.cell? ⟨b, off + k * 6 + 3, none⟩ = some (.int .i64 x3) ∧ w'.cell? ⟨b, off + k * 6 + 4, none⟩ = some (.int .i64 x4) ∧ w'.cell? ⟨b, off + k * 6 + 5, none⟩ = some (.int .i64 x5) ∧ w'.cell? ⟨b, off + m * 6, none⟩ = some (.int .i64 ci) ∧ w'.cell? ⟨b, off + m * 6 + 1, none⟩ = some (.int .i64 dk) ∧ w'.cell? ⟨b, off + m * 6 + 2, none⟩ = some (.bool true) ∧ w'.cell? ⟨b, off + m * 6 + 3, none⟩ = some (.int .i64 y3) ∧ w'.cell? ⟨b, off + m * 6 + 4, none⟩ = some (.int .i64 y4) ∧ w'.cell? ⟨b, off + m * 6 + 5, none⟩ = some (.int .i64 y5))) (by kernel_rfl) ?_ (fun hHeld => ?_)
            · go_keep
            refine takeH 0 59 (v := ?_) rfl rfl (by kernel_rfl) (by kernel_rfl) (by kernel_rfl) (fun _ _ _ h => h) (by rfl) ?_ (by assumption) ?_
            rotate_left
            · intro wx hSw
              try dsimp only at hSw
              go_simp
              with_reducible rfl
            simp only [Act.put, List.setIfInBounds_toArray, List.set_cons_zero, List.set_cons_succ]
            refine takeH 1 60 (v := ?_) rfl rfl (by kernel_rfl) (by kernel_rfl) (by kernel_rfl) (fun _ _ _ h => h) (by rfl) ?_ (by assumption) ?_
            rotate_left
            · intro wx hSw
              try dsimp only at hSw
              go_simp
              with_reducible rfl
            simp only [Act.put, List.setIfInBounds_toArray, List.set_cons_zero, List.set_cons_succ]
            refine takeH 2 61 (v := ?_) rfl rfl (by kernel_rfl) (by kernel_rfl) (by kernel_rfl) (fun _ _ _ h => h) (by rfl) ?_ (by assumption) ?_
            rotate_left
            · intro wx hSw
              try dsimp only at hSw
              go_simp
              with_reducible rfl
            simp only [Act.put, List.setIfInBounds_toArray, List.set_cons_zero, List.set_cons_succ]
            refine takeH 3 62 (v := ?_) rfl rfl (by kernel_rfl) (by kernel_rfl) (by kernel_rfl) (fun _ _ _ h => h) (by rfl) ?_ (by assumption) ?_
            rotate_left
            · intro wx hSw
              try dsimp only at hSw
              go_simp
              with_reducible rfl
            simp only [Act.put, List.setIfInBounds_toArray, List.set_cons_zero, List.set_cons_succ]
            refine takeH 4 63 (v := ?_) rfl rfl (by kernel_rfl) (by kernel_rfl) (by kernel_rfl) (fun _ _ _ h => h) (by rfl) ?_ (by assumption) ?_
            rotate_left
            · intro wx hSw
              try dsimp only at hSw
              go_simp
              with_reducible rfl
            simp only [Act.put, List.setIfInBounds_toArray, List.set_cons_zero, List.set_cons_succ]
            refine takeH 5 64 (v := ?_) rfl rfl (by kernel_rfl) (by kernel_rfl) (by kernel_rfl) (fun _ _ _ h => h) (by rfl) ?_ (by assumption) ?_
            rotate_left
            · intro wx hSw
              try dsimp only at hSw
              go_simp
              with_reducible rfl
            simp only [Act.put, List.setIfInBounds_toArray, List.set_cons_zero, List.set_cons_succ]
            refine takeH 6 65 (v := ?_) rfl rfl (by kernel_rfl) (by kernel_rfl) (by kernel_rfl) (fun _ _ _ h => h) (by rfl) ?_ (by assumption) ?_
            rotate_left
            · intro wx hSw
              try dsimp only at hSw
              go_simp
              with_reducible rfl
            simp only [Act.put, List.setIfInBounds_toArray, List.set_cons_zero, List.set_cons_succ]
            refine takeH 7 66 (v := ?_) rfl rfl (by kernel_rfl) (by kernel_rfl) (by kernel_rfl) (fun _ _ _ h => h) (by rfl) ?_ (by assumption) ?_
            rotate_left
            · intro wx hSw
              try dsimp only at hSw
              go_simp
              with_reducible rfl
            simp only [Act.put, List.setIfInBounds_toArray, List.set_cons_zero, List.set_cons_succ]
            refine takeH 8 67 (v := ?_) rfl rfl (by kernel_rfl) (by kernel_rfl) (by kernel_rfl) (fun _ _ _ h => h) (by rfl) ?_ (by assumption) ?_
            rotate_left
            · intro wx hSw
              try dsimp only at hSw
              go_simp
              with_reducible rfl
            simp only [Act.put, List.setIfInBounds_toArray, List.set_cons_zero, List.set_cons_succ]
            refine wpAnyH_ready (rs := [9]) (by kernel_rfl) (by simp) ?_
            refine AllReadyH.cons rfl (fun K hK => ?_) AllReadyH.nil
            go_simp
            refine (KW _ KR).mono ?_
            rintro e wz1 ⟨rfl, kk⟩
            have z0 := z1
            have KR := KR.trans kk
            have z1 := Nat.lt_of_lt_of_le z1 kk.size
            go_wp2_with fail
            refine hK.out _ _ ?_ (fun hHeld => ?_)
            · exact ⟨(kk.cell z0).trans hHeld.1, (kk.cell z0).trans hHeld.2.1, (kk.cell z0).trans hHeld.2.2.1, (kk.cell z0).trans hHeld.2.2.2.1, (kk.cell z0).trans hHeld.2.2.2.2.1, (kk.cell z0).trans hHeld.2.2.2.2.2.1, (kk.cell z0).trans hHeld.2.2.2.2.2.2.1, (kk.cell z0).trans hHeld.2.2.2.2.2.2.2.1, (kk.cell z0).trans hHeld.2.2.2.2.2.2.2.2.1, (kk.cell z0).trans hHeld.2.2.2.2.2.2.2.2.2.1, (kk.cell z0).trans hHeld.2.2.2.2.2.2.2.2.2.2.1, (kk.cell z0).trans hHeld.2.2.2.2.2.2.2.2.2.2.2⟩
            clear hK K
            refine takeH 10 69 (v := ?_) rfl rfl (by kernel_rfl) (by kernel_rfl) (by kernel_rfl) (fun _ _ _ h => h) (by rfl) ?_ (by assumption) ?_
            rotate_left
            · intro wx hSw
              try dsimp only at hSw
              go_simp
              with_reducible rfl
            simp only [Act.put, List.setIfInBounds_toArray, List.set_cons_zero, List.set_cons_succ]
            refine takeH 11 70 (v := ?_) rfl rfl (by kernel_rfl) (by kernel_rfl) (by kernel_rfl) (fun _ _ _ h => h) (by rfl) ?_ (by assumption) ?_
            rotate_left
            · intro wx hSw
              try dsimp only at hSw
              go_simp
              with_reducible rfl
            simp only [Act.put, List.setIfInBounds_toArray, List.set_cons_zero, List.set_cons_succ]
            refine takeH 12 71 (v := ?_) rfl rfl (by kernel_rfl) (by kernel_rfl) (by kernel_rfl) (fun _ _ _ h => h) (by rfl) ?_ (by assumption) ?_
            rotate_left
            · intro wx hSw
              try dsimp only at hSw
              go_simp
              with_reducible rfl
            simp only [Act.put, List.setIfInBounds_toArray, List.set_cons_zero, List.set_cons_succ]
            refine takeH 13 72 (v := ?_) rfl rfl (by kernel_rfl) (by kernel_rfl) (by kernel_rfl) (fun _ _ _ h => h) (by rfl) ?_ (by assumption) ?_
            rotate_left
            · intro wx hSw
              try dsimp only at hSw
              go_simp
              with_reducible rfl
            simp only [Act.put, List.setIfInBounds_toArray, List.set_cons_zero, List.set_cons_succ]
            refine takeH 14 73 (v := ?_) rfl rfl (by kernel_rfl) (by kernel_rfl) (by kernel_rfl) (fun _ _ _ h => h) (by rfl) ?_ (by assumption) ?_
            rotate_left
            · intro wx hSw
              try dsimp only at hSw
              go_simp
              with_reducible rfl
            simp only [Act.put, List.setIfInBounds_toArray, List.set_cons_zero, List.set_cons_succ]
            refine takeH 15 74 (v := ?_) rfl rfl (by kernel_rfl) (by kernel_rfl) (by kernel_rfl) (fun _ _ _ h => h) (by rfl) ?_ (by assumption) ?_
            rotate_left
            · intro wx hSw
              try dsimp only at hSw
              go_simp
              with_reducible rfl
            simp only [Act.put, List.setIfInBounds_toArray, List.set_cons_zero, List.set_cons_succ]
            refine takeH 16 75 (v := ?_) rfl rfl (by kernel_rfl) (by kernel_rfl) (by kernel_rfl) (fun _ _ _ h => h) (by rfl) ?_ (by assumption) ?_
            rotate_left
            · intro wx hSw
              try dsimp only at hSw
              go_simp
              with_reducible rfl
            simp only [Act.put, List.setIfInBounds_toArray, List.set_cons_zero, List.set_cons_succ]
            refine wpAnyH_ready (rs := [17]) (by kernel_rfl) (by simp) ?_
            refine AllReadyH.cons rfl (fun K hK => ?_) AllReadyH.nil
            go_simp
            refine (KI _ KR).mono ?_
            rintro e wz2 ⟨rfl, kk⟩
            have z0 := z1
            have KR := KR.trans kk
            have z1 := Nat.lt_of_lt_of_le z1 kk.size
            go_wp2_with fail
            refine hK.out _ _ ?_ (fun hHeld => ?_)
            · exact ⟨(kk.cell z0).trans hHeld.1, (kk.cell z0).trans hHeld.2.1, (kk.cell z0).trans hHeld.2.2.1, (kk.cell z0).trans hHeld.2.2.2.1, (kk.cell z0).trans hHeld.2.2.2.2.1, (kk.cell z0).trans hHeld.2.2.2.2.2.1, (kk.cell z0).trans hHeld.2.2.2.2.2.2.1, (kk.cell z0).trans hHeld.2.2.2.2.2.2.2.1, (kk.cell z0).trans hHeld.2.2.2.2.2.2.2.2.1, (kk.cell z0).trans hHeld.2.2.2.2.2.2.2.2.2.1, (kk.cell z0).trans hHeld.2.2.2.2.2.2.2.2.2.2.1, (kk.cell z0).trans hHeld.2.2.2.2.2.2.2.2.2.2.2⟩
            clear hK K
            refine takeH 18 77 (v := ?_) rfl rfl (by kernel_rfl) (by kernel_rfl) (by kernel_rfl) (fun _ _ _ h => h) (by rfl) ?_ (by assumption) ?_
            rotate_left
            · intro wx hSw
              try dsimp only at hSw
              go_simp
              with_reducible rfl
            simp only [Act.put, List.setIfInBounds_toArray, List.set_cons_zero, List.set_cons_succ]
            refine takeH 19 78 (v := ?_) rfl rfl (by kernel_rfl) (by kernel_rfl) (by kernel_rfl) (fun _ _ _ h => h) (by rfl) ?_ (by assumption) ?_
            rotate_left
            · intro wx hSw
              try dsimp only at hSw
              go_simp
              with_reducible rfl
            simp only [Act.put, List.setIfInBounds_toArray, List.set_cons_zero, List.set_cons_succ]
            refine takeH 20 79 (v := ?_) rfl rfl (by kernel_rfl) (by kernel_rfl) (by kernel_rfl) (fun _ _ _ h => h) (by rfl) ?_ (by assumption) ?_
            rotate_left
            · intro wx hSw
              try dsimp only at hSw
              go_simp
              with_reducible rfl
            simp only [Act.put, List.setIfInBounds_toArray, List.set_cons_zero, List.set_cons_succ]
            refine takeH 21 80 (v := ?_) rfl rfl (by kernel_rfl) (by kernel_rfl) (by kernel_rfl) (fun _ _ _ h => h) (by rfl) ?_ (by assumption) ?_
            rotate_left
            · intro wx hSw
              try dsimp only at hSw
              go_simp
              with_reducible rfl
            simp only [Act.put, List.setIfInBounds_toArray, List.set_cons_zero, List.set_cons_succ]
            refine takeH 22 81 (v := ?_) rfl rfl (by kernel_rfl) (by kernel_rfl) (by kernel_rfl) (fun _ _ _ h => h) (by rfl) ?_ (by assumption) ?_
            rotate_left
            · intro wx hSw
              try dsimp only at hSw
              go_simp
              with_reducible rfl
            simp only [Act.put, List.setIfInBounds_toArray, List.set_cons_zero, List.set_cons_succ]
            refine takeH 23 82 (v := ?_) rfl rfl (by kernel_rfl) (by kernel_rfl) (by kernel_rfl) (fun _ _ _ h => h) (by rfl) ?_ (by assumption) ?_
            rotate_left
            · intro wx hSw
              try dsimp only at hSw
              go_simp
              with_reducible rfl
            simp only [Act.put, List.setIfInBounds_toArray, List.set_cons_zero, List.set_cons_succ]
            refine takeH 24 83 (v := ?_) rfl rfl (by kernel_rfl) (by kernel_rfl) (by kernel_rfl) (fun _ _ _ h => h) (by rfl) ?_ (by assumption) ?_
            rotate_left
            · intro wx hSw
              try dsimp only at hSw
              go_simp
              with_reducible rfl
            simp only [Act.put, List.setIfInBounds_toArray, List.set_cons_zero, List.set_cons_succ]
            refine takeH 25 84 (v := ?_) rfl rfl (by kernel_rfl) (by kernel_rfl) (by kernel_rfl) (fun _ _ _ h => h) (by rfl) ?_ (by assumption) ?_
            rotate_left
            · intro wx hSw
              try dsimp only at hSw
              go_simp
              with_reducible rfl
            simp only [Act.put, List.setIfInBounds_toArray, List.set_cons_zero, List.set_cons_succ]
            refine wpAnyH_ready (rs := [26]) (by kernel_rfl) (by simp) ?_
            refine AllReadyH.cons rfl (fun K hK => ?_) AllReadyH.nil
            go_simp
            refine (KK2 _ KR).mono ?_
            rintro e wz3 ⟨rfl, kk⟩
            have z0 := z1
            have KR := KR.trans kk
            have z1 := Nat.lt_of_lt_of_le z1 kk.size
            go_wp2_with fail
            refine hK.out _ _ ?_ (fun hHeld => ?_)
            · exact ⟨(kk.cell z0).trans hHeld.1, (kk.cell z0).trans hHeld.2.1, (kk.cell z0).trans hHeld.2.2.1, (kk.cell z0).trans hHeld.2.2.2.1, (kk.cell z0).trans hHeld.2.2.2.2.1, (kk.cell z0).trans hHeld.2.2.2.2.2.1, (kk.cell z0).trans hHeld.2.2.2.2.2.2.1, (kk.cell z0).trans hHeld.2.2.2.2.2.2.2.1, (kk.cell z0).trans hHeld.2.2.2.2.2.2.2.2.1, (kk.cell z0).trans hHeld.2.2.2.2.2.2.2.2.2.1, (kk.cell z0).trans hHeld.2.2.2.2.2.2.2.2.2.2.1, (kk.cell z0).trans hHeld.2.2.2.2.2.2.2.2.2.2.2⟩
            clear hK K
            refine takeH 27 86 (v := ?_) rfl rfl (by kernel_rfl) (by kernel_rfl) (by kernel_rfl) (fun _ _ _ h => h) (by rfl) ?_ (by assumption) ?_
            rotate_left
            · intro wx hSw
              try dsimp only at hSw
              go_simp
              with_reducible rfl
            simp only [Act.put, List.setIfInBounds_toArray, List.set_cons_zero, List.set_cons_succ]
            refine takeH 28 87 (v := ?_) rfl rfl (by kernel_rfl) (by kernel_rfl) (by kernel_rfl) (fun _ _ _ h => h) (by rfl) ?_ (by assumption) ?_
            rotate_left
            · intro wx hSw
              try dsimp only at hSw
              go_simp
              with_reducible rfl
            simp only [Act.put, List.setIfInBounds_toArray, List.set_cons_zero, List.set_cons_succ]
            refine wpAnyH_done (by kernel_rfl) ?_ _
            clear d1 hHeld
            have hr := hr.keep KR
            have d1 := hr.cell (j := k) hBl
            rw [← HX.out] at d1
            have d2 := hr.free k
            have hGl := hr.lt
            go_wp2
            go_roundw
            case rel => exact ⟨m + 1, by omega, by omega, by go_num, by rw [HE1.out]; exact hr.set k _, (hK.trans KR).grown (grown_set _ G k _) (by simp; exact hG)⟩
            case measure => simp [intOf]; omega
        · obtain rfl : m = es.length := by omega
          go_wp2
          go_roundw
          case rel => exact ⟨k + 1, by omega, by omega, by go_num, by rw [← HE.out]; exact hr, hK⟩
          case measure => simp [intOf]; omega
    · obtain rfl : k = es.length := by omega
      have HL := (web_offAll (p := kepP dss es) HW0.out es.length (Nat.le_refl _)).1.2.1
      go_wp2
      go_ret
      exact ⟨_, rfl, row_new hr hG HL, hK⟩
end Go.Proofs.YtkbkdlaknmgjpaaGreat

/- Contract of the specification's l12Web (as l11Web). -/
namespace Go.Proofs.YtkbkdlaknmgjpaaGreat
open Go.ChangeShapes Go.WideShapes Go.ChangeAt Go.RowKit

set_option maxRecDepth 100000 in
set_option maxHeartbeats 4000000 in
theorem l12Web_any (w : World) (vd v vF vR : Value) (dss : List (List Dd)) (es : List Ev) (f rows : List Int) (hd : RdW w vd dss) (h : RdE w v es) (hf : Rd w vF f) (hr : Rd w vR rows) (h3 : 3 ≤ es.length) (hn : es.length ≤ 12) (hm : ∀ i, i < dss.length → (dss.getD i []).length ≤ 1048576) (hin : ∀ j, 3 ≤ j → j < es.length → ∃ i k : Nat, (es.getD j zE).1 = (i : Int) ∧ (es.getD j zE).2.1 = (k : Int) ∧ i < dss.length ∧ k < (dss.getD i []).length) (W : Webs es f rows) (hlr : rows.length ≤ 36) (hrw : ∀ j, j < rows.length → 0 ≤ rows.getD j 0 ∧ rows.getD j 0 < (es.length : Int)) (hl : (idxB rdE es).length ≤ f.length) (hb : ∀ i, i < (idxB rdE es).length → 0 ≤ f.getD i 0 ∧ f.getD i 0 < (es.length : Int)) :
    Calls Tryz.prog 55 #[vd, v, .agg #[vF, vR]] w fun e w' => ∃ v', e = .returned v' ∧ Own w' w.heap.size v' (swL dss es f rows) ∧ Keep w w' := by
  have HF := Lib.hid (four_len (kep_line (dss := dss) hn).1 (ow_line W).1 W.rw' W.ag)
  have C1 := Lib.hid (fun (U : World) (kU : Keep w U) => l7Kept_any U vd v dss es (hd.keep kU) (h.keep kU) h3 hn hm hin)
  have C2 := Lib.hid (fun (U : World) (kU : Keep w U) => l12Others_any U v vF es f (h.keep kU) (hf.keep kU) h3 hn W.fw hl hb)
  have C3 := Lib.hid (fun (U : World) (kU : Keep w U) => l9Web_any U v vR es rows (h.keep kU) (hr.keep kU) hn hlr hrw)
  have C4 := Lib.hid (fun (U : World) (kU : Keep w U) => l10Against_any U v vF vR es f rows (h.keep kU) (hf.keep kU) (hr.keep kU) hn hlr hrw hl hb)
  have HE : Hid (swL dss es f rows = mixL orI (mixL orI (kepL dss es) (owL es f)) (mixL orI (rwL es rows) (agL es f rows))) := Lib.hid rfl
  clear hl hb hrw hlr W hn hm hin h3 hd
  obtain ⟨aF, cF, rfl, -⟩ := hf
  obtain ⟨aR, cR, rfl, -⟩ := hr
  obtain ⟨aE, cE', rfl, -⟩ := h
  generalize swL dss es f rows = PW at HE ⊢
  generalize kepL dss es = L1 at *
  generalize owL es f = L2 at *
  generalize rwL es rows = L3 at *
  generalize agL es f rows = L4 at *
  go_enter Tryz.func55, Tryz.ntmps55
  have b0 : (w.alloc (.cells #[.slice aF f.length cF, .slice aR rows.length cR] 27)).cell? ⟨w.heap.size, 0, none⟩ = some (.slice aF f.length cF) := box_cell (Keep.refl _) 0
  have b1 : (w.alloc (.cells #[.slice aF f.length cF, .slice aR rows.length cR] 27)).cell? ⟨w.heap.size, 1, none⟩ = some (.slice aR rows.length cR) := box_cell (Keep.refl _) 1
  have K0 : Keep w (w.alloc (.cells #[.slice aF f.length cF, .slice aR rows.length cR] 27)).drew := ((Keep.refl w).alloc _).drew
  have z0 : w.heap.size < (w.alloc (.cells #[.slice aF f.length cF, .slice aR rows.length cR] 27)).drew.heap.size := by simp
  go_wp2_with fail
  go_region_held3 (fun w' => w'.cell? ⟨w.heap.size, 0, none⟩ = some (.slice aF f.length cF) ∧ w'.cell? ⟨w.heap.size, 1, none⟩ = some (.slice aR rows.length cR))
    (first | go_keep | (go_split_ands; refine ⟨?_, ?_⟩ <;> (rw [kk.cell (by assumption)]; assumption)))
    ((first
      | (go_at_call 103; refine (C1.out _ K0).mono ?_; rintro e w1 ⟨v1, rfl, o1, kk⟩; have z1 : w.heap.size < w1.heap.size := Nat.lt_of_lt_of_le z0 kk.size; have K1 := K0.trans kk; have r1 := o1.rd; clear o1)
      | (go_at_call 57; refine (C2.out _ K1).mono ?_; clear kk; rintro e w2 ⟨v2, rfl, o2, kk⟩; have z2 : w.heap.size < w2.heap.size := Nat.lt_of_lt_of_le z1 kk.size; have K2 := K1.trans kk; have r2 := o2.rd; replace r1 := r1.keep kk; clear o2)
      | (go_at_call 104; refine (C3.out _ K3).mono ?_; clear kk; rintro e w4 ⟨v4, rfl, o4, kk⟩; have z4 : w.heap.size < w4.heap.size := Nat.lt_of_lt_of_le z3 kk.size; have K4 := K3.trans kk; have r4 := o4.rd; replace r3 := r3.keep kk; clear o4)
      | (go_at_call 105; refine (C4.out _ K4).mono ?_; clear kk; rintro e w5 ⟨v5, rfl, o5, kk⟩; have z5 : w.heap.size < w5.heap.size := Nat.lt_of_lt_of_le z4 kk.size; have K5 := K4.trans kk; have r5 := o5.rd; replace r4 := r4.keep kk; replace r3 := r3.keep kk; clear o5)
      | (go_at_call 102; refine (l2Join_any _ _ _ _ _ r1 r2 HF.out.2.2.2.1 HF.out.1).mono ?_; clear kk; rintro e w3 ⟨v3, rfl, o3, kk⟩; have z3 : w.heap.size < w3.heap.size := Nat.lt_of_lt_of_le z2 kk.size; have K3 := K2.trans kk; have r3 := o3.rd; clear o3 r1 r2)
      | (go_at_call 102; refine (l2Join_any _ _ _ _ _ r4 r5 HF.out.2.2.2.2.1 HF.out.2.1).mono ?_; clear kk; rintro e w6 ⟨v6, rfl, o6, kk⟩; have z6 : w.heap.size < w6.heap.size := Nat.lt_of_lt_of_le z5 kk.size; have K6 := K5.trans kk; have r6 := o6.rd; replace r3 := r3.keep kk; clear o6 r4 r5)
      | (go_at_call 102; refine (l2Join_any _ _ _ _ _ r3 r6 HF.out.2.2.2.2.2.1 HF.out.2.2.1).mono ?_; clear kk; rintro e w7 ⟨v7, rfl, o7, kk⟩)))
  all_goals
    go_wp2
    go_ret
    exact ⟨_, rfl, by rw [HE.out, HF.out.2.2.2.2.2.2]; exact o7.base_le (by have := K6.size; omega), K6.trans kk⟩
end Go.Proofs.YtkbkdlaknmgjpaaGreat

/- Contract of the specification's l3Lift. -/
namespace Go.Proofs.YtkbkdlaknmgjpaaGreat
open Go.ChangeShapes Go.WideShapes Go.ChangeAt Go.RowKit

theorem made_noughts (n : Nat) : (madeCells (Value.int .i64 0).cells (n * 1)).toList = ((List.replicate n (0 : Int)).map (Value.int .i64)) := by
  rw [Nat.mul_one, List.map_replicate]
  exact toList_madeCells_one _ _
theorem liftA_hit {zs cl : List Int} {c : Int} {m : Nat} (h : cl.getD m 0 = c) : liftA zs cl c (m + 1) = orI (liftA zs cl c m) (zs.getD m 0) := by
  conv => lhs; unfold liftA
  rw [if_pos h]
theorem liftA_miss {zs cl : List Int} {c : Int} {m : Nat} (h : ¬ cl.getD m 0 = c) : liftA zs cl c (m + 1) = liftA zs cl c m := by
  conv => lhs; unfold liftA
  rw [if_neg h]
def hitV (s : Int) (j : Nat) (b : Bool) : Int := if b = true then gAdd s j else s
theorem liftR_skip {zs cl : List Int} {c : Int} {m : Nat} (h : cl.getD m 0 = c) : liftR zs cl c (m + 1) = liftR zs cl c m := by
  conv => lhs; unfold liftR
  rw [if_pos h]
theorem liftR_go {zs cl : List Int} {c : Int} {m : Nat} (h : ¬ cl.getD m 0 = c) : liftR zs cl c (m + 1) = hitV (liftR zs cl c m) m (hitB cl (cl.getD m 0) (liftA zs cl c zs.length) zs.length) := by
  conv => lhs; unfold liftR
  rw [if_neg h]
  rfl
theorem add_twice {n : Nat} {s : Int} (hs : okB n s = true) {j : Nat} (hj : j < n) : gAdd (gAdd s j) j = gAdd s j := by
  have h1 := ok_add hs hj
  have h2 := ok_add h1.1 hj
  refine ok_ext h2.1 h1.1 fun i _ => ?_
  rw [h2.2 i, h1.2 i]
  cases inSetB s i <;> cases decide (j = i) <;> rfl
theorem ok_hitV {n : Nat} {s : Int} (hs : okB n s = true) {j : Nat} (hj : j < n) (b : Bool) : okB n (hitV s j b) = true := by
  unfold hitV
  split
  · exact (ok_add hs hj).1
  · exact hs
theorem hitV_hit {n : Nat} {s : Int} (hs : okB n s = true) {j : Nat} (hj : j < n) (b c : Bool) (hc : c = true) : gAdd (hitV s j b) j = hitV s j c := by
  subst hc
  cases b
  · rfl
  · exact add_twice hs hj
set_option maxRecDepth 100000 in
set_option maxHeartbeats 6400000 in
theorem l3Lift_any (w : World) (v1 v2 : Value) (xs ys : List Int) (h1 : Rd w v1 xs) (h2 : Rd w v2 ys) (ht : Web xs.length xs) (hl : ys.length = xs.length) :
    Calls Tryz.prog 65 #[v1, v2] w fun e w' => ∃ v', e = .returned v' ∧ Row w' w.heap.size v' (ys.map (fun c => liftR xs ys c xs.length)) ∧ Keep w w' := by
  obtain ⟨a1, c1, rfl, h1⟩ := h1
  obtain ⟨a2, c2, rfl, h2⟩ := h2
  obtain ⟨i0, hi, hz0, hz1, hz2⟩ := info_parts Tryz.infoI
  have hz12 := ht.1
  have HX : Hid (Web xs.length xs) := ht
  have HL : Hid (ys.length = xs.length) := hl
  have hl1 : ys.length ≤ xs.length := by omega
  have hl2 : xs.length ≤ ys.length := by omega
  clear ht hl
  go_enter Tryz.func65, Tryz.ntmps65
  go_wp2_with (at_make; refine wpList_make_full _ rfl _ _ 25 rfl w.heap.size 2 i0 (.int .i64 0) 1 Tryz.underlying25 hi hz0 hz1 .i64 .i64 _ _ xs.length rfl rfl rfl rfl (by rw [hz2]; omega) (by unfold maxLen; omega) (Nat.le_refl _) ?_; intro w1 hown hgrow)
  rw [made_noughts] at hown
  have k1 : Keep w w1 := (Keep.refl w).grown hgrow (by simp)
  have rb : RowAt w1 w.heap.size (mapK (fun c => liftR xs ys c xs.length) ys 0) := by
    have o : Own w1 w.heap.size (.slice (some ⟨w.heap.size, 0, none⟩) xs.length xs.length) (List.replicate xs.length 0) := by
      unfold Own; simpa using hown
    rw [mapK_zero, HL.out]
    rcases o.row with ⟨e, _⟩ | ⟨g, cap, e, _, hr⟩
    · cases e
    · have e1 := congrArg Value.ownBlock e
      simp [Value.ownBlock] at e1
      rw [e1]; exact hr
  clear hgrow hown
  go_loopw [6] (fun i wr => ∃ k : Nat, k ≤ xs.length ∧ i = .int .i64 k ∧ RowAt wr w.heap.size (mapK (fun c => liftR xs ys c xs.length) ys k) ∧ Keep w wr) (fun i _ => xs.length - (intOf i).toNat)
  case atStart => exact ⟨0, Nat.zero_le _, rfl, rb, k1⟩
  case round =>
    obtain ⟨k, hk, rfl, hr, hK⟩ := hrel
    clear rb k1
    by_cases hlt : k < xs.length
    · have hlt2 : k < ys.length := by omega
      rcases h1 with h | ⟨b1, o1, rfl, hb1, hc1⟩
      · exfalso; rw [h] at hlt; simp at hlt
      rcases h2 with h | ⟨b2, o2, rfl, hb2, hc2⟩
      · exfalso; rw [h] at hlt2; simp at hlt2
      have c0 := hc2 k hlt2
      have HE : Hid ((mapK (fun c => liftR xs ys c xs.length) ys k).set k (liftR xs ys (ys.getD k 0) xs.length) = mapK (fun c => liftR xs ys c xs.length) ys (k + 1)) := mapK_set _ ys hlt2
      have HS : Hid ((mapK (fun c => liftR xs ys c xs.length) ys k).set k (liftR xs ys (ys.getD k 0) 0) = mapK (fun c => liftR xs ys c xs.length) ys k) := mapK_same _ ys hlt2
      have hTl : Hid ((mapK (fun c => liftR xs ys c xs.length) ys k).length = xs.length) := (mapK_len _ ys (by omega)).trans HL.out
      rw [← HS.out] at hr
      obtain ⟨p, hp⟩ : ∃ p, p = ys.getD k 0 := ⟨_, rfl⟩
      have HC : Hid (p = ys.getD k 0) := hp
      rw [← hp] at c0 hr HE
      clear hp HS
      generalize mapK (fun c => liftR xs ys c xs.length) ys k = T at *
      have i1 : (0 : Int) ≤ (k : Int) := Int.natCast_nonneg _
      have i2 : (k : Int) < (ys.length : Int) := by omega
      have i2' : (k : Int) < (xs.length : Int) := by omega
      obtain ⟨wo, rfl⟩ : ∃ wo : World, wo = wr := ⟨_, rfl⟩
      go_wp2_with fail
      go_loopw [7, 8] (fun s i wr => ∃ m : Nat, m ≤ xs.length ∧ i = .int .i64 m ∧ s = .int .i64 (liftA xs ys p m) ∧ RowAt wr w.heap.size (T.set k (liftR xs ys p 0)) ∧ Keep w wr) (fun _ i _ => xs.length - (intOf i).toNat)
      case atStart => exact ⟨0, Nat.zero_le _, rfl, rfl, hr, hK⟩
      case round =>
        clear hr hK
        obtain ⟨m, hm, rfl, rfl, hr, hK⟩ := hrel
        by_cases hml : m < xs.length
        · have hml2 : m < ys.length := by omega
          have d0 := (hK.cell hb2).trans c0
          have d1 := (hK.cell hb2).trans (hc2 m hml2)
          have d2 := (hK.cell hb1).trans (hc1 m hml)
          obtain ⟨q, hq⟩ : ∃ q, q = ys.getD m 0 := ⟨_, rfl⟩
          have HQ : Hid (q = ys.getD m 0) := hq
          rw [← hq] at d1
          clear hq hc1 hc2 c0
          have i3 : (0 : Int) ≤ (m : Int) := Int.natCast_nonneg _
          have i4 : (m : Int) < (ys.length : Int) := by omega
          have i5 : (m : Int) < (xs.length : Int) := by omega
          cases he : q == p
          · have HM : Hid (liftA xs ys p (m + 1) = liftA xs ys p m) := liftA_miss (by rw [← HQ.out]; simpa using he)
            generalize liftA xs ys p m = A at *
            generalize xs.getD m 0 = x at *
            go_wp2
            go_quiet (fail)
            go_wp2
            go_roundw
            case rel => exact ⟨m + 1, by omega, by go_num, by rw [HM.out], hr.drewN _, hK.drewN _⟩
            case measure => simp [intOf]; omega
          · have HM : Hid (liftA xs ys p (m + 1) = orI (liftA xs ys p m) (xs.getD m 0)) := liftA_hit (by rw [← HQ.out]; simpa using he)
            generalize liftA xs ys p m = A at *
            generalize xs.getD m 0 = x at *
            go_wp2
            go_quiet (fail)
            go_wp2
            go_roundw
            case rel => exact ⟨m + 1, by omega, by go_num, by rw [HM.out]; rfl, hr.drewN _, hK.drewN _⟩
            case measure => simp [intOf]; omega
        · obtain rfl : m = xs.length := by omega
          have HA : Hid (okB xs.length (liftA xs ys p xs.length) = true) := (ok_liftA HX.out ys p xs.length (Nat.le_refl _)).1
          have HG : Hid (∀ j, ¬ ys.getD j 0 = p → liftR xs ys p (j + 1) = hitV (liftR xs ys p j) j (hitB ys (ys.getD j 0) (liftA xs ys p xs.length) xs.length)) := fun j => liftR_go
          generalize liftA xs ys p xs.length = A at *
          obtain ⟨wp, rfl⟩ : ∃ wp : World, wp = wr := ⟨_, rfl⟩
          go_wp2_with fail
          go_loopw [9] (fun i wr => ∃ j : Nat, j ≤ xs.length ∧ i = .int .i64 j ∧ RowAt wr w.heap.size (T.set k (liftR xs ys p j)) ∧ Keep w wr) (fun i _ => xs.length - (intOf i).toNat)
          case atStart => exact ⟨0, Nat.zero_le _, rfl, hr, hK⟩
          case round =>
            clear hr hK
            obtain ⟨j, hj, rfl, hr, hK⟩ := hrel
            by_cases hjl : j < xs.length
            · have hjl2 : j < ys.length := by omega
              have d0 := (hK.cell hb2).trans c0
              have d1 := (hK.cell hb2).trans (hc2 j hjl2)
              have e1 := hc2 j hjl2
              obtain ⟨q, hq⟩ : ∃ q, q = ys.getD j 0 := ⟨_, rfl⟩
              have HQ : Hid (q = ys.getD j 0) := hq
              rw [← hq] at d1 e1
              clear hq
              have i3 : (0 : Int) ≤ (j : Int) := Int.natCast_nonneg _
              have i4 : (j : Int) < (ys.length : Int) := by omega
              have i5 : (j : Int) < (xs.length : Int) := by omega
              cases he : q == p
              · have HV : Hid (¬ q = p) := by show ¬ q = p; simpa using he
                have HN : Hid (liftR xs ys p (j + 1) = hitV (liftR xs ys p j) j (hitB ys q A xs.length)) := by
                  have := HG.out j (by rw [← HQ.out]; exact HV.out)
                  rw [← HQ.out] at this
                  exact this
                have HO : Hid (okB xs.length (liftR xs ys p j) = true) := (ok_liftR HX.out ys p j (by omega)).1
                generalize liftR xs ys p j = R at *
                obtain ⟨wq, rfl⟩ : ∃ wq : World, wq = wr := ⟨_, rfl⟩
                go_wp2
                go_quiet (fail)
                have hr2 := hr.drewN nq
                have hK2 := hK.drewN nq
                clear d0 d1
                go_wp2_with fail
                go_loopw [10] (fun i wr => ∃ m : Nat, m ≤ xs.length ∧ i = .int .i64 m ∧ RowAt wr w.heap.size (T.set k (hitV R j (hitB ys q A m))) ∧ Keep w wr) (fun i _ => xs.length - (intOf i).toNat)
                case atStart => exact ⟨0, Nat.zero_le _, rfl, hr2, hK2⟩
                case round =>
                  clear hr hK hr2 hK2
                  obtain ⟨m, hm, rfl, hr, hK⟩ := hrel
                  by_cases hml : m < xs.length
                  · have hml2 : m < ys.length := by omega
                    have d1 := (hK.cell hb2).trans e1
                    have d2 := (hK.cell hb2).trans (hc2 m hml2)
                    obtain ⟨u, hu⟩ : ∃ u, u = ys.getD m 0 := ⟨_, rfl⟩
                    have HU : Hid (u = ys.getD m 0) := hu
                    rw [← hu] at d2
                    clear hu hc1 hc2 c0 e1
                    have i6 : (0 : Int) ≤ (m : Int) := Int.natCast_nonneg _
                    have i7 : (m : Int) < (ys.length : Int) := by omega
                    have HT : Hid (hitB ys q A (m + 1) = (hitB ys q A m || (decide (u = q) && inSetB A m))) := by rw [HU.out]; rfl
                    have hbit : inSetB A m = bitB A m := inSetB_bit (okB_range HA.out) (by omega)
                    have HY : Hid (okB xs.length (hitV R j (hitB ys q A m)) = true) := ok_hitV HO.out hjl _
                    cases hq2 : u == q
                    · have HM : Hid (hitB ys q A (m + 1) = hitB ys q A m) := by
                        show _ = _
                        rw [HT.out]
                        have : decide (u = q) = false := by simpa using hq2
                        rw [this]; simp
                      rw [← HM.out] at hr
                      clear hbit HT
                      go_wp2
                      go_quiet (fail)
                      go_wp2
                      go_roundw
                      case rel => exact ⟨m + 1, by omega, by go_num, hr.drewN _, hK.drewN _⟩
                      case measure => simp [intOf]; omega
                    · cases hb : bitB A m
                      · have HM : Hid (hitB ys q A (m + 1) = hitB ys q A m) := by
                          show _ = _
                          rw [HT.out, hbit, hb]; simp
                        rw [← HM.out] at hr
                        clear hbit HT
                        go_wp2
                        go_quiet ((go_at_call 117; refine Calls.quiet_of_same (l1Has_any _ _ _ (by omega) (by omega))))
                        go_wp2
                        go_roundw
                        case rel => exact ⟨m + 1, by omega, by go_num, hr.drewN _, hK.drewN _⟩
                        case measure => simp [intOf]; omega
                      · have HM : Hid (hitB ys q A (m + 1) = true) := by
                          show _ = _
                          have : decide (u = q) = true := by simpa using hq2
                          rw [HT.out, hbit, hb, this]; simp
                        have hrg := okB_range HY.out
                        have hki : inB (j : Int) 0 11 = true := by unfold inB; simp; omega
                        have HV2 : Hid (bits .or .i64 (hitV R j (hitB ys q A m)) (wrap64 (2 ^ (j : Int).toNat)) = hitV R j (hitB ys q A (m + 1))) := by
                          show _ = _
                          rw [← hitV_hit HO.out hjl (hitB ys q A m) _ HM.out, gAdd_ok _ _ hrg.1 hki]
                        have hTk : k < T.length := by have := hTl.out; omega
                        have hgl : k < (T.set k (hitV R j (hitB ys q A m))).length := by rw [List.length_set]; exact hTk
                        have d3 := (hr.drewN 0).cell hgl
                        clear hbit HT
                        go_wp2
                        go_quiet ((go_at_call 117; refine Calls.quiet_of_same (l1Has_any _ _ _ (by omega) (by omega))))
                        have hr3 := hr.drewN nq
                        have hK3 := hK.drewN nq
                        have d5 := hr3.cell hgl
                        rw [getD_set_same T hTk] at d5
                        have d6 := hr3.free k
                        have hs := hr3.set k (bits .or .i64 (hitV R j (hitB ys q A m)) (wrap64 (2 ^ (j : Int).toNat)))
                        have hK4 := hK3.grown (grown_set _ w.heap.size k (.int .i64 (bits .or .i64 (hitV R j (hitB ys q A m)) (wrap64 (2 ^ (j : Int).toNat))))) (by simp)
                        rw [set_set_same] at hs
                        have HS2 : Hid (T.set k (bits .or .i64 (hitV R j (hitB ys q A m)) (wrap64 (2 ^ (j : Int).toNat))) = T.set k (hitV R j (hitB ys q A (m + 1)))) := by show _ = _; rw [HV2.out]
                        rw [HS2.out] at hs
                        clear HS2 HV2 HY hrg hr3 hK3 hr hK d1 d2 d3
                        generalize hitV R j (hitB ys q A m) = y at *
                        go_wp2
                        go_roundw
                        case rel => exact ⟨m + 1, by omega, by go_num, hs, hK4⟩
                        case measure => simp [intOf]; omega
                  · obtain rfl : m = xs.length := by omega
                    rw [← HN.out] at hr
                    go_wp2
                    go_roundw
                    case rel => exact ⟨j + 1, by omega, by go_num, hr, hK⟩
                    case measure => simp [intOf]; omega
              · have HN : Hid (liftR xs ys p (j + 1) = liftR xs ys p j) := liftR_skip (by rw [← HQ.out]; simpa using he)
                rw [← HN.out] at hr
                go_wp2
                go_quiet (fail)
                go_wp2
                go_roundw
                case rel => exact ⟨j + 1, by omega, by go_num, hr.drewN _, hK.drewN _⟩
                case measure => simp [intOf]; omega
            · obtain rfl : j = xs.length := by omega
              rw [HE.out] at hr
              go_wp2
              go_roundw
              case rel => exact ⟨k + 1, by omega, by go_num, hr, hK⟩
              case measure => simp [intOf]; omega
    · obtain rfl : k = xs.length := by omega
      have HQ : Hid (mapK (fun c => liftR xs ys c xs.length) ys xs.length = ys.map (fun c => liftR xs ys c xs.length)) := by
        have := mapK_end (fun c => liftR xs ys c xs.length) ys
        rw [HL.out] at this
        exact this
      go_wp2
      go_ret
      refine ⟨_, rfl, ?_, hK⟩
      rw [← HQ.out]
      exact row_new hr (Nat.le_refl _) ((mapK_len _ ys (by omega)).trans HL.out)
end Go.Proofs.YtkbkdlaknmgjpaaGreat

/- Contracts of the specification's l12Ok and SlowOk. -/
namespace Go.Proofs.YtkbkdlaknmgjpaaGreat
open Go.ChangeShapes Go.WideShapes Go.ChangeAt Go.RowKit

set_option maxRecDepth 100000 in
set_option maxHeartbeats 4000000 in
theorem l12Ok_any (w : World) (vd v vF vR : Value) (dss : List (List Dd)) (es : List Ev) (f rows : List Int) (hd : RdW w vd dss) (h : RdE w v es) (hf : Rd w vF f) (hr : Rd w vR rows) (h3 : 3 ≤ es.length) (hn : es.length ≤ 12) (hm : ∀ i, i < dss.length → (dss.getD i []).length ≤ 1048576) (hin : ∀ j, 3 ≤ j → j < es.length → ∃ i k : Nat, (es.getD j zE).1 = (i : Int) ∧ (es.getD j zE).2.1 = (k : Int) ∧ i < dss.length ∧ k < (dss.getD i []).length) (W : Webs es f rows) (hlr : rows.length ≤ 36) (hrw : ∀ j, j < rows.length → 0 ≤ rows.getD j 0 ∧ rows.getD j 0 < (es.length : Int)) (hl : (idxB rdE es).length ≤ f.length) (hb : ∀ i, i < (idxB rdE es).length → 0 ≤ f.getD i 0 ∧ f.getD i 0 < (es.length : Int)) :
    Calls Tryz.prog 53 #[vd, v, .agg #[vF, vR]] w fun e w' => e = .returned (.bool (!roundB (pwL es f rows) && !roundB (liftL (swL dss es f rows) (clsB es)))) ∧ Keep w w' := by
  have hpw : webB (pwL es f rows) = true := (show Web es.length (pwL es f rows) from (web_four (plc_line hn).1 W.fw W.rw' W.ag).1).b
  have hsw : Web es.length (swL dss es f rows) := (web_four (kep_line (dss := dss) hn).1 (ow_line W).1 W.rw' W.ag).1
  have hcl : (clsB es).length = es.length := by unfold clsB; rw [if_pos hn, List.length_map]
  have hlw := web_lift hsw hcl
  have HL : Hid ((clsB es).map (fun c => liftR (swL dss es f rows) (clsB es) c (swL dss es f rows).length) = liftL (swL dss es f rows) (clsB es)) := Lib.hid (by unfold liftL; rw [if_pos ⟨hsw.b, by rw [hcl, hsw.2.1]⟩])
  have hsl : Web (swL dss es f rows).length (swL dss es f rows) := by rw [hsw.2.1]; exact hsw
  have hcc : (clsB es).length = (swL dss es f rows).length := by rw [hcl, hsw.2.1]
  have hlb : webB (liftL (swL dss es f rows) (clsB es)) = true := hlw.1.b
  have C1 := Lib.hid (fun (U : World) (kU : Keep w U) => l11Web_any U v vF vR es f rows (h.keep kU) (hf.keep kU) (hr.keep kU) hn W hlr hrw hl hb)
  have C2 := Lib.hid (fun (U : World) (kU : Keep w U) => l12Web_any U vd v vF vR dss es f rows (hd.keep kU) (h.keep kU) (hf.keep kU) (hr.keep kU) h3 hn hm hin W hlr hrw hl hb)
  have C3 := Lib.hid (fun (U : World) (kU : Keep w U) => specClassesOf_any U v es (h.keep kU) (by omega))
  clear hlw hsw hcl W hlr hrw hl hb hin hm h3 hd hn
  obtain ⟨aF, cF, rfl, -⟩ := hf
  obtain ⟨aR, cR, rfl, -⟩ := hr
  obtain ⟨ae, ce, rfl, -⟩ := h
  generalize pwL es f rows = PW at *
  generalize swL dss es f rows = SW at *
  generalize clsB es = CL at *
  go_enter Tryz.func53, Tryz.ntmps53
  go_wp2_with fail
  refine (C1.out _ ((Keep.refl w).alloc _)).mono ?_
  rintro e w1 ⟨v1, rfl, o1, k1⟩
  have c0 := box_cell k1 0
  have c1 := box_cell k1 1
  simp at c0 c1
  have z0 := box_size k1
  have K1 := ((Keep.refl w).alloc _).trans k1
  go_wp2_with fail
  refine (l3Round_any _ _ _ _ o1.row hpw).mono ?_
  rintro e w2 ⟨rfl, k2⟩
  have K2 := K1.trans k2
  replace c0 := (k2.cell z0).trans c0
  replace c1 := (k2.cell z0).trans c1
  cases hq : roundB PW
  · go_wp2_with fail
    refine (C2.out _ K2).mono ?_
    rintro e w3 ⟨v3, rfl, o3, k3⟩
    have K3 := K2.trans k3
    go_wp2_with fail
    refine (C3.out _ K3).mono ?_
    rintro e w4 ⟨v4, rfl, o4, k4⟩
    have K4 := K3.trans k4
    go_wp2_with fail
    refine (l3Lift_any _ _ _ SW CL (o3.rd.keep k4) o4.rd hsl hcc).mono ?_
    rw [HL.out]
    rintro e w5 ⟨v5, rfl, o5, k5⟩
    have K5 := K4.trans k5
    go_wp2_with fail
    refine (l3Round_any _ _ _ _ o5 hlb).mono ?_
    rintro e w6 ⟨rfl, k6⟩
    have K6 := K5.trans k6
    go_wp2
    go_ret
    exact ⟨by rw [hq]; rfl, K6⟩
  · go_wp2
    go_ret
    exact ⟨by rw [hq]; rfl, K2⟩
set_option maxRecDepth 100000 in
set_option maxHeartbeats 8000000 in
theorem specSlowOk_any (w : World) (v vF vR : Value) (dss : List (List Dd)) (f rows : List Int) (h : RdW w v dss) (hf : Rd w vF f) (hr : Rd w vR rows) (hcap : rows.length ≤ capZ vR) (hx : dss.length ≤ 1048576) (hm : ∀ i, i < dss.length → (dss.getD i []).length ≤ 1048576) (hfl : f.length ≤ 1048576) (hrl : rows.length ≤ 1048576) :
    Calls Tryz.prog 12 #[v, .agg #[vF, vR]] w fun e w' => e = .returned (.bool (slowB dss f rows)) ∧ Keep w w' := by
  have C := fun (W : World) (kW : Keep w W) => specTaleOk_any W v vF vR dss f rows (h.keep kW) (hf.keep kW) (hr.keep kW) hcap hx hm hfl hrl
  have KK : Keep w ((w.alloc (.cells #[vF, vR] 27)).drew) := ((Keep.refl w).alloc _).drew
  have z1 : w.heap.size < ((w.alloc (.cells #[vF, vR] 27)).drew).heap.size := by rw [heap_drew, heap_size]; omega
  have b0 : ((w.alloc (.cells #[vF, vR] 27)).drew).cell? ⟨w.heap.size, 0, none⟩ = some vF := box_cell (Keep.refl _) 0
  have b1 : ((w.alloc (.cells #[vF, vR] 27)).drew).cell? ⟨w.heap.size, 1, none⟩ = some vR := box_cell (Keep.refl _) 1
  cases hb : taleB dss f rows
  · have HE : Hid (slowB dss f rows = false) := Lib.hid (by rw [slowB, hb]; rfl)
    rw [hb] at C
    obtain ⟨aF, cF, rfl, -⟩ := hf
    obtain ⟨aR, cR, rfl, -⟩ := hr
    go_enter Tryz.func12, Tryz.ntmps12
    go_wp2
    refine wp_region_held_drew (S := (fun w' => w'.cell? ⟨w.heap.size, 0, none⟩ = some (.slice aF f.length cF) ∧ w'.cell? ⟨w.heap.size, 1, none⟩ = some (.slice aR rows.length cR))) (by kernel_rfl) ?_ (fun hHeld => ?_)
    · go_keep
    refine takeH 0 5 (v := ?_) rfl rfl (by kernel_rfl) (by kernel_rfl) (by kernel_rfl) (fun _ _ _ h => h) (by rfl) ?_ (by assumption) ?_
    rotate_left
    · intro wx hSw
      try dsimp only at hSw
      go_simp
      with_reducible rfl
    simp only [Act.put, List.setIfInBounds_toArray, List.set_cons_zero, List.set_cons_succ]
    refine takeH 1 6 (v := ?_) rfl rfl (by kernel_rfl) (by kernel_rfl) (by kernel_rfl) (fun _ _ _ h => h) (by rfl) ?_ (by assumption) ?_
    rotate_left
    · intro wx hSw
      try dsimp only at hSw
      go_simp
      with_reducible rfl
    simp only [Act.put, List.setIfInBounds_toArray, List.set_cons_zero, List.set_cons_succ]
    refine wpAnyH_ready (rs := [2]) (by kernel_rfl) (by simp) ?_
    refine AllReadyH.cons rfl (fun K hK => ?_) AllReadyH.nil
    go_simp
    refine (C _ KK).mono ?_
    rintro e wz ⟨rfl, kk⟩
    have z0 := z1
    have KK := KK.trans kk
    have z1 := Nat.lt_of_lt_of_le z1 kk.size
    go_wp2_with fail
    refine hK.out _ _ ?_ (fun hHeld => ?_)
    · exact ⟨(kk.cell z0).trans hHeld.1, (kk.cell z0).trans hHeld.2⟩
    clear hK K
    refine takeH 3 8 (v := ?_) rfl rfl (by kernel_rfl) (by kernel_rfl) (by kernel_rfl) (fun _ _ _ h => h) (by rfl) ?_ (by assumption) ?_
    rotate_left
    · intro wx hSw
      try dsimp only at hSw
      go_simp
      with_reducible rfl
    simp only [Act.put, List.setIfInBounds_toArray, List.set_cons_zero, List.set_cons_succ]
    refine skipH 4 9 rfl rfl (by kernel_rfl) (by kernel_rfl) (by kernel_rfl) (fun _ _ _ h => h) (by rfl) (by assumption) ?_
    simp only [Act.put, List.setIfInBounds_toArray, List.set_cons_zero, List.set_cons_succ]
    refine skipH 5 10 rfl rfl (by kernel_rfl) (by kernel_rfl) (by kernel_rfl) (fun _ _ _ h => h) (by rfl) (by assumption) ?_
    simp only [Act.put, List.setIfInBounds_toArray, List.set_cons_zero, List.set_cons_succ]
    refine skipH 6 11 rfl rfl (by kernel_rfl) (by kernel_rfl) (by kernel_rfl) (fun _ _ _ h => h) (by rfl) (by assumption) ?_
    simp only [Act.put, List.setIfInBounds_toArray, List.set_cons_zero, List.set_cons_succ]
    refine skipH 7 12 rfl rfl (by kernel_rfl) (by kernel_rfl) (by kernel_rfl) (fun _ _ _ h => h) (by rfl) (by assumption) ?_
    simp only [Act.put, List.setIfInBounds_toArray, List.set_cons_zero, List.set_cons_succ]
    refine skipH 8 13 rfl rfl (by kernel_rfl) (by kernel_rfl) (by kernel_rfl) (fun _ _ _ h => h) (by rfl) (by assumption) ?_
    simp only [Act.put, List.setIfInBounds_toArray, List.set_cons_zero, List.set_cons_succ]
    refine takeH 9 14 (v := ?_) rfl rfl (by kernel_rfl) (by kernel_rfl) (by kernel_rfl) (fun _ _ _ h => h) (by rfl) ?_ (by assumption) ?_
    rotate_left
    · intro wx hSw
      try dsimp only at hSw
      go_simp
      with_reducible rfl
    simp only [Act.put, List.setIfInBounds_toArray, List.set_cons_zero, List.set_cons_succ]
    refine takeH 10 4 (v := ?_) rfl rfl (by kernel_rfl) (by kernel_rfl) (by kernel_rfl) (fun _ _ _ h => h) (by rfl) ?_ (by assumption) ?_
    rotate_left
    · intro wx hSw
      try dsimp only at hSw
      go_simp
      with_reducible rfl
    simp only [Act.put, List.setIfInBounds_toArray, List.set_cons_zero, List.set_cons_succ]
    refine wpAnyH_done (by kernel_rfl) ?_ _
    go_wp2
    go_ret
    exact ⟨by rw [HE.out]; rfl, KK⟩
  · obtain ⟨⟨u1, u2⟩, e1, h12, r2, r3, r4, s1, s2, s3⟩ := tale_facts hb
    have TW := (tale_webs hb).1
    obtain ⟨hbw, _, _⟩ := tale_use hb
    have g3 : 3 ≤ (evsW dss dss.length).length := by
      obtain ⟨⟨t, ht⟩, _⟩ := evs_good u2 dss.length (Nat.le_refl _)
      rw [ht, List.length_append]
      exact Nat.le_add_right _ _
    have hin : ∀ j, 3 ≤ j → j < (evsW dss dss.length).length → ∃ i k : Nat, ((evsW dss dss.length).getD j zE).1 = (i : Int) ∧ ((evsW dss dss.length).getD j zE).2.1 = (k : Int) ∧ i < dss.length ∧ k < (dss.getD i []).length := by
      intro j h3 hj
      obtain ⟨i, k, _, _, _, e1, q1, q2, _⟩ := (events_law hbw).2.2.2.2 j h3 hj
      refine ⟨i, k, ?_, ?_, q1, q2⟩
      · rw [List.getD_eq_getElem?_getD, e1]; rfl
      · rw [List.getD_eq_getElem?_getD, e1]; rfl
    rw [hb] at C
    have CL := fun (W : World) (kW : Keep w W) (v2 : Value) (a2 : RdE W v2 (evsW dss dss.length)) => l12Ok_any W v v2 vF vR dss (evsW dss dss.length) f rows (h.keep kW) a2 (hf.keep kW) (hr.keep kW) g3 h12 hm hin TW r2 r3 (by omega) (fun i hi => s3 i (by omega))
    have HC := Lib.hid CL
    clear CL s1 hin g3 hbw TW
    obtain ⟨aF, cF, rfl, -⟩ := hf
    obtain ⟨aR, cR, rfl, -⟩ := hr
    have HE0 : Hid (slowB dss f rows = (!roundB (pwL (evsW dss dss.length) f rows) && !roundB (liftL (swL dss (evsW dss dss.length) f rows) (clsB (evsW dss dss.length))))) := Lib.hid (by rw [slowB, hb, e1]; rfl)
    clear e1 hb
    generalize (!roundB (pwL (evsW dss dss.length) f rows) && !roundB (liftL (swL dss (evsW dss dss.length) f rows) (clsB (evsW dss dss.length)))) = AN at HE0 HC
    go_enter Tryz.func12, Tryz.ntmps12
    go_wp2
    refine wp_region_held_drew (S := (fun w' => w'.cell? ⟨w.heap.size, 0, none⟩ = some (.slice aF f.length cF) ∧ w'.cell? ⟨w.heap.size, 1, none⟩ = some (.slice aR rows.length cR))) (by kernel_rfl) ?_ (fun hHeld => ?_)
    · go_keep
    refine takeH 0 5 (v := ?_) rfl rfl (by kernel_rfl) (by kernel_rfl) (by kernel_rfl) (fun _ _ _ h => h) (by rfl) ?_ (by assumption) ?_
    rotate_left
    · intro wx hSw
      try dsimp only at hSw
      go_simp
      with_reducible rfl
    simp only [Act.put, List.setIfInBounds_toArray, List.set_cons_zero, List.set_cons_succ]
    refine takeH 1 6 (v := ?_) rfl rfl (by kernel_rfl) (by kernel_rfl) (by kernel_rfl) (fun _ _ _ h => h) (by rfl) ?_ (by assumption) ?_
    rotate_left
    · intro wx hSw
      try dsimp only at hSw
      go_simp
      with_reducible rfl
    simp only [Act.put, List.setIfInBounds_toArray, List.set_cons_zero, List.set_cons_succ]
    refine wpAnyH_ready (rs := [2]) (by kernel_rfl) (by simp) ?_
    refine AllReadyH.cons rfl (fun K hK => ?_) AllReadyH.nil
    go_simp
    refine (C _ KK).mono ?_
    rintro e wz ⟨rfl, kk⟩
    have z0 := z1
    have KK := KK.trans kk
    have z1 := Nat.lt_of_lt_of_le z1 kk.size
    go_wp2_with fail
    refine hK.out _ _ ?_ (fun hHeld => ?_)
    · exact ⟨(kk.cell z0).trans hHeld.1, (kk.cell z0).trans hHeld.2⟩
    clear hK K
    refine takeH 3 8 (v := ?_) rfl rfl (by kernel_rfl) (by kernel_rfl) (by kernel_rfl) (fun _ _ _ h => h) (by rfl) ?_ (by assumption) ?_
    rotate_left
    · intro wx hSw
      try dsimp only at hSw
      go_simp
      with_reducible rfl
    simp only [Act.put, List.setIfInBounds_toArray, List.set_cons_zero, List.set_cons_succ]
    refine takeH 4 9 (v := ?_) rfl rfl (by kernel_rfl) (by kernel_rfl) (by kernel_rfl) (fun _ _ _ h => h) (by rfl) ?_ (by assumption) ?_
    rotate_left
    · intro wx hSw
      try dsimp only at hSw
      go_simp
      with_reducible rfl
    simp only [Act.put, List.setIfInBounds_toArray, List.set_cons_zero, List.set_cons_succ]
    refine takeH 5 10 (v := ?_) rfl rfl (by kernel_rfl) (by kernel_rfl) (by kernel_rfl) (fun _ _ _ h => h) (by rfl) ?_ (by assumption) ?_
    rotate_left
    · intro wx hSw
      try dsimp only at hSw
      go_simp
      with_reducible rfl
    simp only [Act.put, List.setIfInBounds_toArray, List.set_cons_zero, List.set_cons_succ]
    refine takeH 7 12 (v := ?_) rfl rfl (by kernel_rfl) (by kernel_rfl) (by kernel_rfl) (fun _ _ _ h => h) (by rfl) ?_ (by assumption) ?_
    rotate_left
    · intro wx hSw
      try dsimp only at hSw
      go_simp
      with_reducible rfl
    simp only [Act.put, List.setIfInBounds_toArray, List.set_cons_zero, List.set_cons_succ]
    refine wpAnyH_ready (rs := [6]) (by kernel_rfl) (by simp) ?_
    refine AllReadyH.cons rfl (fun K hK => ?_) AllReadyH.nil
    go_simp
    refine (l6Events_any _ _ _ (h.keep KK) u1 u2).mono ?_
    rintro e wz2 ⟨v2, rfl, a2, kk⟩
    have z0 := z1
    have KK := KK.trans kk
    have z1 := Nat.lt_of_lt_of_le z1 kk.size
    have a2r := a2.rd
    obtain ⟨ae, ce, rfl, -⟩ := id a2r
    go_wp2_with fail
    refine hK.out _ _ ?_ (fun hHeld => ?_)
    · exact ⟨(kk.cell z0).trans hHeld.1, (kk.cell z0).trans hHeld.2⟩
    clear hK K
    refine wpAnyH_ready (rs := [8]) (by kernel_rfl) (by simp) ?_
    refine AllReadyH.cons rfl (fun K hK => ?_) AllReadyH.nil
    go_simp
    refine (HC.out _ KK _ a2r).mono ?_
    rintro e wz3 ⟨rfl, kk⟩
    have z0 := z1
    have KK := KK.trans kk
    have z1 := Nat.lt_of_lt_of_le z1 kk.size
    go_wp2_with fail
    refine hK.out _ _ ?_ (fun hHeld => ?_)
    · exact ⟨(kk.cell z0).trans hHeld.1, (kk.cell z0).trans hHeld.2⟩
    clear hK K
    refine takeH 9 14 (v := ?_) rfl rfl (by kernel_rfl) (by kernel_rfl) (by kernel_rfl) (fun _ _ _ h => h) (by rfl) ?_ (by assumption) ?_
    rotate_left
    · intro wx hSw
      try dsimp only at hSw
      go_simp
      with_reducible rfl
    simp only [Act.put, List.setIfInBounds_toArray, List.set_cons_zero, List.set_cons_succ]
    refine takeH 10 4 (v := ?_) rfl rfl (by kernel_rfl) (by kernel_rfl) (by kernel_rfl) (fun _ _ _ h => h) (by rfl) ?_ (by assumption) ?_
    rotate_left
    · intro wx hSw
      try dsimp only at hSw
      go_simp
      with_reducible rfl
    simp only [Act.put, List.setIfInBounds_toArray, List.set_cons_zero, List.set_cons_succ]
    refine wpAnyH_done (by kernel_rfl) ?_ _
    go_wp2
    go_ret
    exact ⟨by rw [HE0.out]; rfl, KK⟩
end Go.Proofs.YtkbkdlaknmgjpaaGreat

/- Contract of the specification's SlowWeb (as PlaceWeb). -/
namespace Go.Proofs.YtkbkdlaknmgjpaaGreat
open Go.ChangeShapes Go.WideShapes Go.ChangeAt Go.RowKit

set_option maxRecDepth 100000 in
set_option maxHeartbeats 2000000 in
theorem specSlowWeb_any (w : World) (v vF vR : Value) (dss : List (List Dd)) (f rows : List Int) (h : RdW w v dss) (hf : Rd w vF f) (hr : Rd w vR rows) (hcap : rows.length ≤ capZ vR) (hx : dss.length ≤ 1048576) (hm : ∀ i, i < dss.length → (dss.getD i []).length ≤ 1048576) (hfl : f.length ≤ 1048576) (hrl : rows.length ≤ 1048576) :
    Calls Tryz.prog 14 #[v, .agg #[vF, vR]] w fun e w' => ∃ v', e = .returned v' ∧ Row w' w.heap.size v' (swB dss f rows) ∧ Keep w w' := by
  have C := fun (W : World) (kW : Keep w W) => specTaleOk_any W v vF vR dss f rows (h.keep kW) (hf.keep kW) (hr.keep kW) hcap hx hm hfl hrl
  have b0 : (w.alloc (.cells #[vF, vR] 27)).cell? ⟨w.heap.size, 0, none⟩ = some vF := box_cell (Keep.refl _) 0
  have b1 : (w.alloc (.cells #[vF, vR] 27)).cell? ⟨w.heap.size, 1, none⟩ = some vR := box_cell (Keep.refl _) 1
  cases hb : taleB dss f rows
  · have HE : Hid (swB dss f rows = []) := Lib.hid (by rw [swB, hb]; rfl)
    rw [hb] at C
    obtain ⟨aF, cF, rfl, -⟩ := hf
    obtain ⟨aR, cR, rfl, -⟩ := hr
    go_enter Tryz.func14, Tryz.ntmps14
    go_wp2_with fail
    refine (C _ ((Keep.refl w).alloc _)).mono ?_
    rintro e w1 ⟨rfl, k1⟩
    have s1 := k1.size
    rw [heap_size] at s1
    go_wp2
    go_ret
    exact ⟨_, rfl, by rw [HE.out]; exact (row_empty w1 _).base_le (by omega), (((Keep.refl w).alloc _).trans k1).alloc _⟩
  · obtain ⟨⟨u1, u2⟩, e1, h12, r2, r3, r4, s1, s2, s3⟩ := tale_facts hb
    have HE : Hid (swB dss f rows = swL dss (evsW dss dss.length) f rows) := Lib.hid (by rw [swB, if_pos hb, e1])
    have TW := (tale_webs hb).1
    obtain ⟨hbw, _, _⟩ := tale_use hb
    have g3 : 3 ≤ (evsW dss dss.length).length := by
      obtain ⟨⟨t, ht⟩, _⟩ := evs_good u2 dss.length (Nat.le_refl _)
      rw [ht, List.length_append]
      exact Nat.le_add_right _ _
    have hin : ∀ j, 3 ≤ j → j < (evsW dss dss.length).length → ∃ i k : Nat, ((evsW dss dss.length).getD j zE).1 = (i : Int) ∧ ((evsW dss dss.length).getD j zE).2.1 = (k : Int) ∧ i < dss.length ∧ k < (dss.getD i []).length := by
      intro j h3 hj
      obtain ⟨i, k, _, _, _, e1, q1, q2, _⟩ := (events_law hbw).2.2.2.2 j h3 hj
      refine ⟨i, k, ?_, ?_, q1, q2⟩
      · rw [List.getD_eq_getElem?_getD, e1]; rfl
      · rw [List.getD_eq_getElem?_getD, e1]; rfl
    rw [hb] at C
    have CL := fun (W : World) (kW : Keep w W) (v2 : Value) (a2 : RdE W v2 (evsW dss dss.length)) => l12Web_any W v v2 vF vR dss (evsW dss dss.length) f rows (h.keep kW) a2 (hf.keep kW) (hr.keep kW) g3 h12 hm hin TW r2 r3 (by omega) (fun i hi => s3 i (by omega))
    have HC := Lib.hid CL
    have HS1 := Lib.hid s1
    clear CL s1 e1 hb TW hin g3 hbw
    obtain ⟨aF, cF, rfl, -⟩ := hf
    obtain ⟨aR, cR, rfl, -⟩ := hr
    go_enter Tryz.func14, Tryz.ntmps14
    go_wp2_with fail
    refine (C _ ((Keep.refl w).alloc _)).mono ?_
    rintro e w1 ⟨rfl, k1⟩
    have K1 := ((Keep.refl w).alloc _).trans k1
    have c0 := box_cell k1 0
    have c1 := box_cell k1 1
    simp at c0 c1
    have z0 := box_size k1
    have z1 : w.heap.size < w1.drew.heap.size := z0
    have sz := K1.size
    clear k1 b0 b1 C
    go_wp2_with fail
    go_region_held3 (fun w' => w'.cell? ⟨w.heap.size, 0, none⟩ = some (.slice aF f.length cF) ∧ w'.cell? ⟨w.heap.size, 1, none⟩ = some (.slice aR rows.length cR))
      (first | go_keep | (go_split_ands; refine ⟨?_, ?_⟩ <;> (rw [kk.cell (by assumption)]; assumption)))
      ((first
        | (go_at_call 54; refine (l6Events_any _ _ _ (h.keep K1.drew) u1 u2).mono ?_; rintro e wz ⟨v2, rfl, a2, kk⟩; have z2 : w.heap.size < wz.heap.size := Nat.lt_of_lt_of_le z1 kk.size; have K2 := K1.drew.trans kk)
        | (go_at_call 55; refine (HC.out _ K2 _ a2.rd).mono ?_; clear kk; rintro e wy ⟨v3, rfl, o3, kk⟩)))
    all_goals
      go_wp2
      go_ret
      exact ⟨_, rfl, by rw [HE.out]; exact (o3.base_le (by have := K2.size; omega)).row, K2.trans kk⟩
end Go.Proofs.YtkbkdlaknmgjpaaGreat

/- Contract of the specification's FromOthers (as FromWeb). -/
namespace Go.Proofs.YtkbkdlaknmgjpaaGreat
open Go.ChangeShapes Go.WideShapes Go.ChangeAt Go.RowKit

theorem specFromOthers_any (w : World) (v vf : Value) (dss : List (List Dd)) (f : List Int) (h : RdW w v dss) (hf : Rd w vf f) (hx : dss.length ≤ 1048576) (hm : ∀ i, i < dss.length → (dss.getD i []).length ≤ 1048576) (hfl : f.length ≤ 1048576) :
    Calls Tryz.prog 15 #[v, vf] w fun e w' => ∃ v', e = .returned v' ∧ Row w' w.heap.size v' (owB dss f) ∧ Keep w w' := by
  cases hs : sourceB dss f
  · have HE : Hid (owB dss f = []) := Lib.hid (by rw [owB, hs]; rfl)
    have C := specSourceOk_any w v vf dss f h hf hx hm hfl
    rw [hs] at C
    go_enter Tryz.func15, Tryz.ntmps15
    go_wp2_with fail
    refine C.mono ?_
    rintro e w1 ⟨rfl, k1⟩
    have s1 := k1.size
    go_wp2
    go_ret
    exact ⟨_, rfl, by rw [HE.out]; exact (row_empty w1 _).base_le s1, k1.alloc _⟩
  · have hs2 := hs
    rw [sourceB, Bool.and_eq_true] at hs2
    obtain ⟨hb, hs2⟩ := hs2
    rw [eventsB, if_pos hb] at hs2
    have HE : Hid (owB dss f = owL (evsW dss dss.length) f) := Lib.hid (by rw [owB, if_pos hs, eventsB, if_pos hb])
    obtain ⟨u1, u2⟩ := workB_useQ hb
    have h12 := (events_law hb).1
    obtain ⟨sl, su⟩ := src_use h12 hs2
    have g3 : 3 ≤ (evsW dss dss.length).length := by
      obtain ⟨⟨t, ht⟩, _⟩ := evs_good u2 dss.length (Nat.le_refl _)
      rw [ht, List.length_append]
      exact Nat.le_add_right _ _
    have HW : Hid (Web (evsW dss dss.length).length (fwL (evsW dss dss.length) f)) := Lib.hid (fw_line (n := (evsW dss dss.length).length) (rs := idxB rdE (evsW dss dss.length)) (f := f) h12 (idxB rdE (evsW dss dss.length)).length (fun i hi => rd_in h12 hi) (fun i hi => (su i hi).1)).1
    have C := specSourceOk_any w v vf dss f h hf hx hm hfl
    rw [hs] at C
    go_enter Tryz.func15, Tryz.ntmps15
    go_wp2_with fail
    refine C.mono ?_
    rintro e w1 ⟨rfl, k1⟩
    have s1 := k1.size
    go_wp2_with fail
    refine (l6Events_any _ _ _ (h.keep k1) u1 u2).mono ?_
    rintro e w2 ⟨v2, rfl, a2, k2⟩
    have s2 := k2.size
    go_wp2_with fail
    refine (l12Others_any _ _ _ _ _ a2.rd (hf.keep (k1.trans k2)) g3 h12 HW.out (by omega) (fun i hi => (su i hi).1)).mono ?_
    rintro e w3 ⟨v3, rfl, r3, k3⟩
    go_wp2
    go_ret
    exact ⟨_, rfl, by rw [HE.out]; exact r3.base_le (by omega), (k1.trans k2).trans k3⟩
end Go.Proofs.YtkbkdlaknmgjpaaGreat
