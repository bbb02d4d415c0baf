/- Contract of the specification's l10Outcome: what each read is from, and the last of each row. -/
import Derived.Test.YtgolhjmbloiakaaMB
import Derived.Test.YtgolhjmbloiakaaRwS
import Derived.Test.YtgolhjmbloiakaaMC
import Derived.Test.YtgolhjmbloiakaaCopyS
import Derived.Test.YtgolhjmbloiakaaMA
import Derived.Deep.Cut
namespace Go.Proofs.Ytgolhjmbloiakaa
open Go.ChangeShapes Go.WideShapes Go.ChangeAt Go.RowKit

theorem made_oc : (madeCells (Value.int .i64 0).cells (3 * 1)).toList = (([0, 0, 0] : List Int).map (Value.int .i64)) := by
  rw [Nat.mul_one]
  exact (toList_madeCells_one _ _).trans rfl
set_option maxRecDepth 100000 in
set_option maxHeartbeats 4000000 in
theorem l10Outcome_any (w : World) (v vF vR : Value) (es : List Ev) (f rows : List Int) (h : RdE w v es) (hf : Rd w vF f) (hr : Rd w vR rows) (hn : es.length ≤ 12) (hlr : rows.length ≤ 36) (hrw : ∀ j, j < rows.length → 0 ≤ rows.getD j 0 ∧ rows.getD j 0 < (es.length : Int)) (hpl : ∀ j, j < rows.length → 0 ≤ plE es (rows.getD j 0) ∧ plE es (rows.getD j 0) ≤ 2) (hl : f.length ≤ 12) (hb : ∀ i, i < f.length → 0 ≤ f.getD i 0 ∧ f.getD i 0 < (es.length : Int)) :
    Calls Try.prog 72 #[v, .agg #[vF, vR]] w fun e w' => ∃ v', e = .returned v' ∧ Own w' w.heap.size v' (ocL es f rows) ∧ Keep w w' := by
  obtain ⟨a, c, rfl, h⟩ := h
  have HF := Lib.hid hf
  have HR := Lib.hid hr
  obtain ⟨aF, cF, rfl, -⟩ := hf
  obtain ⟨aR, cR, rfl, -⟩ := hr
  obtain ⟨i0, hi, hz0, hz1, hz2⟩ := info_parts Try.infoI
  have HL : Hid (ocL es f rows = ocK es f f.length ++ lastK es rows rows.length) := Lib.hid rfl
  have HRW := Lib.hid hrw
  have HPL := Lib.hid hpl
  have HB := Lib.hid hb
  clear hrw hpl hb
  go_enter Try.func72, Try.ntmps72
  go_upto_region 1 with fail
  obtain ⟨wB, hwB⟩ : ∃ W : World, W = w.alloc (.cells #[.slice aF f.length cF, .slice aR rows.length cR] 29) := ⟨_, rfl⟩
  have kB : Keep w wB := by rw [hwB]; exact (Keep.refl w).alloc _
  have sB : wB.heap.size = w.heap.size + 1 := by rw [hwB]; exact heap_size _ _
  have b0 : wB.cell? ⟨w.heap.size, 0, none⟩ = some (.slice aF f.length cF) := by rw [hwB]; exact box_cell (Keep.refl _) 0
  have b1 : wB.cell? ⟨w.heap.size, 1, none⟩ = some (.slice aR rows.length cR) := by rw [hwB]; exact box_cell (Keep.refl _) 1
  rw [← hwB]
  clear hwB
  have SB := Lib.hid sB
  have lB : w.heap.size < wB.heap.size := by omega
  clear sB
  have hown0 : Own (wB.alloc (.cells #[] 2)) wB.heap.size (.slice (some ⟨wB.heap.size, 0, none⟩) 0 0) [] := World.ownsRow_lit wB #[] 0 (Nat.le_refl _) (by decide) rfl
  go_wp2
  go_loopw [5, 6] (fun v0 i wr => ∃ (k : Nat) (v : Value), v = v0 ∧ k ≤ f.length ∧ i = .int .i64 k ∧ Own wr wB.heap.size v (ocK es f k) ∧ Keep wB wr) (fun _ i _ => f.length - (intOf i).toNat)
  case atStart => exact ⟨0, _, rfl, Nat.zero_le _, rfl, hown0, (Keep.refl _).alloc _⟩
  case round =>
    obtain ⟨k, v, rfl, hk, rfl, ho, hK⟩ := hrel
    clear hown0
    have d5 := (hK.cell lB).trans b0
    by_cases hlt : k < f.length
    · obtain ⟨t, ht0⟩ := Int.eq_ofNat_of_zero_le (HB.out k hlt).1
      have hte : t < es.length := by have := (HB.out k hlt).2; omega
      rcases h with h0 | ⟨b, off, rfl, hb, hc⟩
      · exfalso; rw [h0] at hte; simp at hte
      have HM : Hid (ocK es f (k + 1) = ocK es f k ++ [(es.getD t zE).2.2.2.2.1]) := Lib.hid (by
        rw [ocK, vlE, ht0, Int.toNat_natCast])
      have AT := (hc t _ (evs_get hte)).keep hb (kB.trans hK)
      obtain ⟨e, he⟩ : ∃ e, e = es.getD t zE := ⟨_, rfl⟩
      rw [← he] at AT HM
      clear he
      obtain ⟨x0, x1, x2, x3, x4, x5⟩ := e
      obtain ⟨-, -, -, -, A4, -⟩ := atE AT
      clear AT hc
      simp only at HM
      have hF := (HF.out.keep kB).keep hK
      obtain ⟨a2, c2, he2, hF'⟩ := hF
      simp only [Value.slice.injEq, true_and] at he2
      obtain ⟨rfl, rfl⟩ := he2
      rcases hF' with h0 | ⟨bf, of', rfl, hbf, hcf⟩
      · exfalso; rw [h0] at hlt; simp at hlt
      have d4 := hcf k hlt
      rw [ht0] at d4
      clear hcf ht0
      have hml : (ocK es f k).length ≤ k := by rw [ocK_len]; omega
      have hsz := hK.size
      have i1 : (0 : Int) ≤ (k : Int) := Int.natCast_nonneg _
      have i2 : (k : Int) < (f.length : Int) := by omega
      have j1 : (0 : Int) ≤ (t : Int) := Int.natCast_nonneg _
      have j2 : (t : Int) < (es.length : Int) := by omega
      have l2 : (es.length : Int) ≤ 12 := by omega
      have l3 : (f.length : Int) ≤ 12 := by omega
      go_wp2_with (at_builtin; refine wpList_append_own _ rfl _ _ 27 rfl wB.heap.size 2 i0 (.int .i64 0) 1 8 Try.underlying27 hi hz0 hz1 hz2 rfl (by decide) _ _ _ rfl (World.ownsRow.alloc ho _) ⟨_, 0, none⟩ 1 1 [.int .i64 x4] rfl rfl ?c1 ?c2 ?c3 ?c4 ?c5 ?_)
      case c1 =>
        intro j u hj
        match j, hj with
        | 0, hj => simp at hj; subst hj; simp [Addr.add]
      case c2 => intro u hu; simp at hu; subst hu; rfl
      case c3 => unfold maxLen; omega
      case c4 => omega
      case c5 => simp; omega
      intro v' w1 hown' hgrow _
      have hK1 : Keep wB w1 := (hK.alloc _).grown hgrow ho.ge
      clear hgrow
      go_wp2
      go_roundw
      case rel => exact ⟨k + 1, _, rfl, by omega, by go_num, by rw [HM.out]; exact own_hit hown', hK1⟩
      case measure => simp [intOf]; omega
    · obtain rfl : k = f.length := by omega
      obtain ⟨wq, hwq⟩ : ∃ W : World, W = wr := ⟨_, rfl⟩
      subst hwq
      go_wp2_with (at_make; refine wpList_make_full _ rfl _ _ 27 rfl wq.heap.size 2 i0 (.int .i64 0) 1 Try.underlying27 hi hz0 hz1 .i64 .i64 _ _ 3 rfl rfl rfl rfl (by rw [hz2]; omega) (by unfold maxLen; omega) (Nat.le_refl _) ?_; intro w1 hown hgrow)
      rw [made_oc] at hown
      have k1 : Keep wq w1 := (Keep.refl wq).grown hgrow (by simp)
      have rb : RowAt w1 wq.heap.size (lastK es rows 0) := by
        have o : Own w1 wq.heap.size (.slice (some ⟨wq.heap.size, 0, none⟩) 3 3) [0, 0, 0] := by
          unfold Own; simpa using hown
        rcases o.row with ⟨e, _⟩ | ⟨g, cap, e, _, hr⟩
        · cases e
        · have e1 := congrArg Value.ownBlock e
          simp [Value.ownBlock] at e1
          rw [e1]; exact hr
      clear hgrow hown d5
      have hml : (ocK es f f.length).length ≤ 12 := by rw [ocK_len]; omega
      have NO : v.ownBlock = none ∨ v.ownBlock ≠ some wq.heap.size := by
        cases hu : v.ownBlock with
        | none => exact .inl rfl
        | some k => exact .inr (fun e => by have := (World.ownsRow.lt ho k hu).2; have := Option.some.inj e; omega)
      have ho1 := ho.keep k1
      have K1 := hK.trans k1
      have sq := hK.size
      generalize ocK es f f.length = OC at HL ho1 hml
      clear ho k1
      go_wp2
      go_loopw [8] (fun i wr => ∃ k : Nat, k ≤ rows.length ∧ i = .int .i64 k ∧ RowAt wr wq.heap.size (lastK es rows k) ∧ Own wr wB.heap.size v OC ∧ Keep wB wr) (fun i _ => rows.length - (intOf i).toNat)
      case atStart => exact ⟨0, Nat.zero_le _, rfl, rb, ho1, K1⟩
      case round =>
        clear rb ho1 K1 hK
        obtain ⟨k, hk, rfl, hr, ho, hK⟩ := hrel
        have d5 := (hK.cell lB).trans b1
        by_cases hlt : k < rows.length
        · obtain ⟨x, hx0⟩ := Int.eq_ofNat_of_zero_le (HRW.out k hlt).1
          have hxe : x < es.length := by have := (HRW.out k hlt).2; omega
          obtain ⟨p, hp0⟩ := Int.eq_ofNat_of_zero_le (HPL.out k hlt).1
          have hp2 : p < 3 := by have := (HPL.out k hlt).2; omega
          rcases h with h0 | ⟨b, off, rfl, hb, hc⟩
          · exfalso; rw [h0] at hxe; simp at hxe
          have HM : Hid (lastK es rows (k + 1) = (lastK es rows k).set p (es.getD x zE).2.2.2.2.1) := Lib.hid (by
            rw [lastK, hp0, Int.toNat_natCast, vlE, hx0, Int.toNat_natCast])
          have HP : (es.getD x zE).2.2.2.1 = (p : Int) := by
            rw [← hp0, plE, hx0, Int.toNat_natCast]
          have AT := (hc x _ (evs_get hxe)).keep hb (kB.trans hK)
          obtain ⟨e, he⟩ : ∃ e, e = es.getD x zE := ⟨_, rfl⟩
          rw [← he] at AT HM HP
          clear he
          obtain ⟨x0, x1, x2, x3, x4, x5⟩ := e
          simp only at HM HP
          subst HP
          obtain ⟨-, -, -, A3, A4, -⟩ := atE AT
          clear AT hc hp0
          have hF := (HR.out.keep kB).keep hK
          obtain ⟨a2, c2, he2, hF'⟩ := hF
          simp only [Value.slice.injEq, true_and] at he2
          obtain ⟨rfl, rfl⟩ := he2
          rcases hF' with h0 | ⟨bf, of', rfl, hbf, hcf⟩
          · exfalso; rw [h0] at hlt; simp at hlt
          have d4 := hcf k hlt
          rw [hx0] at d4
          clear hcf hx0
          have d2 := hr.free p
          have d7 := hr.cell (j := p) (by rw [lastK_len]; exact hp2)
          have hsz := hK.size
          have i1 : (0 : Int) ≤ (k : Int) := Int.natCast_nonneg _
          have i2 : (k : Int) < (rows.length : Int) := by omega
          have j1 : (0 : Int) ≤ (x : Int) := Int.natCast_nonneg _
          have j2 : (x : Int) < (es.length : Int) := by omega
          have j3 : (0 : Int) ≤ (p : Int) := Int.natCast_nonneg _
          have j4 : (p : Int) < 3 := by omega
          have l2 : (es.length : Int) ≤ 12 := by omega
          have l3 : (rows.length : Int) ≤ 36 := by omega
          go_wp2
          go_region
          all_goals
            go_wp2
            go_roundw
            case rel =>
              refine ⟨k + 1, by omega, by go_num, ?_, ?_, ?_⟩
              · rw [HM.out]; exact hr.drew.set p _
              · exact (ho.kept (grown_drew wr (some wq.heap.size)) NO).kept (grown_set _ wq.heap.size p _) NO
              · exact (hK.drew).grown (grown_set _ wq.heap.size p _) (by simp; omega)
            case measure => simp [intOf]; omega
        · obtain rfl : k = rows.length := by omega
          have CC := rd_cells (w := wr) (b := wq.heap.size) (off := 0) (zs := lastK es rows rows.length) (fun i hi => by rw [Nat.zero_add]; exact hr.cell hi)
          have hll := lastK_len es rows rows.length
          have hsz := hK.size
          go_wp2_with (at_builtin; refine wpList_append_own _ rfl _ _ 27 rfl wB.heap.size 2 i0 (.int .i64 0) 1 8 Try.underlying27 hi hz0 hz1 hz2 rfl (by decide) _ _ _ rfl ho ⟨wq.heap.size, 0, none⟩ 3 3 ((lastK es rows rows.length).map (Value.int .i64)) rfl (by rw [List.length_map, hll]) ?e1 ?e2 ?e3 ?e4 ?e5 ?_)
          case e1 => exact CC
          case e2 => exact ints_one _
          case e3 => unfold maxLen; omega
          case e4 => omega
          case e5 => omega
          intro v' w3 hown' hgrow _
          have k3 : Keep wB w3 := hK.grown hgrow ho.ge
          have o3 : Own w3 wB.heap.size v' (OC ++ lastK es rows rows.length) := by unfold Own; rw [List.length_append, hll, List.map_append]; exact hown'
          clear hgrow hown'
          go_wp2
          go_ret
          exact ⟨_, rfl, by rw [HL.out]; exact o3.base_le (by have := SB.out; omega), kB.trans k3⟩
end Go.Proofs.Ytgolhjmbloiakaa
