/- Contract of the program's pageOf: the page of a tale. -/
import Derived.Test.YtgolhjmbloiakaaPagePlain
import Derived.Test.YtgolhjmbloiakaaPgAt
import Derived.Test.YtgolhjmbloiakaaSrcOkI
import Derived.Test.YtgolhjmbloiakaaRokI
import Derived.Test.YtgolhjmbloiakaaMB
import Derived.Test.YtgolhjmbloiakaaMC
namespace Go.Proofs.Ytgolhjmbloiakaa
open Go.ChangeShapes Go.WideShapes Go.ChangeAt Go.RowKit

theorem pg_zero : pgC (List.replicate 12 0) = #[.int .i64 0, .int .i64 0, .int .i64 0, .int .i64 0, .int .i64 0, .int .i64 0, .int .i64 0, .int .i64 0, .int .i64 0, .int .i64 0, .int .i64 0, .int .i64 0] := rfl
set_option maxRecDepth 100000 in
set_option maxHeartbeats 4000000 in
theorem pageOf_any (w : World) (v vF vR : Value) (dss : List (List Dd)) (f rows : List Int) (h : RdW w v dss) (hf : Rd w vF f) (hr : Rd w vR rows) (hcap : rows.length ≤ capZ vR) (hx : dss.length ≤ 1048576) (hm : ∀ i, i < dss.length → (dss.getD i []).length ≤ 1048576) (hfl : f.length ≤ 1048576) (hrl : rows.length ≤ 1048576) :
    Calls Try.prog 52 #[v, .agg #[vF, vR]] w fun e w' => e = .returned (pgV (pageB dss f rows)) ∧ Keep w w' := by
  have CS := fun (W : World) (kW : Keep w W) => implSourceOk_any W v vF dss f (h.keep kW) (hf.keep kW) hx hm hfl
  have CR := fun (W : World) (kW : Keep w W) => implRowsOk_any W v vR dss rows (h.keep kW) (hr.keep kW) hcap hx hm hrl
  have HT : Hid (taleB dss f rows = (sourceB dss f && rowsB dss rows)) := Lib.hid rfl
  have C0 : (pgC (List.replicate 12 0)).size = 12 := rfl
  obtain ⟨aF, cF, rfl, -⟩ := id hf
  obtain ⟨aR, cR, rfl, -⟩ := id hr
  obtain ⟨W3, hW3⟩ : ∃ W3, W3 = (((w.alloc (.cells #[.slice aF f.length cF, .slice aR rows.length cR] 29)).alloc (.cells (pgC (List.replicate 12 0)) 63)).alloc (.cells (pgC (List.replicate 12 0)) 63)) := ⟨_, rfl⟩
  have K0 : Keep w W3 := by rw [hW3]; exact (((Keep.refl w).alloc _).alloc _).alloc _
  have z0 : W3.heap.size = w.heap.size + 3 := by rw [hW3]; simp
  have c0 : W3.cell? ⟨w.heap.size, 0, none⟩ = some (.slice aF f.length cF) := by rw [hW3]; exact box_cell (((Keep.refl _).alloc _).alloc _) 0
  have c1 : W3.cell? ⟨w.heap.size, 1, none⟩ = some (.slice aR rows.length cR) := by rw [hW3]; exact box_cell (((Keep.refl _).alloc _).alloc _) 1
  have p1 : Pg W3 (w.heap.size + 1) (List.replicate 12 0) := by
    have := (Pg.new (w := w.alloc (.cells #[.slice aF f.length cF, .slice aR rows.length cR] 29)) (List.replicate 12 0)).keep ((Keep.refl _).alloc (.cells (pgC (List.replicate 12 0)) 63))
    rw [heap_size] at this
    rw [hW3]; exact this
  have p2 : Pg W3 (w.heap.size + 1 + 1) (List.replicate 12 0) := by
    have := (Pg.new (w := (w.alloc (.cells #[.slice aF f.length cF, .slice aR rows.length cR] 29)).alloc (.cells (pgC (List.replicate 12 0)) 63)) (List.replicate 12 0))
    rw [heap_size, heap_size] at this
    rw [hW3]; exact this
  generalize hS : sourceB dss f = S at CS HT
  generalize hR : rowsB dss rows = R at CR HT
  have HW : Hid (W3 = (((w.alloc (.cells #[.slice aF f.length cF, .slice aR rows.length cR] 29)).alloc (.cells (pgC (List.replicate 12 0)) 63)).alloc (.cells (pgC (List.replicate 12 0)) 63))) := Lib.hid hW3
  have HF : (S && R) = false → ∀ (W : World), Keep W3 W → Hid (Keep w (W.setRow (w.heap.size + 1) (pgC (List.replicate 12 0))) ∧ (W.setRow (w.heap.size + 1) (pgC (List.replicate 12 0))).heap[w.heap.size + 1]? = some (.cells (pgC (List.replicate 12 0)) 63 (0, 0)) ∧ pageB dss f rows = List.replicate 12 0) := fun e W kW => Lib.hid ⟨(K0.trans kW).grown (grown_setRow _ _ _) (fun k hk => by have := Option.some.inj hk; omega), heap_setRow_same _ _ _ _ _ (p1.keep kW), by rw [pageB, HT.out, e]; rfl⟩
  have BT : Hid (W3.heap[w.heap.size]? = some (taleC (.slice aF f.length cF) (.slice aR rows.length cR))) := Lib.hid (by rw [hW3]; exact box_heap (((Keep.refl _).alloc _).alloc _))
  clear hW3
  have B0 := Lib.hid c0
  have B1 := Lib.hid c1
  have P1 := Lib.hid p1
  have P2 := Lib.hid p2
  clear c0 c1 p1 p2
  go_enter Try.func52, Try.ntmps52
  go_wp2_with fail
  rw [← pg_zero, ← HW.out]
  refine (CS _ K0).mono ?_
  rintro e w1 ⟨rfl, k1⟩
  have c0 := (k1.cell (by omega)).trans B0.out
  have c1 := (k1.cell (by omega)).trans B1.out
  cases S
  · have HF := HF rfl _ k1
    clear c0 c1
    have q1 := P1.out.keep k1
    have q2 := P2.out.keep k1
    unfold Pg at q1 q2
    go_wp2_with (first | refine wpList_load_row rfl 63 _ rfl (w.heap.size + 1 + 1) rfl 63 _ (0, 0) _ q2 Try.underlying63 rfl (by rw [C0]; exact page_info) ?_ | refine wpList_store_row rfl 63 _ _ rfl (w.heap.size + 1) _ rfl rfl 63 _ q1 (by rw [C0]; exact page_info) rfl (pg_one _) ?_)
    refine bodyPost_ret (results_row (by rfl) _ _ (w.heap.size + 1) 63 _ (0, 0) _ rfl HF.out.2.1 Try.underlying63 rfl (by rw [C0]; exact page_info)) rfl ?_
    exact ⟨by rw [HF.out.2.2], HF.out.1⟩
  · go_wp2_with fail
    refine (CR _ (K0.trans k1)).mono ?_
    rintro e w2 ⟨rfl, k2⟩
    have k12 := k1.trans k2
    replace c0 := (k2.cell (by have := k1.size; omega)).trans c0
    replace c1 := (k2.cell (by have := k1.size; omega)).trans c1
    cases R
    · have HF := HF rfl _ k12
      clear c0 c1
      have q1 := P1.out.keep k12
      have q2 := P2.out.keep k12
      unfold Pg at q1 q2
      go_wp2_with (first | refine wpList_load_row rfl 63 _ rfl (w.heap.size + 1 + 1) rfl 63 _ (0, 0) _ q2 Try.underlying63 rfl (by rw [C0]; exact page_info) ?_ | refine wpList_store_row rfl 63 _ _ rfl (w.heap.size + 1) _ rfl rfl 63 _ q1 (by rw [C0]; exact page_info) rfl (pg_one _) ?_)
      refine bodyPost_ret (results_row (by rfl) _ _ (w.heap.size + 1) 63 _ (0, 0) _ rfl HF.out.2.1 Try.underlying63 rfl (by rw [C0]; exact page_info)) rfl ?_
      exact ⟨by rw [HF.out.2.2], HF.out.1⟩
    · have hT : taleB dss f rows = true := by rw [HT.out]; rfl
      obtain ⟨hx12, sl, f12, r36, -, -, ru, fu, -⟩ := page_use hT
      have HE : Hid (pageB dss f rows = pgK (idxB rdE (eventsB dss)) f (sitS rows rows.length) (idxB rdE (eventsB dss)).length) := Lib.hid (by rw [pageB, if_pos hT]; rfl)
      have RU := Lib.hid ru
      have FU := Lib.hid fu
      have SL := Lib.hid sl
      clear HF hT ru fu sl CS CR HT HW
      have K2 := K0.trans k12
      have q1 := P1.out.keep k12
      have q2 := P2.out.keep k12
      have z2 := k12.size
      have BT : Hid (w2.heap[w.heap.size]? = some (taleC (.slice aF f.length cF) (.slice aR rows.length cR))) := Lib.hid ((Below.block k12 _ (by omega)).trans BT.out)
      have Q1 := Lib.hid q1
      clear P1 P2 q1 k1 k2 k12
      go_wp2
      clear c0 c1
      go_loopw [26] (fun i wr => ∃ k : Nat, k ≤ rows.length ∧ i = .int .i64 k ∧ Pg wr (w.heap.size + 1 + 1) (sitS rows k) ∧ w2.grownBy wr (some (w.heap.size + 1 + 1))) (fun i _ => rows.length - (intOf i).toNat)
      case atStart => exact ⟨0, Nat.zero_le _, rfl, q2, World.grownBy.refl _ _⟩
      case round =>
        obtain ⟨k, hk, rfl, hp, G⟩ := hrel
        clear q2
        have K3 : Keep w wr := K2.grown G (fun j hj => by have := Option.some.inj hj; omega)
        by_cases hlt : k < rows.length
        · have hrk := hr.keep K3
          obtain ⟨a', c', he', hrk⟩ := hrk
          simp only [Value.slice.injEq, true_and] at he'
          obtain ⟨rfl, rfl⟩ := he'
          rcases hrk with h0 | ⟨bf, off, rfl, hbf, hcf'⟩
          · exfalso; rw [h0] at hlt; simp at hlt
          obtain ⟨rb, hrb⟩ := Int.eq_ofNat_of_zero_le (RU.out k hlt).1
          have hrbl : rb < 12 := by have := (RU.out k hlt).2; omega
          have d1 := hcf' k hlt
          rw [hrb] at d1
          have HN : Hid (sitS rows (k + 1) = (sitS rows k).set rb (k : Int)) := Lib.hid (by rw [sitS, hrb, Int.toNat_natCast])
          have hl : (sitS rows k).length = 12 := sitS_len _ _
          have d2 := hp.cell (j := rb) (by omega)
          have d3 := hp.free rb
          generalize sitS rows k = S0 at hp HN hl d2
          have i1 : (0 : Int) ≤ (k : Int) := Int.natCast_nonneg _
          have i2 : (k : Int) < (rows.length : Int) := by omega
          have j1 : (0 : Int) ≤ (rb : Int) := Int.natCast_nonneg _
          have j2 : (rb : Int) < 12 := by omega
          clear hcf' hl hrb
          go_wp2
          go_roundw
          case rel => exact ⟨k + 1, by omega, by go_num, by rw [HN.out]; exact hp.set rb _, grown_trans G (grown_set _ _ _ _)⟩
          case measure => simp [intOf]; omega
        · obtain rfl : k = rows.length := by omega
          go_wp2_with fail
          refine (implEventsOf_any _ _ _ (h.keep K3) hx hm).mono ?_
          rintro e w4 ⟨v4, rfl, a4, k4⟩
          have bt := (G.block w.heap.size (by omega) (fun e => by have := Option.some.inj e; omega)).trans BT.out
          have q1 := Q1.out.kept G (fun e => by have := Option.some.inj e; omega)
          have zr := G.size
          have re := a4.rd
          go_wp2_with fail
          refine (implReadsOf_any _ _ _ re (by omega)).mono ?_
          rintro e w5 ⟨v5, rfl, o5, k5⟩
          have K5 := (K3.trans k4).trans k5
          have k45 := k4.trans k5
          replace bt := (Below.block k45 _ (by omega)).trans bt
          replace q1 := q1.keep k45
          replace hp := hp.keep k45
          have z4 := k4.size
          have hB : w.heap.size + 1 + 1 < w4.heap.size := by omega
          have z5 := k5.size
          clear re a4 k4 k5 k45 G BT Q1 K3 K2 hr hcap
          generalize eventsB dss = es at *
          generalize idxB rdE es = rs at *
          have HS : Hid (∀ k, (pgK rs f (sitS rows rows.length) k).length = 12) := Lib.hid (fun k => by rw [pgK_len, sitS_len])
          obtain ⟨a5, c5, rfl, -⟩ := o5.rd
          have R12 : rs.length ≤ 12 := by rw [SL.out]; exact f12
          go_wp2
          go_loopw [39] (fun i wr => ∃ k : Nat, k ≤ rs.length ∧ i = .int .i64 k ∧ Pg wr (w.heap.size + 1 + 1) (pgK rs f (sitS rows rows.length) k) ∧ w5.grownBy wr (some (w.heap.size + 1 + 1))) (fun i _ => rs.length - (intOf i).toNat)
          case atStart => exact ⟨0, Nat.zero_le _, rfl, hp, World.grownBy.refl _ _⟩
          case round =>
            clear hp
            obtain ⟨k, hk, rfl, hp, G⟩ := hrel
            have K6 : Keep w wr := K5.grown G (fun j hj => by have := Option.some.inj hj; omega)
            by_cases hlt : k < rs.length
            · have hlf : k < f.length := by rw [← SL.out]; exact hlt
              have hrk := (o5.other hB G).rd
              obtain ⟨a', c', he', hrk⟩ := hrk
              simp only [Value.slice.injEq, true_and] at he'
              obtain ⟨rfl, rfl⟩ := he'
              rcases hrk with h0 | ⟨bf, off, rfl, hbf, hcf'⟩
              · exfalso; rw [h0] at hlt; simp at hlt
              have hfk := hf.keep K6
              obtain ⟨a', c', he', hfk⟩ := hfk
              simp only [Value.slice.injEq, true_and] at he'
              obtain ⟨rfl, rfl⟩ := he'
              rcases hfk with h0 | ⟨bg, oft, rfl, hbg, hcg'⟩
              · exfalso; rw [h0] at hlf; simp at hlf
              have bk := (G.block w.heap.size (by omega) (fun e => by have := Option.some.inj e; omega)).trans bt
              have c0 : wr.cell? ⟨w.heap.size, 0, none⟩ = some _ := cell_of_row _ _ 0 _ _ (0, 0) bk
              obtain ⟨⟨f0, f1⟩, ⟨r0, r1⟩, -⟩ := FU.out k hlf
              obtain ⟨rb, hrb⟩ := Int.eq_ofNat_of_zero_le r0
              obtain ⟨fb, hfb⟩ := Int.eq_ofNat_of_zero_le f0
              have hrbl : rb < 12 := by omega
              have hfbl : fb < 12 := by omega
              have d1 := hcf' k hlt
              rw [hrb] at d1
              have e1 := hcg' k hlf
              rw [hfb] at e1
              have HN : Hid (pgK rs f (sitS rows rows.length) (k + 1) = (pgK rs f (sitS rows rows.length) k).set rb ((pgK rs f (sitS rows rows.length) k).getD fb 0)) := Lib.hid (by rw [pgK, hrb, hfb, Int.toNat_natCast, Int.toNat_natCast])
              have hl := HS.out k
              have d2 := hp.cell (j := rb) (by omega)
              have d3 := hp.free rb
              have d4 := hp.cell (j := fb) (by omega)
              generalize pgK rs f (sitS rows rows.length) k = S0 at hp HN hl d2 d4
              have i1 : (0 : Int) ≤ (k : Int) := Int.natCast_nonneg _
              have i2 : (k : Int) < (rs.length : Int) := by omega
              have i3 : (k : Int) < (f.length : Int) := by omega
              have j1 : (0 : Int) ≤ (rb : Int) := Int.natCast_nonneg _
              have j2 : (rb : Int) < 12 := by omega
              have l1 : (0 : Int) ≤ (fb : Int) := Int.natCast_nonneg _
              have l2 : (fb : Int) < 12 := by omega
              clear hcf' hcg' hl hrb hfb f0 f1 r0 r1 bk bt q1
              go_wp2
              go_roundw
              case rel => exact ⟨k + 1, by omega, by go_num, by rw [HN.out]; exact hp.set rb _, grown_trans G (grown_set _ _ _ _)⟩
              case measure => simp [intOf]; omega
            · obtain rfl : k = rs.length := by omega
              have q3 := q1.kept G (fun e => by have := Option.some.inj e; omega)
              have hl := HS.out rs.length
              rw [← HE.out] at hl hp
              have PS := pg_size hl
              have PI : (Try.prog.info? 63).map (·.size) = some (pgC (pageB dss f rows)).size := by rw [PS]; exact page_info
              have HF : Hid (Keep w (wr.setRow (w.heap.size + 1) (pgC (pageB dss f rows))) ∧ (wr.setRow (w.heap.size + 1) (pgC (pageB dss f rows))).heap[w.heap.size + 1]? = some (.cells (pgC (pageB dss f rows)) 63 (0, 0))) := Lib.hid ⟨K6.grown (grown_setRow _ _ _) (fun k hk => by have := Option.some.inj hk; omega), heap_setRow_same _ _ _ _ _ q3⟩
              have HO : Hid ((pgC (List.replicate 12 0)).size = (pgC (pageB dss f rows)).size) := Lib.hid (by rw [PS]; rfl)
              have HI := Lib.hid PI
              have HP := Lib.hid (pg_one (pageB dss f rows))
              clear PI PS hl HE HS bt q1
              unfold Pg at hp q3
              obtain ⟨P, hP⟩ : ∃ P, P = pgC (pageB dss f rows) := ⟨_, rfl⟩
              rw [← hP] at hp HI HF HO HP
              have HQ := Lib.hid hP
              clear hP
              go_wp2_with (first | refine wpList_load_row rfl 63 _ rfl (w.heap.size + 1 + 1) rfl 63 _ (0, 0) _ hp Try.underlying63 rfl HI.out ?_ | refine wpList_store_row rfl 63 _ _ rfl (w.heap.size + 1) _ rfl rfl 63 _ q3 HI.out HO.out HP.out ?_)
              refine bodyPost_ret (results_row (by rfl) _ _ (w.heap.size + 1) 63 _ (0, 0) _ rfl HF.out.2 Try.underlying63 rfl HI.out) rfl ?_
              exact ⟨by rw [HQ.out], HF.out.1⟩
end Go.Proofs.Ytgolhjmbloiakaa
