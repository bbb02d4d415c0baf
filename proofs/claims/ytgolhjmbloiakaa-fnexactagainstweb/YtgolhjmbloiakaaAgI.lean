/- Contract of the program's AgainstWeb. -/
import Derived.Test.YtgolhjmbloiakaaPageI
import Derived.Test.YtgolhjmbloiakaaBlankP
import Derived.Test.YtgolhjmbloiakaaBlankI
import Derived.Test.YtgolhjmbloiakaaLineI
import Derived.Test.YtgolhjmbloiakaaMB
import Derived.BigRegion
import Derived.RegionTactic
namespace Go.Proofs.Ytgolhjmbloiakaa
open Go.ChangeShapes Go.WideShapes Go.ChangeAt Go.RowKit

theorem idx_top {es : List Ev} (hx : es.length ≤ 12) (t : Ev → Bool) : (idxB t es).length ≤ 12 := by
  unfold idxB
  rw [if_pos hx]
  have := idxK_len t es es.length
  omega
set_option maxRecDepth 100000 in
set_option maxHeartbeats 4000000 in
theorem implAgainstWeb_any (w : World) (v vF vR : Value) (dss : List (List Dd)) (f rows : List Int) (h : RdW w v dss) (hf : Rd w vF f) (hr : Rd w vR rows) (hcap : rows.length ≤ capZ vR) (hx : dss.length ≤ 1048576) (hm : ∀ i, i < dss.length → (dss.getD i []).length ≤ 1048576) (hfl : f.length ≤ 1048576) (hrl : rows.length ≤ 1048576) :
    Calls Try.prog 28 #[v, .agg #[vF, vR]] w fun e w' => ∃ v', e = .returned v' ∧ Row w' w.heap.size v' (agB dss f rows) ∧ Keep w w' := by
  have C := fun (W : World) (kW : Keep w W) => pageOf_any W v vF vR dss f rows (h.keep kW) (hf.keep kW) (hr.keep kW) hcap hx hm hfl hrl
  have CB := fun (W : World) => isBlank_any W (pageB dss f rows) (pageB_len dss f rows)
  rw [page_blank] at CB
  have hPl := pageB_len dss f rows
  have HP : taleB dss f rows = true → Hid (pageB dss f rows = pageL (eventsB dss) f rows) := fun e => Lib.hid (by rw [pageB, if_pos e])
  obtain ⟨P, hP⟩ : ∃ P, P = pageB dss f rows := ⟨_, rfl⟩
  rw [← hP] at C CB hPl HP
  clear hP
  obtain ⟨aF, cF, rfl, -⟩ := hf
  obtain ⟨aR, cR, rfl, -⟩ := hr
  have PI : (Try.prog.info? 63).map (·.size) = some (pgC P).size := by rw [pg_size hPl]; exact page_info
  have HI := Lib.hid PI
  have HO : Hid ((pgC (List.replicate 12 0)).size = (pgC P).size) := Lib.hid (by rw [pg_size hPl]; rfl)
  have H1 := Lib.hid (pg_one P)
  clear PI
  go_enter Try.func28, Try.ntmps28
  go_wp2_with fail
  refine (C _ ((Keep.refl w).alloc _)).mono ?_
  rintro e w1 ⟨rfl, k1⟩
  have K1 := ((Keep.refl w).alloc _).trans k1
  have hz := Pg.new (w := w1) (List.replicate 12 0)
  have h1 : ((w1.alloc (.cells (pgC (List.replicate 12 0)) 63)).setRow w1.heap.size (pgC P)).heap[w1.heap.size]? = some (.cells (pgC P) 63 (0, 0)) := heap_setRow_same _ _ _ _ _ hz
  have k2 : Keep w1 ((w1.alloc (.cells (pgC (List.replicate 12 0)) 63)).setRow w1.heap.size (pgC P)) := ((Keep.refl w1).alloc _).grown (grown_setRow _ _ _) (fun k hk => by have := Option.some.inj hk; omega)
  clear k1 C
  unfold Pg at hz
  go_wp2_with (first | refine wpList_store_row rfl 63 _ _ rfl w1.heap.size _ rfl rfl 63 _ hz HI.out HO.out H1.out ?_ | refine wpList_load_row rfl 63 _ rfl w1.heap.size rfl 63 _ (0, 0) _ h1 Try.underlying63 rfl HI.out ?_ | fail)
  have HH := Lib.hid h1
  have z1 : w1.heap.size < ((w1.alloc (.cells (pgC (List.replicate 12 0)) 63)).setRow w1.heap.size (pgC P)).heap.size := by simp
  refine (CB _).mono ?_
  rintro e w2 ⟨rfl, k3⟩
  have K2 := (K1.trans k2).trans k3
  have s1 := K1.size
  have pg : Pg w2 w1.heap.size P := (Below.block k3 _ z1).trans HH.out
  clear hz h1 k2 k3 z1 HH HI HO H1 CB
  cases hb : taleB dss f rows
  · have HE : Hid (agB dss f rows = []) := Lib.hid (by rw [agB, hb]; rfl)
    have s2 := K2.size
    clear hb HP
    go_wp2
    go_ret
    exact ⟨_, rfl, by rw [HE.out]; exact (row_empty w2 _).base_le s2, K2.alloc _⟩
  · have HP := HP hb
    obtain ⟨h12, sl, f12, -, -, -, -, fu, -⟩ := page_use hb
    have fin : ∀ i, i < (idxB rdE (eventsB dss)).length → 0 ≤ (idxB rdE (eventsB dss)).getD i 0 ∧ (idxB rdE (eventsB dss)).getD i 0 < ((eventsB dss).length : Int) := fun i hi => (fu i (by omega)).2.1
    have HE : Hid (agB dss f rows = agO (eventsB dss) P (idxB rdE (eventsB dss)) (idxB rdE (eventsB dss)).length) := Lib.hid (by rw [HP.out, ag_same hb])
    have HWO := Lib.hid (web_agO (p := P) h12 fin)
    have HWI := Lib.hid (fun (r : Nat) (p0 : Int) (st : List Int) hr hst => web_agI (p := P) (ws := idxB (toE p0) (eventsB dss)) (n := (eventsB dss).length) (r := r) (st := st) (fun j hj => (idx_all h12 (get_mem hj)).1) hr hst)
    have FIN := Lib.hid fin
    have WIN := Lib.hid (fun (p0 : Int) (j : Nat) (hj : j < (idxB (toE p0) (eventsB dss)).length) => (idx_all h12 (get_mem hj)).1)
    have R12 : (idxB rdE (eventsB dss)).length ≤ 12 := by omega
    clear fin fu sl f12 hb HP
    go_wp2_with fail
    refine (implEventsOf_any _ _ _ (h.keep K2) hx hm).mono ?_
    rintro e w3 ⟨v3, rfl, a3, k3⟩
    have s3 := k3.size
    have s2 := K2.size
    replace pg := pg.keep k3
    have re := a3.rd
    have K3 := K2.trans k3
    generalize eventsB dss = es at *
    obtain ⟨ae, ce, rfl, re'⟩ := id re
    go_wp2_with fail
    refine (blank_any _ _ h12).mono ?_
    rintro e w4 ⟨rfl, rb, k4⟩
    have s4 := rb.lt
    go_wp2_with fail
    refine (implReadsOf_any _ _ _ (re.keep k4) (by omega)).mono ?_
    rintro e w5 ⟨v5, rfl, o5, k5⟩
    have s5 := k5.size
    replace rb := rb.keep k5
    have k35 := k4.trans k5
    obtain ⟨a5, c5, rfl, -⟩ := o5.rd
    generalize idxB rdE es = rs at *
    clear a3 k4 k5 K1 K2 k3 h hx hm hcap
    have pl := pg.lt
    go_wp2
    go_loopw [26] (fun i wr => ∃ k : Nat, k ≤ rs.length ∧ i = .int .i64 k ∧ RowAt wr w3.heap.size (agO es P rs k) ∧ w5.grownBy wr (some w3.heap.size)) (fun i _ => rs.length - (intOf i).toNat)
    case atStart => exact ⟨0, Nat.zero_le _, rfl, rb, World.grownBy.refl _ _⟩
    case round =>
      obtain ⟨k, hk, rfl, hr, G⟩ := hrel
      clear rb
      have kr : Keep w3 wr := k35.grown G (fun j hj => by have := Option.some.inj hj; omega)
      by_cases hlt : k < rs.length
      · have hrk := (o5.other (by omega) G).rd
        obtain ⟨a', c', he', hrk⟩ := hrk
        simp only [Value.slice.injEq, true_and] at he'
        obtain ⟨rfl, rfl⟩ := he'
        rcases hrk with h0 | ⟨bf, off, rfl, hbf, hcf'⟩
        · exfalso; rw [h0] at hlt; simp at hlt
        obtain ⟨ra, hra⟩ := Int.eq_ofNat_of_zero_le (FIN.out k hlt).1
        have hral : ra < es.length := by have := (FIN.out k hlt).2; omega
        have d1 := hcf' k hlt
        rw [hra] at d1
        clear hcf'
        rcases re' with h0 | ⟨be, oe, rfl, hbe, hce⟩
        · exfalso; rw [h0] at hral; simp at hral
        have AX := (hce ra _ (evs_get hral)).keep hbe kr
        have CW := fun (W : World) (kW : Keep w3 W) => implWritesTo_any W _ es (re.keep kW) (by omega) (es.getD ra zE).2.2.2.1
        have HN : Hid (agO es P rs (k + 1) = agI P ra (idxB (toE (es.getD ra zE).2.2.2.1) es) (agO es P rs k) (idxB (toE (es.getD ra zE).2.2.2.1) es).length) := Lib.hid (by rw [agO, hra]; unfold plE; rw [Int.toNat_natCast])
        have HX := Lib.hid (HWI.out ra (es.getD ra zE).2.2.2.1 (agO es P rs k) hral (HWO.out k hk).1)
        have HW := Lib.hid (WIN.out (es.getD ra zE).2.2.2.1)
        generalize agO es P rs k = S0 at hr HN HX
        generalize es.getD ra zE = ex at AX CW HN HX HW
        obtain ⟨x0, x1, x2, x3, x4, x5⟩ := ex
        obtain ⟨A0, A1, A2, A3, A4, A5⟩ := atE AX
        simp only at CW HN HX HW A3
        clear AX hce A0 A1 A2 A4 A5 hra
        have i1 : (0 : Int) ≤ (k : Int) := Int.natCast_nonneg _
        have i2 : (k : Int) < (rs.length : Int) := by omega
        have i3 : (0 : Int) ≤ (ra : Int) := Int.natCast_nonneg _
        have i4 : (ra : Int) < (es.length : Int) := by omega
        go_wp2_with fail
        refine (CW _ kr).mono ?_
        rintro e w6 ⟨v6, rfl, o6, k6⟩
        clear CW d1 A3
        have W12 := idx_top h12 (toE x3)
        generalize idxB (toE x3) es = ws at *
        obtain ⟨a6, c6, rfl, -⟩ := o6.rd
        replace hr := hr.keep k6
        have kr6 := kr.trans k6
        have sr := G.size
        have G6 : w5.grownBy w6 (some w3.heap.size) := grown_trans G ⟨Below.os k6, Below.tape k6, Below.output k6, Below.size k6, fun i hi _ => Below.block k6 i hi⟩
        clear kr G
        go_wp2
        go_loopw [38] (fun i wq => ∃ q : Nat, q ≤ ws.length ∧ i = .int .i64 q ∧ RowAt wq w3.heap.size (agI P ra ws S0 q) ∧ w6.grownBy wq (some w3.heap.size)) (fun i _ => ws.length - (intOf i).toNat)
        case atStart => exact ⟨0, Nat.zero_le _, rfl, hr, World.grownBy.refl _ _⟩
        case round =>
          clear hr
          obtain ⟨q, hq, rfl, hr, Gq⟩ := hrel
          have kq : Keep w3 wr := kr6.grown Gq (fun j hj => by have := Option.some.inj hj; omega)
          by_cases hqk : q < ws.length
          · have hrk := (o6.other (by omega) Gq).rd
            obtain ⟨a', c', he', hrk⟩ := hrk
            simp only [Value.slice.injEq, true_and] at he'
            obtain ⟨rfl, rfl⟩ := he'
            rcases hrk with h0 | ⟨bg, ofg, rfl, hbg, hcg'⟩
            · exfalso; rw [h0] at hqk; simp at hqk
            obtain ⟨rb, hrb⟩ := Int.eq_ofNat_of_zero_le (HW.out q hqk).1
            have hrbl : rb < es.length := by have := (HW.out q hqk).2; omega
            have d2 := hcg' q hqk
            rw [hrb] at d2
            have pq := pg.keep kq
            have p1 := pq.cell (j := ra) (by omega)
            have p2 := pq.cell (j := rb) (by omega)
            have hBl := (HX.out q hq).1.2.1
            have HY : P.getD ra 0 < P.getD rb 0 → Hid (agI P ra ws S0 (q + 1) = (agI P ra ws S0 q).set ra (gAdd ((agI P ra ws S0 q).getD ra 0) (rb : Int))) := fun e => Lib.hid (by rw [agI, hrb, Int.toNat_natCast, if_pos (decide_eq_true e)])
            have HM : ¬ P.getD ra 0 < P.getD rb 0 → Hid (agI P ra ws S0 (q + 1) = agI P ra ws S0 q) := fun e => Lib.hid (by rw [agI, hrb, Int.toNat_natCast, if_neg (by simpa using e)])
            clear hcg' hrb
            generalize agI P ra ws S0 q = S at hr HY HM hBl
            generalize P.getD ra 0 = pa at p1 HY HM
            generalize P.getD rb 0 = pb at p2 HY HM
            have n1 : (0 : Int) ≤ (q : Int) := Int.natCast_nonneg _
            have n2 : (q : Int) < (ws.length : Int) := by omega
            have n3 : (0 : Int) ≤ (rb : Int) := Int.natCast_nonneg _
            have n4 : (rb : Int) < 12 := by omega
            have n5 : (ra : Int) < 12 := by omega
            have n6 : (0 : Int) ≤ (ra : Int) := Int.natCast_nonneg _
            by_cases hp : pa < pb
            · have HE1 := HY hp
              clear HY HM
              go_wp2
              go_quiet (fail)
              clear p1 p2 d2
              go_wp2_with fail
              refine (line_any _ w3.heap.size es.length es.length S ra (rb : Int) (hr.drewN _) hBl hral).mono ?_
              rintro e w7 ⟨rfl, R7, g7⟩
              have G7 := grown_trans (grown_trans Gq (grown_draw wr _ _)) g7
              go_wp2
              go_roundw
              case rel => exact ⟨q + 1, by omega, by go_num, by rw [HE1.out]; exact R7, G7⟩
              case measure => simp [intOf]; omega
            · have HE1 := HM hp
              have hp' : pb ≤ pa := by omega
              clear HY HM
              go_wp2
              go_quiet (fail)
              clear p1 p2 d2
              go_wp2
              go_roundw
              case rel => exact ⟨q + 1, by omega, by go_num, by rw [HE1.out]; exact hr.drewN _, grown_trans Gq (grown_draw wr _ _)⟩
              case measure => simp [intOf]; omega
          · obtain rfl : q = ws.length := by omega
            go_wp2
            go_roundw
            case rel => exact ⟨k + 1, by omega, by go_num, by rw [HN.out]; exact hr, grown_trans G6 Gq⟩
            case measure => simp [intOf]; omega
      · obtain rfl : k = rs.length := by omega
        have hl := (HWO.out rs.length (Nat.le_refl _)).1.2.1
        go_wp2
        go_ret
        exact ⟨_, rfl, by rw [HE.out]; exact .inr ⟨w3.heap.size, es.length, by rw [hl]; rfl, by omega, hr⟩, K3.trans kr⟩
end Go.Proofs.Ytgolhjmbloiakaa
