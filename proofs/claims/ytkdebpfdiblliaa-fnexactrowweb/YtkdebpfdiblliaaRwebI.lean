/- Contract of the program's RowWeb. -/
import Derived.Test.YtkdebpfdiblliaaMB
import Derived.Test.YtkdebpfdiblliaaMC
import Derived.Test.YtkdebpfdiblliaaAreAtI
import Derived.BigRegion
import Derived.RegionTactic
import Derived.Deep.RegionHeld3
namespace Go.Proofs.Ytkdebpfdiblliaa
open Go.ChangeShapes Go.WideShapes Go.ChangeAt Go.RowKit

set_option maxRecDepth 100000 in
set_option maxHeartbeats 4000000 in
theorem implRowWeb_any (w : World) (v vf : Value) (dss : List (List Dd)) (f : List Int) (h : RdW w v dss) (hf : Rd w vf f) (hcap : f.length ≤ capZ vf) (hx : dss.length ≤ 1048576) (hm : ∀ i, i < dss.length → (dss.getD i []).length ≤ 1048576) (hfl : f.length ≤ 1048576) :
    Calls Try.prog 13 #[v, vf] w fun e w' => ∃ v', e = .returned v' ∧ Row w' w.heap.size v' (rwB dss f) ∧ Keep w w' := by
  have C := implRowsOk_any w v vf dss f h hf hcap hx hm hfl
  cases hs : rowsB dss f
  · have HE : Hid (rwB dss f = []) := Lib.hid (by rw [rwB, hs]; rfl)
    rw [hs] at C
    go_enter Try.func13, Try.ntmps13
    go_wp2_with fail
    refine C.mono ?_
    rintro e w1 ⟨rfl, k1⟩
    have s1 := k1.size
    go_wp2
    go_ret
    exact ⟨_, rfl, by rw [HE.out]; exact (row_empty w1 _).base_le s1, k1.alloc _⟩
  · have h12 : (eventsB dss).length ≤ 12 := by have := eventsB_len9 dss; omega
    have hrl : rowsL (eventsB dss) f = true := by rw [rowsB, Bool.and_eq_true] at hs; exact hs.2
    obtain ⟨-, -, fin⟩ := rows_use h12 hrl
    have HE : Hid (rwB dss f = pwAll (eventsB dss) f f.length) := Lib.hid (by rw [pw_same h12 fin, rwB, if_pos hs])
    have HW := Lib.hid (web_pwAll h12 fin)
    have HX := Lib.hid (fun (i : Nat) (st : List Int) hi hst => web_pwIn (es := eventsB dss) (n := (eventsB dss).length) (i := i) (st := st) fin hi hst)
    have FIN := Lib.hid fin
    rw [hs] at C
    clear fin hrl hs
    go_enter Try.func13, Try.ntmps13
    go_wp2_with fail
    refine C.mono ?_
    rintro e w1 ⟨rfl, k1⟩
    have s1 := k1.size
    go_wp2_with fail
    refine (implEventsOf_any _ _ _ (h.keep k1) hx hm).mono ?_
    rintro e w2 ⟨v2, rfl, a2, k2⟩
    have s2 := k2.size
    have re := a2.rd
    generalize eventsB dss = es at *
    obtain ⟨ae, ce, rfl, re⟩ := re
    go_wp2_with fail
    refine (blank_any _ _ h12).mono ?_
    rintro e w3 ⟨rfl, rb, k3⟩
    have K2 := k1.trans k2
    have hf2 := hf.keep K2
    obtain ⟨af, cf, rfl, -⟩ := id hf
    have hcf : f.length ≤ cf := hcap
    have sw : w.heap.size ≤ w2.heap.size := by omega
    clear C h hx hm a2 k1 k2 hf s1 s2 hcap
    go_wp2
    go_loopw [23] (fun i wr => ∃ k : Nat, k ≤ f.length ∧ i = .int .i64 k ∧ RowAt wr w2.heap.size (pwAll es f k) ∧ Keep w2 wr) (fun i _ => f.length - (intOf i).toNat)
    case atStart => exact ⟨0, Nat.zero_le _, rfl, rb, k3⟩
    case round =>
      obtain ⟨k, hk, rfl, hr, hK⟩ := hrel
      clear rb k3
      by_cases hlt : k < f.length
      · have hfk := hf2.keep hK
        obtain ⟨a', c', he', hfk⟩ := hfk
        simp only [Value.slice.injEq, true_and] at he'
        obtain ⟨rfl, rfl⟩ := he'
        rcases hfk with h0 | ⟨bf, off, rfl, hbf, hcf'⟩
        · exfalso; rw [h0] at hlt; simp at hlt
        obtain ⟨rb, hrb⟩ := Int.eq_ofNat_of_zero_le (FIN.out k hlt).1
        have hrbl : rb < es.length := by have := (FIN.out k hlt).2; omega
        have d1 := hcf' k hlt
        rw [hrb] at d1
        have HN : Hid (pwAll es f (k + 1) = pwIn es f k (pwAll es f k) k) := Lib.hid rfl
        have HWI := Lib.hid (HX.out k (pwAll es f k) hlt (HW.out k hk).1)
        generalize pwAll es f k = S0 at hr HN HWI
        have i1 : (0 : Int) ≤ (k : Int) := Int.natCast_nonneg _
        have i2 : (k : Int) < (f.length : Int) := by omega
        have i3 : (k : Int) ≤ (cf : Int) := by omega
        clear hcf'
        go_wp2
        clear d1
        obtain ⟨wo, rfl⟩ : ∃ wo : World, wo = wr := ⟨_, rfl⟩
        go_loopw [32] (fun i wr => ∃ q : Nat, q ≤ k ∧ i = .int .i64 q ∧ RowAt wr w2.heap.size (pwIn es f k S0 q) ∧ Keep w2 wr) (fun i _ => k - (intOf i).toNat)
        case atStart => exact ⟨0, Nat.zero_le _, rfl, hr, hK⟩
        case round =>
          clear hr hK
          obtain ⟨q, hq, rfl, hr, hK⟩ := hrel
          by_cases hqk : q < k
          · have hfk := hf2.keep hK
            obtain ⟨a', c', he', hfk⟩ := hfk
            simp only [Value.slice.injEq, true_and] at he'
            obtain ⟨rfl, rfl⟩ := he'
            rcases hfk with h0 | ⟨bf', off', he, hbf', hcf'⟩
            · exfalso; rw [h0] at hlt; simp at hlt
            simp only [Option.some.injEq, Addr.mk.injEq, and_true] at he
            obtain ⟨rfl, rfl⟩ := he
            obtain ⟨ra, hra⟩ := Int.eq_ofNat_of_zero_le (FIN.out q (by omega)).1
            have hral : ra < es.length := by have := (FIN.out q (by omega)).2; omega
            have d2 := hcf' q (by omega)
            rw [hra] at d2
            clear hcf'
            rcases re with h0 | ⟨be, oe, rfl, hbe, hce⟩
            · exfalso; rw [h0] at hral; simp at hral
            have AX := (hce ra _ (evs_get hral)).keep hbe hK
            have AY := (hce rb _ (evs_get hrbl)).keep hbe hK
            have HH : Hid (((es.getD ra zE).2.2.2.1 == (es.getD rb zE).2.2.2.1) = true → pwIn es f k S0 (q + 1) = (pwIn es f k S0 q).set ra (gAdd ((pwIn es f k S0 q).getD ra 0) (rb : Int))) := Lib.hid (fun e => by
              rw [pwIn, hra, hrb]
              unfold plE
              rw [Int.toNat_natCast, Int.toNat_natCast, if_pos e])
            have HM : Hid (((es.getD ra zE).2.2.2.1 == (es.getD rb zE).2.2.2.1) = false → pwIn es f k S0 (q + 1) = pwIn es f k S0 q) := Lib.hid (fun e => by
              rw [pwIn, hra, hrb]
              unfold plE
              rw [Int.toNat_natCast, Int.toNat_natCast, if_neg (by rw [e]; simp)])
            have hBl := (HWI.out q hq).1.2.1
            clear hce hra
            generalize es.getD ra zE = ex at AX HH HM
            generalize es.getD rb zE = ey at AY HH HM
            obtain ⟨x0, x1, x2, x3, x4, x5⟩ := ex
            obtain ⟨y0, y1, y2, y3, y4, y5⟩ := ey
            obtain ⟨A0, A1, A2, A3, A4, A5⟩ := atE AX
            obtain ⟨B0, B1, B2, B3, B4, B5⟩ := atE AY
            clear AX AY
            simp only at HH HM
            generalize pwIn es f k S0 q = S at hr HH HM hBl
            have n1 : (0 : Int) ≤ (q : Int) := Int.natCast_nonneg _
            have n2 : (q : Int) < (k : Int) := by omega
            have n3 : (0 : Int) ≤ (ra : Int) := Int.natCast_nonneg _
            have n4 : (ra : Int) < (es.length : Int) := by omega
            have n5 : (0 : Int) ≤ (rb : Int) := Int.natCast_nonneg _
            have n6 : (rb : Int) < (es.length : Int) := by omega
            have z1 : be < wr.drew.heap.size := Nat.lt_of_lt_of_le hbe hK.size
            have CA := fun u => areAt_any u x0 x1 x2 x3 x4 x5 y0 y1 y2 y3 y4 y5
            have HO : Hid (onpE (x0, x1, x2, x3, x4, x5) (y0, y1, y2, y3, y4, y5) = (x3 == y3)) := Lib.hid rfl
            rw [HO.out] at CA
            clear HO
            cases ht : (x3 == y3)
            · have HE1 : Hid (pwIn es f k S0 (q + 1) = S) := Lib.hid (HM.out ht)
              rw [ht] at CA
              clear HH HM ht
              go_wp2
              go_region_held3 (fun w' => w'.cell? ⟨be, oe + ra * 6, none⟩ = some (.int .i64 x0) ∧ w'.cell? ⟨be, oe + ra * 6 + 1, none⟩ = some (.int .i64 x1) ∧ w'.cell? ⟨be, oe + ra * 6 + 2, none⟩ = some (.bool x2) ∧ w'.cell? ⟨be, oe + ra * 6 + 3, none⟩ = some (.int .i64 x3) ∧ w'.cell? ⟨be, oe + ra * 6 + 4, none⟩ = some (.int .i64 x4) ∧ w'.cell? ⟨be, oe + ra * 6 + 5, none⟩ = some (.int .i64 x5) ∧ w'.cell? ⟨be, oe + rb * 6, none⟩ = some (.int .i64 y0) ∧ w'.cell? ⟨be, oe + rb * 6 + 1, none⟩ = some (.int .i64 y1) ∧ w'.cell? ⟨be, oe + rb * 6 + 2, none⟩ = some (.bool y2) ∧ w'.cell? ⟨be, oe + rb * 6 + 3, none⟩ = some (.int .i64 y3) ∧ w'.cell? ⟨be, oe + rb * 6 + 4, none⟩ = some (.int .i64 y4) ∧ w'.cell? ⟨be, oe + rb * 6 + 5, none⟩ = some (.int .i64 y5))
                (first | go_keep | (go_split_ands; refine ⟨?_, ?_, ?_, ?_, ?_, ?_, ?_, ?_, ?_, ?_, ?_, ?_⟩ <;> (rw [kk.cell (by assumption)]; assumption)))
                ((go_at_call 43; refine (CA _).mono ?_; rintro e wz ⟨rfl, kk⟩))
              all_goals
                clear A0 A1 A2 A3 A4 A5 B0 B1 B2 B3 B4 B5
                go_wp2
                go_roundw
                case rel => exact ⟨q + 1, by omega, by go_num, by rw [HE1.out]; exact hr.drew.keep kk, hK.drew.trans kk⟩
                case measure => simp [intOf]; omega
            · have HE1 : Hid (pwIn es f k S0 (q + 1) = S.set ra (gAdd (S.getD ra 0) (rb : Int))) := Lib.hid (HH.out ht)
              rw [ht] at CA
              clear HH HM ht
              go_wp2
              go_region_held3 (fun w' => w'.cell? ⟨be, oe + ra * 6, none⟩ = some (.int .i64 x0) ∧ w'.cell? ⟨be, oe + ra * 6 + 1, none⟩ = some (.int .i64 x1) ∧ w'.cell? ⟨be, oe + ra * 6 + 2, none⟩ = some (.bool x2) ∧ w'.cell? ⟨be, oe + ra * 6 + 3, none⟩ = some (.int .i64 x3) ∧ w'.cell? ⟨be, oe + ra * 6 + 4, none⟩ = some (.int .i64 x4) ∧ w'.cell? ⟨be, oe + ra * 6 + 5, none⟩ = some (.int .i64 x5) ∧ w'.cell? ⟨be, oe + rb * 6, none⟩ = some (.int .i64 y0) ∧ w'.cell? ⟨be, oe + rb * 6 + 1, none⟩ = some (.int .i64 y1) ∧ w'.cell? ⟨be, oe + rb * 6 + 2, none⟩ = some (.bool y2) ∧ w'.cell? ⟨be, oe + rb * 6 + 3, none⟩ = some (.int .i64 y3) ∧ w'.cell? ⟨be, oe + rb * 6 + 4, none⟩ = some (.int .i64 y4) ∧ w'.cell? ⟨be, oe + rb * 6 + 5, none⟩ = some (.int .i64 y5))
                (first | go_keep | (go_split_ands; refine ⟨?_, ?_, ?_, ?_, ?_, ?_, ?_, ?_, ?_, ?_, ?_, ?_⟩ <;> (rw [kk.cell (by assumption)]; assumption)))
                ((go_at_call 43; refine (CA _).mono ?_; rintro e wz ⟨rfl, kk⟩))
              all_goals
                clear A0 A1 A2 A3 A4 A5 B0 B1 B2 B3 B4 B5
                have hr5 := hr.drew.keep kk
                have hK5 := hK.drew.trans kk
                go_wp2_with fail
                refine (line_any _ w2.heap.size es.length es.length S ra (rb : Int) hr5 hBl hral).mono ?_
                rintro e w7 ⟨rfl, R7, g7⟩
                have hK7 : Keep w2 w7 := hK5.grown g7 (by simp)
                go_wp2
                go_roundw
                case rel => exact ⟨q + 1, by omega, by go_num, by rw [HE1.out]; exact R7, hK7⟩
                case measure => simp [intOf]; omega
          · obtain rfl : q = k := by omega
            go_wp2
            go_roundw
            case rel => exact ⟨q + 1, by omega, by go_num, by rw [HN.out]; exact hr, hK⟩
            case measure => simp [intOf]; omega
      · obtain rfl : k = f.length := by omega
        have hl := (HW.out f.length (Nat.le_refl _)).1.2.1
        go_wp2
        go_ret
        exact ⟨_, rfl, by rw [HE.out]; exact .inr ⟨w2.heap.size, es.length, by rw [hl]; rfl, sw, hr⟩, K2.trans hK⟩
end Go.Proofs.Ytkdebpfdiblliaa
