/- Contract of the program's RowsOk. -/
import Derived.Test.YtgolhjmbloiakaaMC
import Derived.Test.YtgolhjmbloiakaaMB
import Derived.Deep.QuietTactic
import Derived.BigQuiet
namespace Go.Proofs.Ytgolhjmbloiakaa
open Go.ChangeShapes Go.WideShapes Go.ChangeAt Go.RowKit

theorem Rd.upto {w : World} {a : Option Addr} {n c : Nat} {zs : List Int} (h : Rd w (.slice a n c) zs) {k : Nat} (hk : k ≤ zs.length) : Rd w (.slice a k c) (zs.take k) := by
  obtain ⟨a', c', he, hr⟩ := h
  simp only [Value.slice.injEq] at he
  obtain ⟨rfl, rfl, rfl⟩ := he
  have hl : (zs.take k).length = k := by rw [List.length_take]; omega
  refine ⟨_, _, by rw [hl], ?_⟩
  rcases hr with hr | ⟨b, off, rfl, hb, hc⟩
  · exact .inl (by rw [hr]; simp)
  · refine .inr ⟨b, off, rfl, hb, fun i hi => ?_⟩
    rw [hc i (by omega), List.getD_eq_getElem?_getD, List.getD_eq_getElem?_getD, List.getElem?_take, if_pos (by omega)]
set_option maxRecDepth 100000 in
set_option maxHeartbeats 2000000 in
theorem implRowsOk_any (w : World) (v vf : Value) (dss : List (List Dd)) (f : List Int) (h : RdW w v dss) (hf : Rd w vf f) (hcap : f.length ≤ capZ vf) (hx : dss.length ≤ 1048576) (hm : ∀ i, i < dss.length → (dss.getD i []).length ≤ 1048576) (hfl : f.length ≤ 1048576) :
    Calls Try.prog 93 #[v, vf] w fun e w' => e = .returned (.bool (rowsB dss f)) ∧ Keep w w' := by
  have h12 : (eventsB dss).length ≤ 12 := by have := eventsB_len9 dss; omega
  have sl := seats_36 h12
  have HS := Lib.hid (fun i hi => (seat_rises h12 (i := i) hi).2)
  go_enter Try.func93, Try.ntmps93
  go_wp2_with fail
  refine (implEventsOf_any _ _ _ h hx hm).mono ?_
  rintro e w2 ⟨v2, rfl, a2, k2⟩
  go_wp2_with fail
  refine (seatsOf_any _ _ _ a2.rd h12).mono ?_
  rintro e w3 ⟨v3, rfl, rc, k3⟩
  have K3 := k2.trans k3
  have hf3 := hf.keep K3
  have HE : Hid (workB dss = true → rowsB dss f = (decide (f.length = (seatsL (eventsB dss)).length) && sitK (seatsL (eventsB dss)) f f.length)) := Lib.hid (fun hb => by rw [sit_same hb, rowsB, hb]; rfl)
  generalize seatsL (eventsB dss) = c at rc HE HS sl
  obtain ⟨ac, cc, rfl, -⟩ := id rc
  obtain ⟨af, cf, rfl, -⟩ := id hf3
  have hcf : f.length ≤ cf := hcap
  go_wp2_with fail
  refine (implWorkOk_any _ _ _ (h.keep K3) hx hm).mono ?_
  rintro e w4 ⟨rfl, k4⟩
  have K4 := K3.trans k4
  have hf4 := hf3.keep k4
  have rc4 := rc.keep k4
  clear h a2 k2 k3 rc hf hf3 K3 k4 hx hm h12 hcap
  cases hb : workB dss
  · have HN : Hid (rowsB dss f = false) := Lib.hid (by rw [rowsB, hb]; rfl)
    go_wp2
    go_ret
    exact ⟨by rw [HN.out]; rfl, K4⟩
  have HE2 : Hid (rowsB dss f = (decide (f.length = c.length) && sitK c f f.length)) := Lib.hid (HE.out hb)
  clear HE
  by_cases hl : f.length = c.length
  · have hlb : ((f.length : Int) != (c.length : Int)) = false := by simp [hl]
    have l1 : f.length ≤ c.length := by omega
    have HR : Hid (rowsB dss f = sitK c f f.length) := Lib.hid (by rw [HE2.out, decide_eq_true hl]; rfl)
    clear hl HE2
    go_wp2
    go_loopw [23] (fun i wr => ∃ k : Nat, k ≤ f.length ∧ i = .int .i64 k ∧ Hid (sitK c f k = true) ∧ Keep w4 wr) (fun i _ => f.length - (intOf i).toNat)
    case atStart => exact ⟨0, Nat.zero_le _, rfl, Lib.hid rfl, Keep.refl _⟩
    case round =>
      obtain ⟨k, hk, rfl, hS, hK⟩ := hrel
      by_cases hlt : k < f.length
      · have rck := rc4.keep hK
        have hfk := hf4.keep hK
        have hft := hfk.upto (k := k) hk
        obtain ⟨a', c', he', rck⟩ := rck
        simp only [Value.slice.injEq, true_and] at he'
        obtain ⟨rfl, rfl⟩ := he'
        rcases rck with h | ⟨b, o, rfl, hbb, hc⟩
        · exfalso; rw [h] at l1; simp only [List.length_nil] at l1; omega
        obtain ⟨a', c', he', hfk⟩ := hfk
        simp only [Value.slice.injEq, true_and] at he'
        obtain ⟨rfl, rfl⟩ := he'
        rcases hfk with h | ⟨b2, o2, rfl, hb2, hc2⟩
        · exfalso; rw [h] at hlt; simp at hlt
        obtain ⟨vi, d1, r2⟩ := hc k (by omega)
        have d2 := hc2 k hlt
        have ck := HS.out k (by omega)
        have tk : (f.take k).length ≤ 1048576 := by rw [List.length_take]; omega
        clear hc hc2
        have HB : Hid (sitK c f (k + 1) = (sitK c f k && (isB (c.getD k []) (f.getD k 0) && !isB (f.take k) (f.getD k 0)))) := Lib.hid rfl
        generalize f.getD k 0 = n at d2 HB
        generalize c.getD k [] = zs at r2 ck HB
        generalize f.take k = ft at hft tk HB
        obtain ⟨az, cz, rfl, -⟩ := id r2
        have i1 : (0 : Int) ≤ (k : Int) := Int.natCast_nonneg _
        have i2 : (k : Int) < (c.length : Int) := by omega
        have i3 : (k : Int) < (f.length : Int) := by omega
        have i4 : (k : Int) ≤ (cf : Int) := by omega
        have CI := contains_any wr _ zs r2 (by omega) n
        have CJ := contains_any wr _ ft hft (by omega) n
        cases hi : isB zs n
        · have HN : Hid (sitK c f f.length = false) := Lib.hid (sitK_false (k := k + 1) (by rw [HB.out, hi]; simp) _ hlt)
          rw [hi] at CI
          clear CJ
          go_wp2_with fail
          refine CI.mono ?_
          rintro e w5 ⟨rfl, rfl⟩
          go_wp2
          go_ret
          exact ⟨by rw [HR.out, HN.out]; rfl, K4.trans hK⟩
        · rw [hi] at CI
          cases hj : isB ft n
          · have HN : Hid (sitK c f (k + 1) = true) := Lib.hid (by rw [HB.out, hi, hj, hS.out]; rfl)
            rw [hj] at CJ
            go_wp2_with fail
            refine CI.mono ?_
            rintro e w5 ⟨rfl, rfl⟩
            go_wp2_with fail
            refine CJ.mono ?_
            rintro e w6 ⟨rfl, rfl⟩
            go_wp2
            go_roundw
            case rel => exact ⟨k + 1, by omega, by go_num, HN, hK⟩
            case measure => simp [intOf]; omega
          · have HN : Hid (sitK c f f.length = false) := Lib.hid (sitK_false (k := k + 1) (by rw [HB.out, hi, hj]; simp) _ hlt)
            rw [hj] at CJ
            go_wp2_with fail
            refine CI.mono ?_
            rintro e w5 ⟨rfl, rfl⟩
            go_wp2_with fail
            refine CJ.mono ?_
            rintro e w6 ⟨rfl, rfl⟩
            go_wp2
            go_ret
            exact ⟨by rw [HR.out, HN.out]; rfl, K4.trans hK⟩
      · obtain rfl : k = f.length := by omega
        go_wp2
        go_ret
        exact ⟨by rw [HR.out, hS.out]; rfl, K4.trans hK⟩
  · have hlb : ((f.length : Int) != (c.length : Int)) = true := by simp; omega
    have HR : Hid (rowsB dss f = false) := Lib.hid (by rw [HE2.out, decide_eq_false hl]; rfl)
    clear hl HE2
    go_wp2
    go_ret
    exact ⟨by rw [HR.out]; rfl, K4⟩
end Go.Proofs.Ytgolhjmbloiakaa
