/- Contract of the program's SourceOk. -/
import Derived.Test.YtgolhjmbloiakaaMB
import Derived.Test.YtgolhjmbloiakaaMA
import Derived.Test.YtgolhjmbloiakaaMC
import Derived.Deep.QuietTactic
import Derived.BigQuiet
namespace Go.Proofs.Ytgolhjmbloiakaa
open Go.ChangeShapes Go.WideShapes Go.ChangeAt Go.RowKit

set_option maxRecDepth 100000 in
set_option maxHeartbeats 2000000 in
theorem implSourceOk_any (w : World) (v vf : Value) (dss : List (List Dd)) (f : List Int) (h : RdW w v dss) (hf : Rd w vf f) (hx : dss.length ≤ 1048576) (hm : ∀ i, i < dss.length → (dss.getD i []).length ≤ 1048576) (hfl : f.length ≤ 1048576) :
    Calls Try.prog 92 #[v, vf] w fun e w' => e = .returned (.bool (sourceB dss f)) ∧ Keep w w' := by
  have h12 : (eventsB dss).length ≤ 12 := by have := eventsB_len9 dss; omega
  obtain ⟨cl1, cl2⟩ := chc_len h12
  go_enter Try.func92, Try.ntmps92
  go_wp2_with fail
  refine (implEventsOf_any _ _ _ h hx hm).mono ?_
  rintro e w2 ⟨v2, rfl, a2, k2⟩
  go_wp2_with fail
  refine (choicesOf_any _ _ _ a2.rd h12).mono ?_
  rintro e w3 ⟨v3, rfl, rp, k3⟩
  have K3 := k2.trans k3
  have rc := rp.rdl (Nat.le_refl _)
  have hf3 := hf.keep K3
  have HE : Hid (sourceB dss f = (workB dss && srcB (chcL (eventsB dss)) f)) := Lib.hid rfl
  generalize chcL (eventsB dss) = c at rc HE cl1 cl2
  obtain ⟨ac, cc, rfl, -⟩ := id rc
  obtain ⟨af, cf, rfl, -⟩ := id hf3
  go_wp2_with fail
  refine (implWorkOk_any _ _ _ (h.keep K3) hx hm).mono ?_
  rintro e w4 ⟨rfl, k4⟩
  have K4 := K3.trans k4
  have hf4 := hf3.keep k4
  have rc4 := rc.keep k4
  clear h a2 k2 k3 rp rc hf hf3 K3 k4 hx hm h12
  cases hb : workB dss
  · have HN : Hid (sourceB dss f = false) := Lib.hid (by rw [HE.out, hb]; rfl)
    go_wp2
    go_ret
    exact ⟨by rw [HN.out]; rfl, K4⟩
  have HE2 : Hid (sourceB dss f = srcB c f) := Lib.hid (by rw [HE.out, hb]; rfl)
  clear HE
  by_cases hl : c.length = f.length
  · have hlb : ((f.length : Int) != (c.length : Int)) = false := by simp [hl]
    have l1 : f.length ≤ c.length := by omega
    have l2 : c.length ≤ f.length := by omega
    have HS : Hid (srcB c f = srcK c f f.length) := Lib.hid (by unfold srcB; simp [hl])
    clear hl
    go_wp2
    go_loopw [23] (fun i wr => ∃ k : Nat, k ≤ f.length ∧ i = .int .i64 k ∧ Hid (srcK c f k = true) ∧ Keep w4 wr) (fun i _ => f.length - (intOf i).toNat)
    case atStart => exact ⟨0, Nat.zero_le _, rfl, Lib.hid rfl, Keep.refl _⟩
    case round =>
      obtain ⟨k, hk, rfl, hS, hK⟩ := hrel
      by_cases hlt : k < f.length
      · have rck := rc4.keep hK
        have hfk := hf4.keep hK
        obtain ⟨a', c', he', rck⟩ := rck
        simp only [Value.slice.injEq, true_and] at he'
        obtain ⟨rfl, rfl⟩ := he'
        rcases rck with h | ⟨b, o, rfl, hbb, hc⟩
        · exfalso; rw [h] at l1; simp only [List.length_nil] at l1; omega
        obtain ⟨a', c', he', hfk⟩ := hfk
        simp only [Value.slice.injEq, true_and] at he'
        obtain ⟨rfl, rfl⟩ := he'
        rcases hfk with h | ⟨b2, o2, rfl, hb2, hc2⟩
        · exfalso; rw [h] at hlt; simp at hlt
        obtain ⟨vi, d1, r2⟩ := hc k (by omega)
        have d2 := hc2 k hlt
        have ck := cl2 k (by omega)
        clear hc hc2
        have HB : Hid (srcK c f (k + 1) = (srcK c f k && isB (c.getD k []) (f.getD k 0))) := Lib.hid rfl
        generalize f.getD k 0 = n at d2 HB
        generalize c.getD k [] = zs at r2 ck HB
        obtain ⟨az, cz, rfl, -⟩ := id r2
        have i1 : (0 : Int) ≤ (k : Int) := Int.natCast_nonneg _
        have i2 : (k : Int) < (c.length : Int) := by omega
        have i3 : (k : Int) < (f.length : Int) := by omega
        cases hi : isB zs n
        · have HN : Hid (srcK c f f.length = false) := Lib.hid (srcK_false (k := k + 1) (by rw [HB.out, hi, Bool.and_false]) _ hlt)
          have CI := contains_any wr _ zs r2 (by omega) n
          rw [hi] at CI
          go_wp2_with fail
          refine CI.mono ?_
          rintro e w5 ⟨rfl, rfl⟩
          go_wp2
          go_ret
          exact ⟨by rw [HE2.out, HS.out, HN.out]; rfl, K4.trans hK⟩
        · have HN : Hid (srcK c f (k + 1) = true) := Lib.hid (by rw [HB.out, hi, hS.out]; rfl)
          have CI := contains_any wr _ zs r2 (by omega) n
          rw [hi] at CI
          go_wp2_with fail
          refine CI.mono ?_
          rintro e w5 ⟨rfl, rfl⟩
          go_wp2
          go_roundw
          case rel => exact ⟨k + 1, by omega, by go_num, HN, hK⟩
          case measure => simp [intOf]; omega
      · obtain rfl : k = f.length := by omega
        go_wp2
        go_ret
        exact ⟨by rw [HE2.out, HS.out, hS.out]; rfl, K4.trans hK⟩
  · have hlb : ((f.length : Int) != (c.length : Int)) = true := by simp; omega
    have HS : Hid (srcB c f = false) := Lib.hid (by unfold srcB; simp [hl])
    clear hl
    go_wp2
    go_ret
    exact ⟨by rw [HE2.out, HS.out]; rfl, K4⟩
end Go.Proofs.Ytgolhjmbloiakaa
