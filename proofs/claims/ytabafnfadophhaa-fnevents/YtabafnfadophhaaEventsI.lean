/- Contract of the program's EventsIn. -/
import Derived.Test.YtabafnfadophhaaWorkOkI
import Derived.Test.YtabafnfadophhaaMA
namespace Go.Proofs.Ytabafnfadophhaa
open Go.ChangeShapes Go.WideShapes Go.ChangeAt Go.RowKit

set_option maxRecDepth 100000 in
set_option maxHeartbeats 4000000 in
theorem implEventsIn_any (w : World) (v : Value) (dss : List (List Dd)) (h : RdW w v dss) (hx : dss.length ≤ 1048576) (hm : ∀ i, i < dss.length → (dss.getD i []).length ≤ 1048576) :
    Calls Try.prog 25 #[v] w fun e w' => e = .returned (.int .i64 (evB dss)) ∧ Keep w w' := by
  cases hb : workB dss
  · have HE : Hid (evB dss = -1) := Lib.hid (by rw [evB, hb]; rfl)
    go_enter Try.func25, Try.ntmps25
    go_wp2_with fail
    refine (implWorkOk_any _ _ _ h hx hm).mono ?_
    rintro e w1 ⟨rfl, k1⟩
    go_wp2
    go_ret
    exact ⟨by rw [HE.out]; rfl, k1⟩
  · have HE : Hid (evB dss = evW dss dss.length) := Lib.hid (by rw [evB, if_pos hb])
    obtain ⟨h3, u2⟩ := workB_use hb
    have ul : ∀ i, i < dss.length → (dss.getD i []).length ≤ 5 := fun i hi => by
      have := u2 i hi
      simp only [okL, Bool.and_eq_true, decide_eq_true_eq] at this
      exact this.2
    clear u2
    go_enter Try.func25, Try.ntmps25
    go_wp2_with fail
    refine (implWorkOk_any _ _ _ h hx hm).mono ?_
    rintro e w0 ⟨rfl, k0⟩
    have h := h.keep k0
    go_wp2_with fail
    refine (clerksOf_any _ _ _ h h3 hm).mono ?_
    rintro e w1 ⟨v1, rfl, rc, k1⟩
    clear hb h hm
    obtain ⟨a1, c1, rfl, rc⟩ := rc
    go_wp2
    go_loopw [3, 12] (fun m i wr => ∃ k : Nat, ∃ y : Int, k ≤ dss.length ∧ m = .int .i64 y ∧ i = .int .i64 k ∧ Hid (y = evW dss k) ∧ 0 ≤ y ∧ y ≤ 10 * k ∧ Keep w1 wr) (fun _ i _ => dss.length - (intOf i).toNat)
    case atStart => exact ⟨0, 0, Nat.zero_le _, rfl, rfl, Lib.hid rfl, by omega, by omega, Keep.refl _⟩
    case round =>
      obtain ⟨k, y, hk, rfl, rfl, hM, y0, y1, hK⟩ := hrel
      by_cases hlt : k < dss.length
      · rcases rc with h | ⟨b, rfl, hb, hc⟩
        · exfalso; rw [h] at hlt; simp at hlt
        obtain ⟨vi, e1, r1, e2⟩ := hc k hlt
        have l5 := ul k hlt
        clear hc
        have HV : Hid (evW dss (k + 1) = evW dss k + evK (dss.getD k []) (dss.getD k []).length) := Lib.hid rfl
        obtain ⟨ds, hds⟩ : ∃ ds, ds = dss.getD k [] := ⟨_, rfl⟩
        rw [← hds] at r1 l5 HV
        clear hds
        generalize takW dss k = t at e2
        have d1 := (hK.cell hb).trans e1
        have d2 := (hK.cell hb).trans e2
        have r1 := r1.keep hK
        obtain ⟨ai, ci, rfl, -⟩ := id r1
        have hbw : b < wr.heap.size := Nat.lt_of_lt_of_le hb hK.size
        have i1 : (0 : Int) ≤ (k : Int) := Int.natCast_nonneg _
        have i2 : (k : Int) < (dss.length : Int) := by omega
        clear e1 e2
        have EK := evK_in ds ds.length
        go_wp2_with fail
        refine (events_any _ _ _ (r1.keep ((Keep.refl _).alloc _)) (by omega)).mono ?_
        rintro e w4 ⟨rfl, k4⟩
        have HH : Hid (y + evK ds ds.length = evW dss (k + 1)) := Lib.hid (by rw [HV.out, hM.out])
        generalize evK ds ds.length = ev at EK HH
        go_wp2
        go_roundw
        case rel => exact ⟨k + 1, y + ev, by omega, by go_num, by go_num, HH, by omega, by omega, (hK.alloc _).trans k4⟩
        case measure => simp [intOf]; omega
      · obtain rfl : k = dss.length := by omega
        go_wp2
        go_ret
        exact ⟨by rw [HE.out, hM.out]; rfl, (k0.trans k1).trans hK⟩
end Go.Proofs.Ytabafnfadophhaa
