/- Contract of the specification's SourceOk. -/
import Derived.Test.YtkbkdlaknmgjpaaChoS
import Derived.Test.YtkbkdlaknmgjpaaIsS
import Derived.Test.YtkbkdlaknmgjpaaSrcQ
import Derived.Test.YtkbkdlaknmgjpaaMB
import Derived.Test.YtkbkdlaknmgjpaaWorkOkS
import Derived.Test.YtkbkdlaknmgjpaaL6Ev
import Derived.Deep.QuietTactic
import Derived.BigQuiet
namespace Go.Proofs.Ytkbkdlaknmgjpaa
open Go.ChangeShapes Go.WideShapes Go.ChangeAt Go.RowKit
set_option maxRecDepth 100000 in
set_option maxHeartbeats 2000000 in
theorem specSourceOk_any (w : World) (v vf : Value) (dss : List (List Dd)) (f : List Int) (h : RdW w v dss) (hf : Rd w vf f) (hx : dss.length ≤ 1048576) (hm : ∀ i, i < dss.length → (dss.getD i []).length ≤ 1048576) (hfl : f.length ≤ 1048576) :
  Calls Try.prog 15 #[v, vf] w fun e w' => e = .returned (.bool (sourceB dss f)) ∧ Keep w w' := by
 cases hb : workB dss
 ·
  have HE : Hid (sourceB dss f = false) := Lib.hid (by rw [sourceB, hb]; rfl)
  go_enter Try.func15, Try.ntmps15
  go_wp2_with fail
  refine (specWorkOk_any _ _ _ h hx hm).mono ?_
  rintro e w1 ⟨rfl, k1⟩
  go_wp2
  go_ret
  exact ⟨by rw [HE.out]; rfl, k1⟩
 ·
  have HE : Hid (sourceB dss f = srcB (chcL (evsW dss dss.length)) f) := Lib.hid (by rw [sourceB, hb, eventsB, if_pos hb]; rfl)
  obtain ⟨u1, u2⟩ := workB_useQ hb
  have h12 := (events_law hb).1
  obtain ⟨cl1, cl2⟩ := chc_len h12
  go_enter Try.func15, Try.ntmps15
  go_wp2_with fail
  refine (specWorkOk_any _ _ _ h hx hm).mono ?_
  rintro e w1 ⟨rfl, k1⟩
  go_wp2_with fail
  refine (l6Events_any _ _ _ (h.keep k1) u1 u2).mono ?_
  rintro e w2 ⟨v2, rfl, a2, k2⟩
  go_wp2_with fail
  refine (l8Choices_any _ _ _ a2.rd h12).mono ?_
  rintro e w3 ⟨v3, rfl, rc, k3⟩
  have K3 := k1.trans (k2.trans k3)
  have hf3 := hf.keep K3
  generalize chcL (evsW dss dss.length) = c at rc HE cl1 cl2
  clear h hb u1 u2 h12 a2 k1 k2 k3 hf hx hm
  obtain ⟨ac, cc, rfl, rc⟩ := rc
  obtain ⟨af, cf, rfl, hf3⟩ := hf3
  by_cases hl : c.length = f.length
  ·
   have hlb : ((c.length : Int) != (f.length : Int)) = false := by simp [hl]
   have l1 : c.length ≤ f.length := by omega
   have HS : Hid (srcB c f = srcK c f c.length) := Lib.hid (by unfold srcB; simp [hl])
   clear hl
   go_wp2
   go_loopw [6] (fun i wr => ∃ k : Nat, k ≤ c.length ∧ i = .int .i64 k ∧ Hid (srcK c f k = true) ∧ Keep w3 wr) (fun i _ => c.length - (intOf i).toNat)
   case atStart => exact ⟨0, Nat.zero_le _, rfl, Lib.hid rfl, Keep.refl _⟩
   case round =>
    obtain ⟨k, hk, rfl, hS, hK⟩ := hrel
    by_cases hlt : k < c.length
    ·
     rcases rc with h | ⟨b, o, rfl, hb, hc⟩
     ·
      exfalso; rw [h] at hlt; simp at hlt
     rcases hf3 with h | ⟨b2, o2, rfl, hb2, hc2⟩
     ·
      exfalso; rw [h] at l1; simp only [List.length_nil] at l1; omega
     obtain ⟨vi, e1, r1⟩ := hc k hlt
     have d1 := (hK.cell hb).trans e1
     have r2 := r1.keep hK
     have d2 := (hK.cell hb2).trans (hc2 k (by omega))
     have ck := cl2 k hlt
     clear hc hc2 e1 r1
     have HB : Hid (srcK c f (k + 1) = (srcK c f k && isB (c.getD k []) (f.getD k 0))) := Lib.hid rfl
     generalize f.getD k 0 = n at d2 HB
     generalize c.getD k [] = zs at r2 ck HB
     obtain ⟨az, cz, rfl, -⟩ := id r2
     have i1 : (0 : Int) ≤ (k : Int) := Int.natCast_nonneg _
     have i2 : (k : Int) < (c.length : Int) := by omega
     have i3 : (k : Int) < (f.length : Int) := by omega
     cases hi : isB zs n
     ·
      have HN : Hid (srcK c f c.length = false) := Lib.hid (srcK_false (k := k + 1) (by rw [HB.out, hi, Bool.and_false]) _ hlt)
      go_wp2
      go_quiet ((go_at_call 30; exact Calls.quiet_of_same (l8Is_any _ _ zs (r2.keep ((Keep.refl wr).drewN _)) (by omega) _)))
      go_wp2
      go_ret
      exact ⟨by rw [HE.out, HS.out, HN.out]; rfl, (K3.trans hK).drewN _⟩
     ·
      have HN : Hid (srcK c f (k + 1) = true) := Lib.hid (by rw [HB.out, hi, hS.out]; rfl)
      go_wp2
      go_quiet ((go_at_call 30; exact Calls.quiet_of_same (l8Is_any _ _ zs (r2.keep ((Keep.refl wr).drewN _)) (by omega) _)))
      go_wp2
      go_roundw
      case rel => exact ⟨k + 1, by omega, by go_num, HN, hK.drewN _⟩
      case measure => simp [intOf]; omega
    ·
     obtain rfl : k = c.length := by omega
     go_wp2
     go_ret
     exact ⟨by rw [HE.out, HS.out, hS.out]; rfl, K3.trans hK⟩
  ·
   have hlb : ((c.length : Int) != (f.length : Int)) = true := by simp; omega
   have HS : Hid (srcB c f = false) := Lib.hid (by unfold srcB; simp [hl])
   clear hl
   go_wp2
   go_ret
   exact ⟨by rw [HE.out, HS.out]; rfl, K3⟩
end Go.Proofs.Ytkbkdlaknmgjpaa
