/- Contract of the program's Lifted. -/
import Derived.Test.YtkbkdlaknmgjpaaGreatMatesI
import Derived.Test.YtkbkdlaknmgjpaaGreatThenI
import Derived.Test.YtkbkdlaknmgjpaaGreatLessI
namespace Go.Proofs.YtkbkdlaknmgjpaaGreat
open Go.ChangeShapes Go.WideShapes Go.ChangeAt Go.RowKit

theorem liftI_bad {zs cl : List Int} (h : ¬ (webB zs = true ∧ cl.length = zs.length)) : liftL zs cl = [] := by unfold liftL; rw [if_neg h]
set_option maxHeartbeats 1000000 in
theorem implLifted_any (w : World) (v1 v2 : Value) (xs ys : List Int) (h1 : Rd w v1 xs) (h2 : Rd w v2 ys) (n1 : xs.length ≤ 1048576) (_n2 : ys.length ≤ 1048576) :
    Calls Tryz.prog 38 #[v1, v2] w fun e w' => ∃ v', e = .returned v' ∧ Row w' w.heap.size v' (liftL xs ys) ∧ Keep w w' := by
  have r1 := h1
  have r2 := h2
  obtain ⟨a1, c1, rfl, _⟩ := h1
  obtain ⟨a2, c2, rfl, _⟩ := h2
  cases ha : webB xs
  · go_enter Tryz.func38, Tryz.ntmps38
    go_wp2_with fail
    refine (implWebOk_any _ _ _ r1 n1).mono ?_
    rintro e w' ⟨rfl, rfl⟩
    go_wp2
    go_ret
    exact ⟨_, rfl, by rw [liftI_bad (by simp [ha])]; exact row_empty _ _, (Keep.refl _).alloc _⟩
  · by_cases hl : ys.length = xs.length
    · have hlb : ((ys.length : Int) != (xs.length : Int)) = false := by simp [hl]
      have HL : Hid (ys.length = xs.length) := hl
      have hx12 := webB_len ha
      have hy12 : ys.length ≤ 12 := by omega
      have HW : Hid (Web xs.length xs) := web_iff.1 ha
      have HE : Hid (mixL notI (thenL (thenL (matesL ys) xs) (matesL ys)) (matesL ys) = liftL xs ys) := lift_mates HW.out hl
      have hm12 : (matesL ys).length ≤ 12 := by simp [matesL]; exact hy12
      have ht12 : (thenL (matesL ys) xs).length ≤ 12 := by
        have h := web_then (web_mates HW.out.1 hl).1 HW.out
        have := h.1.1; have := h.1.2.1; omega
      have hu12 : (thenL (thenL (matesL ys) xs) (matesL ys)).length ≤ 12 := by
        have hm := web_mates HW.out.1 hl
        have h := web_then (web_then hm.1 HW.out).1 hm.1
        have := h.1.1; have := h.1.2.1; omega
      clear hl
      go_enter Tryz.func38, Tryz.ntmps38
      go_wp2_with fail
      refine (implWebOk_any _ _ _ r1 n1).mono ?_
      rintro e w' ⟨rfl, rfl⟩
      go_wp2_with fail
      refine (mates_any _ _ _ r2 hy12).mono ?_
      rintro e w1 ⟨vm, rfl, hm, k1⟩
      have m1 := hm.rd
      have x1 := r1.keep k1
      clear hm r1 r2
      go_wp2_with fail
      refine (implThen_any _ _ _ _ _ m1 x1 (by omega) (by omega)).mono ?_
      rintro e w2 ⟨vt, rfl, ht, k2⟩
      have t2 := ht.rd
      have m2 := m1.keep k2
      clear ht m1 x1
      go_wp2_with fail
      refine (implThen_any _ _ _ _ _ t2 m2 (by omega) (by omega)).mono ?_
      rintro e w3 ⟨vu, rfl, hu, k3⟩
      have u3 := hu.rd
      have m3 := m2.keep k3
      clear hu t2 m2
      go_wp2_with fail
      refine (implLess_any _ _ _ _ _ u3 m3 (by omega) (by omega)).mono ?_
      rintro e w4 ⟨vq, rfl, hq, k4⟩
      rw [HE.out] at hq
      have K3 := (k1.trans k2).trans k3
      have hs := K3.size
      go_wp2
      go_ret
      exact ⟨_, rfl, hq.base_le hs, K3.trans k4⟩
    · have hlb : ((ys.length : Int) != (xs.length : Int)) = true := by simp; omega
      have HL : Hid (¬ ys.length = xs.length) := hl
      clear hl
      go_enter Tryz.func38, Tryz.ntmps38
      go_wp2_with fail
      refine (implWebOk_any _ _ _ r1 n1).mono ?_
      rintro e w' ⟨rfl, rfl⟩
      go_wp2
      go_ret
      exact ⟨_, rfl, by rw [liftI_bad (fun h => HL.out h.2)]; exact row_empty _ _, (Keep.refl _).alloc _⟩
end Go.Proofs.YtkbkdlaknmgjpaaGreat
