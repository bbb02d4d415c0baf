/- Contracts of the specification's l9Count and RowsCount. -/
import Derived.Test.YtkbkdlaknmgjpaaGreatFacS
import Derived.Test.YtkbkdlaknmgjpaaGreatMA
import Derived.Test.YtkbkdlaknmgjpaaGreatME
namespace Go.Proofs.YtkbkdlaknmgjpaaGreat
open Go.ChangeShapes Go.WideShapes Go.ChangeAt Go.RowKit

def rcK (es : List Ev) : Nat → Int
  | 0 => 1
  | k + 1 => rcK es k * fac ((plcW es k).length - 1)
theorem rcK_three (es : List Ev) : rcK es 3 = rcntL es := by
  unfold rcntL
  show 1 * _ * _ * _ = _
  rw [Int.one_mul]
theorem rcK_in {es : List Ev} (hx : es.length ≤ 9) : ∀ k : Nat, k ≤ 3 → 0 < rcK es k ∧ rcK es k ≤ 40320 ^ k
  | 0, _ => ⟨by simp [rcK], by simp [rcK]⟩
  | k + 1, h => by
    obtain ⟨h1, h2⟩ := rcK_in hx k (by omega)
    have b : (plcW es k).length - 1 ≤ 8 := by
      unfold plcW idxB
      rw [if_pos (by omega)]
      have := idxK_len (toE (k : Int)) es es.length
      omega
    have top : ∀ j : Nat, j ≤ 8 → fac j ≤ 40320 := by decide +kernel
    have f0 := fac_pos ((plcW es k).length - 1)
    have t0 := top _ b
    rw [rcK]
    refine ⟨Int.mul_pos h1 f0, ?_⟩
    rw [Int.pow_succ]
    exact Int.mul_le_mul h2 t0 (by omega) (Int.le_trans (by omega) h2)
theorem plcW_len9 {es : List Ev} (hx : es.length ≤ 9) (p : Nat) : (plcW es p).length ≤ 9 := by
  unfold plcW idxB
  rw [if_pos (by omega)]
  have := idxK_len (toE (p : Int)) es es.length
  omega
set_option maxRecDepth 100000 in
set_option maxHeartbeats 1000000 in
theorem l9Count_any (w : World) (v : Value) (es : List Ev) (h : RdE w v es) (hx : es.length ≤ 9) (hp : ∀ p, p < 3 → 0 < (plcW es p).length) :
    Calls Tryz.prog 180 #[v] w fun e w' => e = .returned (.int .i64 (rcntL es)) ∧ Keep w w' := by
  rw [← rcK_three]
  go_enter Tryz.func180, Tryz.ntmps180
  go_wp2_with fail
  refine (l9Places_any _ _ _ h (by omega)).mono ?_
  rintro e w1 ⟨v1, rfl, r1, k1⟩
  obtain ⟨a, c, rfl, r1⟩ := r1
  rcases r1 with h0 | ⟨b, o, rfl, hb, hc⟩
  · exfalso; have := plcK_len es 3; rw [h0] at this; simp at this
  rw [plcK_len] at hc ⊢
  go_wp2
  go_loopw [4, 5] (fun x i wr => ∃ k : Nat, k ≤ 3 ∧ x = .int .i64 (rcK es k) ∧ i = .int .i64 k ∧ wr = w1) (fun _ i _ => 3 - (intOf i).toNat)
  case atStart => exact ⟨0, Nat.zero_le _, rfl, rfl, rfl⟩
  case round =>
    obtain ⟨k, hk, rfl, rfl, rfl⟩ := hrel
    by_cases hlt : k < 3
    · obtain ⟨vi, e1, r2⟩ := hc k hlt
      rw [plcK_get es k hlt] at r2
      have HN : Hid (rcK es (k + 1) = rcK es k * fac ((plcW es k).length - 1)) := Lib.hid rfl
      obtain ⟨t0, t1⟩ := rcK_in hx k (by omega)
      obtain ⟨s0, s1⟩ := rcK_in hx (k + 1) (by omega)
      rw [HN.out] at s0 s1
      have p40 : ∀ j : Nat, j ≤ 3 → (40320 : Int) ^ j ≤ 65548320768000 := by decide +kernel
      have q0 := p40 k (by omega)
      have q1 := p40 (k + 1) (by omega)
      have hl := plcW_len9 hx k
      have hp0 := hp k hlt
      clear hc hp
      obtain ⟨az, cz, rfl, -⟩ := r2
      obtain ⟨m, hm⟩ : ∃ m, (plcW es k).length = m + 1 := ⟨(plcW es k).length - 1, by omega⟩
      rw [hm] at hl e1 HN s0 s1
      rw [Nat.add_sub_cancel] at HN s0 s1
      clear hm hp0
      have C := fun (W : World) => l9Factorial_any W m (by omega)
      have fp := fac_pos m
      have ft := fac_top (n := m) (by omega)
      generalize fac m = F at C HN s0 s1 fp ft
      generalize rcK es k = x at t0 t1 s0 s1 HN
      have i1 : (0 : Int) ≤ (k : Int) := Int.natCast_nonneg _
      have i2 : (k : Int) < 3 := by omega
      have i3 : (m : Int) ≤ 8 := by omega
      have x1 : x ≤ 65548320768000 := by omega
      have y1 : x * F ≤ 65548320768000 := by omega
      clear t1 s1 q0 q1
      go_wp2_with fail
      refine (C _).mono ?_
      rintro e w2 ⟨rfl, rfl⟩
      go_wp2
      go_roundw
      case rel => exact ⟨k + 1, by omega, by rw [HN.out], by go_num, trivial⟩
      case measure => simp [intOf]; omega
    · obtain rfl : k = 3 := by omega
      go_wp2
      go_ret
      exact ⟨rfl, k1⟩
theorem rcntB_in (dss : List (List Dd)) : -1 ≤ rcntB dss ∧ rcntB dss ≤ 65548320768000 := by
  unfold rcntB
  split
  · rename_i hb
    have hx : (eventsB dss).length ≤ 9 := by rw [eventsB, if_pos hb]; exact evsW_9 hb
    have h3 := rcK_in hx 3 (Nat.le_refl _)
    rw [rcK_three] at h3
    have : (40320 : Int) ^ 3 ≤ 65548320768000 := by decide +kernel
    omega
  · omega
theorem specRowsCount_any (w : World) (v : Value) (dss : List (List Dd)) (h : RdW w v dss) (hx : dss.length ≤ 1048576) (hm : ∀ i, i < dss.length → (dss.getD i []).length ≤ 1048576) :
    Calls Tryz.prog 175 #[v] w fun e w' => e = .returned (.int .i64 (rcntB dss)) ∧ Keep w w' := by
  cases hb : workB dss
  · have HE : Hid (rcntB dss = -1) := Lib.hid (by rw [rcntB, hb]; rfl)
    go_enter Tryz.func175, Tryz.ntmps175
    go_wp2_with fail
    refine (specWorkOk_any _ _ _ h hx hm).mono ?_
    rintro e w1 ⟨rfl, k1⟩
    go_wp2
    go_ret
    exact ⟨by rw [HE.out]; rfl, k1⟩
  · have HE : Hid (rcntB dss = rcntL (evsW dss dss.length)) := Lib.hid (by rw [rcntB, if_pos hb, eventsB, if_pos hb])
    obtain ⟨u1, u2⟩ := workB_useR hb
    have h9 := evsW_9 hb
    have hp : ∀ p, p < 3 → 0 < (plcW (evsW dss dss.length) p).length := fun p hp => by have := (plcW_first hb p hp).1; rw [eventsB, if_pos hb] at this; exact this
    go_enter Tryz.func175, Tryz.ntmps175
    go_wp2_with fail
    refine (specWorkOk_any _ _ _ h hx hm).mono ?_
    rintro e w1 ⟨rfl, k1⟩
    go_wp2_with fail
    refine (l6Events_any _ _ _ (h.keep k1) u1 u2).mono ?_
    rintro e w2 ⟨v2, rfl, a2, k2⟩
    go_wp2_with fail
    refine (l9Count_any _ _ _ a2.rd h9 hp).mono ?_
    rintro e w3 ⟨rfl, k3⟩
    go_wp2
    go_ret
    exact ⟨by rw [HE.out]; rfl, (k1.trans k2).trans k3⟩
end Go.Proofs.YtkbkdlaknmgjpaaGreat
