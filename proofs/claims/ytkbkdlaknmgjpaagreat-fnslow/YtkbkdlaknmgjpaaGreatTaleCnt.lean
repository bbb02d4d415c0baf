/- How great the numbers of sources, rows and tales are. -/
import Derived.Test.YtkbkdlaknmgjpaaGreatMA
namespace Go.Proofs.YtkbkdlaknmgjpaaGreat

theorem evs_parts {dss : List (List Dd)} (hb : workB dss = true) : (idxB rdE (eventsB dss)).length ≤ 6 ∧ ∀ p, p < 3 → 0 < (plcW (eventsB dss) p).length ∧ (plcW (eventsB dss) p).length ≤ 7 := by
  obtain ⟨h12, hl, hsum, _, _⟩ := events_law hb
  have h9 : (evsW dss dss.length).length ≤ 9 := by
    simp only [workB, Bool.and_eq_true, decide_eq_true_eq] at hb
    obtain ⟨⟨⟨⟨_, _⟩, _⟩, h4⟩, _⟩ := hb
    omega
  have p0 := (plcW_first hb 0 (by decide)).1
  have p1 := (plcW_first hb 1 (by decide)).1
  have p2 := (plcW_first hb 2 (by decide)).1
  have e : ∀ f, idxB f (eventsB dss) = idxK f (evsW dss dss.length) (evsW dss dss.length).length := fun f => by
    unfold idxB
    rw [eventsB, if_pos hb, if_pos h12]
  unfold plcW at p0 p1 p2 ⊢
  rw [e] at p0 p1 p2 ⊢
  refine ⟨?_, fun p hp => ?_⟩
  · have q0 : (idxK (toE ((0 : Nat) : Int)) (evsW dss dss.length) (evsW dss dss.length).length).length = (idxK (toE 0) (evsW dss dss.length) (evsW dss dss.length).length).length := rfl
    have q1 : (idxK (toE ((1 : Nat) : Int)) (evsW dss dss.length) (evsW dss dss.length).length).length = (idxK (toE 1) (evsW dss dss.length) (evsW dss dss.length).length).length := rfl
    have q2 : (idxK (toE ((2 : Nat) : Int)) (evsW dss dss.length) (evsW dss dss.length).length).length = (idxK (toE 2) (evsW dss dss.length) (evsW dss dss.length).length).length := rfl
    omega
  · have q0 : (idxK (toE ((0 : Nat) : Int)) (evsW dss dss.length) (evsW dss dss.length).length).length = (idxK (toE 0) (evsW dss dss.length) (evsW dss dss.length).length).length := rfl
    have q1 : (idxK (toE ((1 : Nat) : Int)) (evsW dss dss.length) (evsW dss dss.length).length).length = (idxK (toE 1) (evsW dss dss.length) (evsW dss dss.length).length).length := rfl
    have q2 : (idxK (toE ((2 : Nat) : Int)) (evsW dss dss.length) (evsW dss dss.length).length).length = (idxK (toE 2) (evsW dss dss.length) (evsW dss dss.length).length).length := rfl
    rw [e]
    have : p = 0 ∨ p = 1 ∨ p = 2 := by omega
    rcases this with rfl | rfl | rfl
    · exact ⟨p0, by omega⟩
    · exact ⟨p1, by omega⟩
    · exact ⟨p2, by omega⟩
theorem cnt_nine {c : List (List Int)} (hb : ∀ i, i < c.length → (c.getD i []).length ≤ 9) : ∀ k : Nat, k ≤ c.length → 0 ≤ cntK c k ∧ cntK c k ≤ 9 ^ k
  | 0, _ => by simp [cntK]
  | k + 1, h => by
    obtain ⟨h1, h2⟩ := cnt_nine hb k (by omega)
    have h3 := hb k (by omega)
    rw [cntK]
    refine ⟨Int.mul_nonneg h1 (Int.natCast_nonneg _), ?_⟩
    rw [Int.pow_succ]
    exact Int.mul_le_mul h2 (by omega) (Int.natCast_nonneg _) (Int.le_trans h1 h2)
theorem cnt_six {dss : List (List Dd)} (hb : workB dss = true) : 0 ≤ cntB dss ∧ cntB dss ≤ 531441 := by
  obtain ⟨h6, _⟩ := evs_parts hb
  have hl : (chcL (eventsB dss)).length = (idxB rdE (eventsB dss)).length := chcK_len _ _ _
  have h9 : (eventsB dss).length ≤ 9 := by
    rw [eventsB, if_pos hb]
    have := (events_law hb).2.1
    simp only [workB, Bool.and_eq_true, decide_eq_true_eq] at hb
    obtain ⟨⟨⟨⟨_, _⟩, _⟩, h4⟩, _⟩ := hb
    omega
  have each : ∀ i, i < (chcL (eventsB dss)).length → ((chcL (eventsB dss)).getD i []).length ≤ 9 := fun i hi => by
    unfold chcL
    rw [chcK_get _ _ _ _ (by rw [hl] at hi; exact hi)]
    unfold idxB
    rw [if_pos (by omega)]
    have := idxK_len (toE (plE (eventsB dss) ((if (eventsB dss).length ≤ 12 then idxK rdE (eventsB dss) (eventsB dss).length else []).getD i 0))) (eventsB dss) (eventsB dss).length
    omega
  have h1 := cnt_nine each _ (Nat.le_refl _)
  have h2 : ∀ j : Nat, j ≤ 6 → (9 : Int) ^ j ≤ 531441 := by decide +kernel
  rw [cntB, if_pos hb]
  exact ⟨h1.1, Int.le_trans h1.2 (h2 _ (by omega))⟩
theorem rcnt_six {dss : List (List Dd)} (hb : workB dss = true) : 0 < rcntB dss ∧ rcntB dss ≤ 373248000 := by
  obtain ⟨_, hp⟩ := evs_parts hb
  have top : ∀ j : Nat, j ≤ 6 → fac j ≤ 720 := by decide +kernel
  have f0 := fac_pos ((plcW (eventsB dss) 0).length - 1)
  have f1 := fac_pos ((plcW (eventsB dss) 1).length - 1)
  have f2 := fac_pos ((plcW (eventsB dss) 2).length - 1)
  have t0 := top _ (show (plcW (eventsB dss) 0).length - 1 ≤ 6 by have := (hp 0 (by decide)).2; omega)
  have t1 := top _ (show (plcW (eventsB dss) 1).length - 1 ≤ 6 by have := (hp 1 (by decide)).2; omega)
  have t2 := top _ (show (plcW (eventsB dss) 2).length - 1 ≤ 6 by have := (hp 2 (by decide)).2; omega)
  rw [rcntB, if_pos hb]
  unfold rcntL
  refine ⟨Int.mul_pos (Int.mul_pos f0 f1) f2, ?_⟩
  have m1 : fac ((plcW (eventsB dss) 0).length - 1) * fac ((plcW (eventsB dss) 1).length - 1) ≤ 720 * 720 := Int.mul_le_mul t0 t1 (by omega) (by decide)
  have m2 : fac ((plcW (eventsB dss) 0).length - 1) * fac ((plcW (eventsB dss) 1).length - 1) * fac ((plcW (eventsB dss) 2).length - 1) ≤ 720 * 720 * 720 := Int.mul_le_mul m1 t2 (by omega) (by decide)
  omega
theorem tcB_in (dss : List (List Dd)) : -1 ≤ tcB dss ∧ tcB dss ≤ 198359290368000 := by
  unfold tcB
  split
  · rename_i hb
    obtain ⟨a0, a1⟩ := cnt_six hb
    obtain ⟨b0, b1⟩ := rcnt_six hb
    have m : cntB dss * rcntB dss ≤ 531441 * 373248000 := Int.mul_le_mul a1 b1 (by omega) (by decide)
    exact ⟨by have := Int.mul_nonneg a0 (Int.le_of_lt b0); omega, by omega⟩
  · decide
end Go.Proofs.YtkbkdlaknmgjpaaGreat
