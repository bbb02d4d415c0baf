/- Several texts in one. -/
import Derived.Test.YtgolhjmbloiakabMC
import Derived.Test.YtgolhjmbloiakabMB
import Derived.Test.YtgolhjmbloiakabMA
import Derived.Deep.RegionLaw
import Derived.RegionTactic
/- What the laws on tales ask of the lists. -/
namespace Go.Proofs.Ytgolhjmbloiakab
open Go.RowKit

theorem idxK_has (f : Ev → Bool) (l : List Ev) {i : Nat} (hf : f (l.getD i zE) = true) : ∀ k : Nat, i < k → (i : Int) ∈ idxK f l k
  | 0, h => by omega
  | k + 1, h => by
    rw [idxK]
    by_cases e : i = k
    · subst e
      rw [if_pos hf]
      exact List.mem_append.2 (.inr (by simp))
    · have ih := idxK_has f l hf k (by omega)
      split
      · exact List.mem_append.2 (.inl ih)
      · exact ih
theorem tale_use {dss : List (List Dd)} {f rows : List Int} (h : taleB dss f rows = true) : workB dss = true ∧ srcB (chcL (eventsB dss)) f = true ∧ rowsL (eventsB dss) rows = true := by
  unfold taleB sourceB rowsB at h
  simp only [Bool.and_eq_true] at h
  exact ⟨h.1.1, h.1.2, h.2.2⟩
theorem ag_law {dss : List (List Dd)} {f rows : List Int} (h : taleB dss f rows = true) :
    agB dss f rows = thenL (backL (fwB dss f)) (rwB dss rows) ∧ (idxB rdE (eventsB dss)).length = f.length ∧ f.length ≤ 12 ∧ (ocB dss f rows).length = (idxB rdE (eventsB dss)).length + 3 ∧ (rwB dss rows).length = (eventsB dss).length ∧
    (∀ i, i < (idxB rdE (eventsB dss)).length → ∃ a : Nat, f.getD i 0 = (a : Int) ∧ a < (eventsB dss).length ∧ (ocB dss f rows).getD i 0 = ((eventsB dss).getD a zE).2.2.2.2.1) ∧
    (∀ i, i < (eventsB dss).length → 0 ≤ ((eventsB dss).getD i zE).2.2.2.1 ∧ ((eventsB dss).getD i zE).2.2.2.1 ≤ 2) ∧
    ∀ i : Nat, i < (eventsB dss).length → ((eventsB dss).getD i zE).2.2.1 = false → (rwB dss rows).getD i 0 = 0 → (ocB dss f rows).getD ((idxB rdE (eventsB dss)).length + ((eventsB dss).getD i zE).2.2.2.1.toNat) 0 = ((eventsB dss).getD i zE).2.2.2.2.1 := by
  obtain ⟨hb, hs, hr⟩ := tale_use h
  have hx := eventsB_12 dss
  obtain ⟨sl, su⟩ := src_use hx hs
  obtain ⟨rn, _, ru⟩ := rows_use hx hr
  have hso : sourceB dss f = true := by rw [sourceB, hb, hs]; rfl
  have hro : rowsB dss rows = true := by rw [rowsB, hb, hr]; rfl
  have e1 : fwB dss f = fwK (eventsB dss).length (idxB rdE (eventsB dss)) f (idxB rdE (eventsB dss)).length := by rw [fwB, if_pos hso]; rfl
  have e2 : rwB dss rows = rwL (eventsB dss) rows := by rw [rwB, if_pos hro]
  have e3 : agB dss f rows = agK (eventsB dss).length (idxB rdE (eventsB dss)) f (rwL (eventsB dss) rows) (idxB rdE (eventsB dss)).length := by rw [agB, if_pos h]; rfl
  have e4 : ocB dss f rows = ocK (eventsB dss) f f.length ++ lastK (eventsB dss) rows rows.length := by rw [ocB, if_pos h]; rfl
  have rr : ∀ i, i < (idxB rdE (eventsB dss)).length → 0 ≤ (idxB rdE (eventsB dss)).getD i 0 ∧ (idxB rdE (eventsB dss)).getD i 0 < ((eventsB dss).length : Int) := fun i hi => idxB_range hx hi
  have hnd : (idxB rdE (eventsB dss)).Nodup := by
    unfold idxB
    rw [if_pos hx]
    exact rises_nodup _ (idxK_rises rdE _ _)
  have l12 : (idxB rdE (eventsB dss)).length ≤ 12 := by
    unfold idxB
    rw [if_pos hx]
    have := idxK_len rdE (eventsB dss) (eventsB dss).length
    omega
  have wr := web_rwAll hx ru rows.length (Nat.le_refl _)
  have wf := fw_line hx (idxB rdE (eventsB dss)).length rr (fun i hi => (su i hi).1)
  have wa := web_ag hx hnd wr.1 (idxB rdE (eventsB dss)).length (Nat.le_refl _) rr (fun i hi => (su i hi).1)
  have wb := web_back wf.1
  have wt := web_then wb.1 wr.1
  have plin : ∀ i, i < (eventsB dss).length → 0 ≤ ((eventsB dss).getD i zE).2.2.2.1 ∧ ((eventsB dss).getD i zE).2.2.2.1 ≤ 2 := fun i hi => by
    have := place_in hb i (by rw [eventsB, if_pos hb] at hi; exact hi)
    rw [eventsB, if_pos hb]
    exact this
  refine ⟨?_, sl, by omega, ?_, ?_, fun i hi => ?_, plin, fun i hi hrd h0 => ?_⟩
  · rw [e3, e1, e2]
    refine Web.ext wa.1 wt.1 (fun a j ha hj => ?_)
    have q : line (agK (eventsB dss).length (idxB rdE (eventsB dss)) f (rwL (eventsB dss) rows) (idxB rdE (eventsB dss)).length) a j = true ↔ line (thenL (backL (fwK (eventsB dss).length (idxB rdE (eventsB dss)) f (idxB rdE (eventsB dss)).length)) (rwL (eventsB dss) rows)) a j = true := by
      rw [show rwL (eventsB dss) rows = rwAll (eventsB dss) rows rows.length from rfl]
      rw [wa.2 a j ha, wt.2 a j ha]
      constructor
      · rintro ⟨i, hi, r1, r2⟩
        obtain ⟨b, hbb⟩ := Int.eq_ofNat_of_zero_le (su i hi).1.1
        have hbl : b < (eventsB dss).length := by have := (su i hi).1.2; omega
        rw [hbb, Int.toNat_natCast] at r2
        refine ⟨b, hbl, ?_, r2⟩
        rw [wb.2 a b ha hbl]
        exact (wf.2 b a hbl).2 ⟨i, hi, hbb, r1⟩
      · rintro ⟨b, hbl, r1, r2⟩
        rw [wb.2 a b ha hbl] at r1
        obtain ⟨i, hi, q1, q2⟩ := (wf.2 b a hbl).1 r1
        refine ⟨i, hi, q2, ?_⟩
        rw [q1, Int.toNat_natCast]
        exact r2
    cases h1 : line (agK (eventsB dss).length (idxB rdE (eventsB dss)) f (rwL (eventsB dss) rows) (idxB rdE (eventsB dss)).length) a j with
    | true => exact (q.1 h1).symm
    | false =>
      cases h2 : line (thenL (backL (fwK (eventsB dss).length (idxB rdE (eventsB dss)) f (idxB rdE (eventsB dss)).length)) (rwL (eventsB dss) rows)) a j with
      | false => rfl
      | true => rw [q.2 h2] at h1; cases h1
  · rw [e4, List.length_append, ocK_len, lastK_len]; omega
  · rw [e2]; exact wr.1.2.1
  · obtain ⟨a, ea⟩ := Int.eq_ofNat_of_zero_le (su i hi).1.1
    refine ⟨a, ea, by have := (su i hi).1.2; omega, ?_⟩
    rw [e4, List.getD_eq_getElem?_getD, List.getElem?_append_left (by rw [ocK_len]; omega), ← List.getD_eq_getElem?_getD, ocK_get _ _ _ _ (by omega)]
    unfold vlE
    rw [ea, Int.toNat_natCast]
  · obtain ⟨p0, p2⟩ := plin i hi
    obtain ⟨p, hp⟩ := Int.eq_ofNat_of_zero_le p0
    have hp3 : p < 3 := by omega
    have hmem : (i : Int) ∈ plcW (eventsB dss) p := by
      unfold plcW idxB
      rw [if_pos hx]
      refine idxK_has _ _ ?_ _ hi
      unfold toE
      rw [hrd, hp]
      simp
    have hall : (i : Int) ∈ allW (eventsB dss) := by
      unfold allW
      have : p = 0 ∨ p = 1 ∨ p = 2 := by omega
      rcases this with rfl | rfl | rfl
      · exact List.mem_append.2 (.inl (List.mem_append.2 (.inl hmem)))
      · exact List.mem_append.2 (.inl (List.mem_append.2 (.inr hmem)))
      · exact List.mem_append.2 (.inr hmem)
    have hin := (rows_perm hx hr).mem_iff.1 hall
    obtain ⟨k, hk, ek⟩ := List.getElem_of_mem hin
    have ek' : rows.getD k 0 = (i : Int) := by rw [List.getD_eq_getElem?_getD, List.getElem?_eq_getElem hk]; exact ek
    have hlast := lastK_at hx hr hk rows.length hk (Nat.le_refl _) (fun q hq hql hpl => by
      have c := row_cell hx hr hk hql
      have t : rwP (eventsB dss) rows k q = true := by
        unfold rwP
        rw [decide_eq_true hq, hpl]
        simp
      rw [t, ek', Int.toNat_natCast] at c
      unfold line at c
      rw [← e2, h0, zero_bit] at c
      cases c)
    unfold plE vlE at hlast
    rw [ek', Int.toNat_natCast] at hlast
    rw [e4, List.getD_eq_getElem?_getD, List.getElem?_append_right (by rw [ocK_len]; omega), ocK_len, ← List.getD_eq_getElem?_getD, show (idxB rdE (eventsB dss)).length + ((eventsB dss).getD i zE).2.2.2.1.toNat - f.length = ((eventsB dss).getD i zE).2.2.2.1.toNat by omega]
    exact hlast
theorem tale_at {dss : List (List Dd)} {n : Int} (h : taB dss n = true) :
    workB dss = true ∧ 0 < rcntB dss ∧ taleB dss (tfB dss n) (trB dss n) = true ∧ tcB dss = cntB dss * rcntB dss ∧ ∀ m, taB dss m = true → (decide (tfB dss m = tfB dss n) && decide (trB dss m = trB dss n)) = decide (m = n) := by
  have hd := h
  unfold taB at hd
  rw [decide_eq_true_eq] at hd
  have hb : workB dss = true := by
    cases hb : workB dss with
    | true => rfl
    | false => rw [tcB, hb] at hd; simp at hd; omega
  have hc : tcB dss = cntB dss * rcntB dss := by rw [tcB, if_pos hb]
  have hrp : 0 < rcntB dss := by
    rw [rcntB, if_pos hb]
    unfold rcntL
    exact Int.mul_pos (Int.mul_pos (fac_pos _) (fac_pos _)) (fac_pos _)
  have rng : ∀ m, taB dss m = true → (0 ≤ m / rcntB dss ∧ m / rcntB dss < cntB dss) ∧ (0 ≤ m % rcntB dss ∧ m % rcntB dss < rcntB dss) := fun m hm => by
    unfold taB at hm
    rw [decide_eq_true_eq, hc] at hm
    exact ⟨⟨Int.ediv_nonneg hm.1 (by omega), Int.ediv_lt_of_lt_mul hrp hm.2⟩, Int.emod_nonneg _ (by omega), Int.emod_lt_of_pos _ hrp⟩
  obtain ⟨⟨a0, a1⟩, b0, b1⟩ := rng n h
  have ef : ∀ m, taB dss m = true → tfB dss m = atB dss (m / rcntB dss) := fun m hm => by unfold tfB; rw [if_pos hm]
  have er : ∀ m, taB dss m = true → trB dss m = ratB dss (m % rcntB dss) := fun m hm => by unfold trB; rw [if_pos hm]
  obtain ⟨_, s1, _, _, _, _, _, s2⟩ := src_all a0 a1
  obtain ⟨_, r1, _, _, _, _, _, r2⟩ := row_all b0 b1
  refine ⟨hb, hrp, by rw [ef n h, er n h, taleB, s1, r1]; rfl, hc, fun m hm => ?_⟩
  obtain ⟨⟨c0, c1⟩, d0, d1⟩ := rng m hm
  rw [ef n h, er n h, ef m hm, er m hm, s2 _ c0 c1, r2 _ d0 d1]
  by_cases e : m = n
  · subst e; simp
  · have : ¬ (m / rcntB dss = n / rcntB dss ∧ m % rcntB dss = n % rcntB dss) := fun q => by
      have x := Int.mul_ediv_add_emod m (rcntB dss)
      have y := Int.mul_ediv_add_emod n (rcntB dss)
      rw [q.1, q.2] at x
      omega
    rw [decide_eq_false e]
    rw [Bool.and_eq_false_iff]
    by_cases e1 : m / rcntB dss = n / rcntB dss
    · exact .inr (decide_eq_false (fun e2 => this ⟨e1, e2⟩))
    · exact .inl (decide_eq_false e1)
end Go.Proofs.Ytgolhjmbloiakab

/- How great the numbers of sources, rows and tales are. -/
namespace Go.Proofs.Ytgolhjmbloiakab

theorem evs_parts {dss : List (List Dd)} (hb : workB dss = true) : (idxB rdE (eventsB dss)).length ≤ 6 ∧ ∀ p, p < 3 → 0 < (plcW (eventsB dss) p).length ∧ (plcW (eventsB dss) p).length ≤ 7 := by
  obtain ⟨h12, hl, hsum, _, _⟩ := events_law hb
  have h9 : (evsW dss dss.length).length ≤ 9 := by
    simp only [workB, Bool.and_eq_true, decide_eq_true_eq] at hb
    obtain ⟨⟨⟨⟨_, _⟩, _⟩, h4⟩, _⟩ := hb
    omega
  have p0 := (plcW_first hb 0 (by decide)).1
  have p1 := (plcW_first hb 1 (by decide)).1
  have p2 := (plcW_first hb 2 (by decide)).1
  have e : ∀ f, idxB f (eventsB dss) = idxK f (evsW dss dss.length) (evsW dss dss.length).length := fun f => by
    unfold idxB
    rw [eventsB, if_pos hb, if_pos h12]
  unfold plcW at p0 p1 p2 ⊢
  rw [e] at p0 p1 p2 ⊢
  refine ⟨?_, fun p hp => ?_⟩
  · have q0 : (idxK (toE ((0 : Nat) : Int)) (evsW dss dss.length) (evsW dss dss.length).length).length = (idxK (toE 0) (evsW dss dss.length) (evsW dss dss.length).length).length := rfl
    have q1 : (idxK (toE ((1 : Nat) : Int)) (evsW dss dss.length) (evsW dss dss.length).length).length = (idxK (toE 1) (evsW dss dss.length) (evsW dss dss.length).length).length := rfl
    have q2 : (idxK (toE ((2 : Nat) : Int)) (evsW dss dss.length) (evsW dss dss.length).length).length = (idxK (toE 2) (evsW dss dss.length) (evsW dss dss.length).length).length := rfl
    omega
  · have q0 : (idxK (toE ((0 : Nat) : Int)) (evsW dss dss.length) (evsW dss dss.length).length).length = (idxK (toE 0) (evsW dss dss.length) (evsW dss dss.length).length).length := rfl
    have q1 : (idxK (toE ((1 : Nat) : Int)) (evsW dss dss.length) (evsW dss dss.length).length).length = (idxK (toE 1) (evsW dss dss.length) (evsW dss dss.length).length).length := rfl
    have q2 : (idxK (toE ((2 : Nat) : Int)) (evsW dss dss.length) (evsW dss dss.length).length).length = (idxK (toE 2) (evsW dss dss.length) (evsW dss dss.length).length).length := rfl
    rw [e]
    have : p = 0 ∨ p = 1 ∨ p = 2 := by omega
    rcases this with rfl | rfl | rfl
    · exact ⟨p0, by omega⟩
    · exact ⟨p1, by omega⟩
    · exact ⟨p2, by omega⟩
theorem cnt_nine {c : List (List Int)} (hb : ∀ i, i < c.length → (c.getD i []).length ≤ 9) : ∀ k : Nat, k ≤ c.length → 0 ≤ cntK c k ∧ cntK c k ≤ 9 ^ k
  | 0, _ => by simp [cntK]
  | k + 1, h => by
    obtain ⟨h1, h2⟩ := cnt_nine hb k (by omega)
    have h3 := hb k (by omega)
    rw [cntK]
    refine ⟨Int.mul_nonneg h1 (Int.natCast_nonneg _), ?_⟩
    rw [Int.pow_succ]
    exact Int.mul_le_mul h2 (by omega) (Int.natCast_nonneg _) (Int.le_trans h1 h2)
theorem cnt_six {dss : List (List Dd)} (hb : workB dss = true) : 0 ≤ cntB dss ∧ cntB dss ≤ 531441 := by
  obtain ⟨h6, _⟩ := evs_parts hb
  have hl : (chcL (eventsB dss)).length = (idxB rdE (eventsB dss)).length := chcK_len _ _ _
  have h9 : (eventsB dss).length ≤ 9 := by
    rw [eventsB, if_pos hb]
    have := (events_law hb).2.1
    simp only [workB, Bool.and_eq_true, decide_eq_true_eq] at hb
    obtain ⟨⟨⟨⟨_, _⟩, _⟩, h4⟩, _⟩ := hb
    omega
  have each : ∀ i, i < (chcL (eventsB dss)).length → ((chcL (eventsB dss)).getD i []).length ≤ 9 := fun i hi => by
    unfold chcL
    rw [chcK_get _ _ _ _ (by rw [hl] at hi; exact hi)]
    unfold idxB
    rw [if_pos (by omega)]
    have := idxK_len (toE (plE (eventsB dss) ((if (eventsB dss).length ≤ 12 then idxK rdE (eventsB dss) (eventsB dss).length else []).getD i 0))) (eventsB dss) (eventsB dss).length
    omega
  have h1 := cnt_nine each _ (Nat.le_refl _)
  have h2 : ∀ j : Nat, j ≤ 6 → (9 : Int) ^ j ≤ 531441 := by decide +kernel
  rw [cntB, if_pos hb]
  exact ⟨h1.1, Int.le_trans h1.2 (h2 _ (by omega))⟩
theorem rcnt_six {dss : List (List Dd)} (hb : workB dss = true) : 0 < rcntB dss ∧ rcntB dss ≤ 373248000 := by
  obtain ⟨_, hp⟩ := evs_parts hb
  have top : ∀ j : Nat, j ≤ 6 → fac j ≤ 720 := by decide +kernel
  have f0 := fac_pos ((plcW (eventsB dss) 0).length - 1)
  have f1 := fac_pos ((plcW (eventsB dss) 1).length - 1)
  have f2 := fac_pos ((plcW (eventsB dss) 2).length - 1)
  have t0 := top _ (show (plcW (eventsB dss) 0).length - 1 ≤ 6 by have := (hp 0 (by decide)).2; omega)
  have t1 := top _ (show (plcW (eventsB dss) 1).length - 1 ≤ 6 by have := (hp 1 (by decide)).2; omega)
  have t2 := top _ (show (plcW (eventsB dss) 2).length - 1 ≤ 6 by have := (hp 2 (by decide)).2; omega)
  rw [rcntB, if_pos hb]
  unfold rcntL
  refine ⟨Int.mul_pos (Int.mul_pos f0 f1) f2, ?_⟩
  have m1 : fac ((plcW (eventsB dss) 0).length - 1) * fac ((plcW (eventsB dss) 1).length - 1) ≤ 720 * 720 := Int.mul_le_mul t0 t1 (by omega) (by decide)
  have m2 : fac ((plcW (eventsB dss) 0).length - 1) * fac ((plcW (eventsB dss) 1).length - 1) * fac ((plcW (eventsB dss) 2).length - 1) ≤ 720 * 720 * 720 := Int.mul_le_mul m1 t2 (by omega) (by decide)
  omega
theorem tcB_in (dss : List (List Dd)) : -1 ≤ tcB dss ∧ tcB dss ≤ 198359290368000 := by
  unfold tcB
  split
  · rename_i hb
    obtain ⟨a0, a1⟩ := cnt_six hb
    obtain ⟨b0, b1⟩ := rcnt_six hb
    have m : cntB dss * rcntB dss ≤ 531441 * 373248000 := Int.mul_le_mul a1 b1 (by omega) (by decide)
    exact ⟨by have := Int.mul_nonneg a0 (Int.le_of_lt b0); omega, by omega⟩
  · decide
end Go.Proofs.Ytgolhjmbloiakab

/- Contract of the program's TalesCount. -/
namespace Go.Proofs.Ytgolhjmbloiakab
open Go.ChangeShapes Go.WideShapes Go.ChangeAt Go.RowKit

theorem implTalesCount_any (w : World) (v : Value) (dss : List (List Dd)) (h : RdW w v dss) (hx : dss.length ≤ 1048576) (hm : ∀ i, i < dss.length → (dss.getD i []).length ≤ 1048576) :
    Calls Try.prog 20 #[v] w fun e w' => e = .returned (.int .i64 (tcB dss)) ∧ Keep w w' := by
  have C := implWorkOk_any w v dss h hx hm
  cases hb : workB dss
  · have HE : Hid (tcB dss = -1) := Lib.hid (by rw [tcB, hb]; rfl)
    rw [hb] at C
    go_enter Try.func20, Try.ntmps20
    go_wp2_with fail
    refine C.mono ?_
    rintro e w1 ⟨rfl, k1⟩
    go_wp2
    go_ret
    exact ⟨by rw [HE.out]; rfl, k1⟩
  · have HE : Hid (tcB dss = cntB dss * rcntB dss) := Lib.hid (by rw [tcB, if_pos hb])
    have c1 := cnt_six hb
    have c2 := rcnt_six hb
    have c3 := tcB_in dss
    rw [HE.out] at c3
    have HW : Hid (IntKind.i64.wrap (cntB dss * rcntB dss) = cntB dss * rcntB dss) := Lib.hid (by rw [IntKind.wrap_i64]; omega)
    rw [hb] at C
    have CS := fun (W : World) (kW : Keep w W) => implSourcesCount_any W v dss (h.keep kW) hx hm
    have CR := fun (W : World) (kW : Keep w W) => implRowsCount_any W v dss (h.keep kW) hx hm
    generalize cntB dss = m1 at *
    generalize rcntB dss = m2 at *
    have hw := HW.out
    clear c3
    go_enter Try.func20, Try.ntmps20
    go_wp2_with fail
    refine C.mono ?_
    rintro e w1 ⟨rfl, k1⟩
    go_wp2_with fail
    refine (CS _ k1).mono ?_
    rintro e w2 ⟨rfl, k2⟩
    go_wp2_with fail
    refine (CR _ (k1.trans k2)).mono ?_
    rintro e w3 ⟨rfl, k3⟩
    go_wp2
    go_ret
    exact ⟨by rw [HE.out]; rfl, (k1.trans k2).trans k3⟩
end Go.Proofs.Ytgolhjmbloiakab

/- Contract of the program's SourceAt. -/
namespace Go.Proofs.Ytgolhjmbloiakab
open Go.ChangeShapes Go.WideShapes Go.ChangeAt Go.RowKit Go.Shelf

/-- A result that lies in a box of one cell. -/
theorem results_box {P : Program} {fn : Func} {p : Tmp} {ty e : TypeId} (h : fn.results = #[.cell p ty]) (hu : P.underlying ty = some (.slice e)) (tmps : Array Value) (w : World) (g : Nat) (v : Value) (hp : tmps.getD p undef = .pointer (some ⟨g, 0, none⟩)) (hc : w.cell? ⟨g, 0, none⟩ = some v) :
    (results fn tmps).run P w = .ok v w := by
  have hp' : tmps[p]?.getD undef = .pointer (some ⟨g, 0, none⟩) := by simpa using hp
  have hagg : (isAgg ty).run P w = .ok false w := by
    unfold isAgg
    rw [Sem.run_bind, run_underlying hu w]
    rfl
  simp only [results, h]
  simp [Sem.run_bind, Result.andThen, asAddr, hp', loadVar, load, hagg]
  simp [Sem.run, hc]
/-- Which source comes k-th, and which numbers none has. -/
theorem at_hit {dss : List (List Dd)} {n : Int} {k : Nat} (hk : k < srcN (chcL (eventsB dss)) (chcL (eventsB dss)).length) (e : (k : Int) = n) : atB dss n = atP (chcL (eventsB dss)) (chcL (eventsB dss)).length k := by
  rw [atP_all]
  cases hb : workB dss
  · have e0 : eventsB dss = [] := by rw [eventsB, hb]; rfl
    have e1 : chcL (eventsB dss) = [] := by rw [e0]; rfl
    have e2 : cntB dss = -1 := by rw [cntB, hb]; rfl
    rw [e1]
    unfold atB
    rw [if_neg (by omega)]
    rfl
  · have e2 : cntB dss = (srcN (chcL (eventsB dss)) (chcL (eventsB dss)).length : Nat) := by rw [srcN_int, cntB, if_pos hb]
    unfold atB
    rw [if_pos (by omega), e]
theorem at_none {dss : List (List Dd)} {n : Int} (h : ∀ k : Nat, k < srcN (chcL (eventsB dss)) (chcL (eventsB dss)).length → (k : Int) ≠ n) : atB dss n = [] := by
  unfold atB
  rw [if_neg]
  rintro ⟨h1, h2⟩
  cases hb : workB dss
  · have e2 : cntB dss = -1 := by rw [cntB, hb]; rfl
    omega
  · have e2 : cntB dss = (srcN (chcL (eventsB dss)) (chcL (eventsB dss)).length : Nat) := by rw [srcN_int, cntB, if_pos hb]
    obtain ⟨k, hk⟩ := Int.eq_ofNat_of_zero_le h1
    exact h k (by omega) hk.symm
set_option maxRecDepth 100000 in
set_option maxHeartbeats 2000000 in
theorem implSourceAt_own (w : World) (v : Value) (dss : List (List Dd)) (n : Int) (h : RdW w v dss) (hx : dss.length ≤ 1048576) (hm : ∀ i, i < dss.length → (dss.getD i []).length ≤ 1048576) :
    Calls Try.prog 22 #[v, .int .i64 n] w fun e w' => ∃ v', e = .returned v' ∧ Own w' w.heap.size v' (atB dss n) ∧ Keep w w' := by
  have h12 : (eventsB dss).length ≤ 12 := by have := eventsB_len9 dss; omega
  obtain ⟨cl1, cl2⟩ := chc_len h12
  have cl3 := chc_twelve h12
  have ct := (cnt_top cl1 cl2 _ (Nat.le_refl _)).2
  rw [← srcN_int] at ct
  have HH := fun (k : Nat) hk e => Lib.hid (at_hit (dss := dss) (n := n) (k := k) hk e)
  have HN := fun h => Lib.hid (at_none (dss := dss) (n := n) h)
  have hdw : Fence.wide.depth = none := rfl
  have hsem := @Oper.semAt_some
  have bA := ((Boxed.new w 2 (.int .i64 n)).alloc (.cells #[.slice none 0 0] 24)).alloc (.cells #[.int .i64 0] 2)
  have bB := (Boxed.new (w.alloc (.cells #[.int .i64 n] 2)) 24 (.slice none 0 0)).alloc (.cells #[.int .i64 0] 2)
  have bC := Boxed.new ((w.alloc (.cells #[.int .i64 n] 2)).alloc (.cells #[.slice none 0 0] 24)) 2 (.int .i64 0)
  have k1 : Keep w (((w.alloc (.cells #[.int .i64 n] 2)).alloc (.cells #[.slice none 0 0] 24)).alloc (.cells #[.int .i64 0] 2)) := (((Keep.refl w).alloc _).alloc _).alloc _
  have hz1 : (((w.alloc (.cells #[.int .i64 n] 2)).alloc (.cells #[.slice none 0 0] 24)).alloc (.cells #[.int .i64 0] 2)).heap.size = w.heap.size + 3 := by simp only [heap_size]
  simp only [heap_size] at bB bC
  refine (callsIn_wide (n := 0)).1 (callsIn_of_wp_marks Try.func22 rfl trivial ?_ rfl)
  simp only [Try.ntmps22, List.size_toArray, List.length_cons, List.length_nil, Nat.reduceAdd, Nat.reduceSub, Array.replicate_succ, Array.replicate_zero, List.push_toArray, List.append_toArray, List.nil_append, List.cons_append]
  gi_wp2_with fail
  generalize ((w.alloc (.cells #[.int .i64 n] 2)).alloc (.cells #[.slice none 0 0] 24)).alloc (.cells #[.int .i64 0] 2) = w1 at *
  refine ⟨trivial, (callsIn_wide.2 (implEventsOf_any _ _ _ (h.keep k1) hx hm)).mono ?_⟩
  rintro e w2 ⟨v2, rfl, a2, k2⟩
  gi_wp2_with fail
  refine ⟨trivial, (callsIn_wide.2 (choicesOf_any _ _ _ a2.rd h12)).mono ?_⟩
  rintro e w3 ⟨v3, rfl, rp, k3⟩
  have cA := boxed_keep (boxed_keep bA k2) k3
  have cB := boxed_keep (boxed_keep bB k2) k3
  have cC := boxed_keep (boxed_keep bC k2) k3
  have K3 := (k1.trans k2).trans k3
  have s2 := k2.size
  have s3 := k3.size
  generalize chcL (eventsB dss) = css at *
  obtain ⟨ac, cc, hv3, -, -⟩ := rp.2
  subst hv3
  clear k1 k2 k3 bA bB bC a2 h hx hm h12
  gi_wp2_with fail
  refine ⟨trivial, (callsIn_wide.2 (sources_any _ _ _ _)).mono ?_⟩
  rintro e w4 ⟨rfl, rfl⟩
  have bc := (Boxed.new w3 52 (.slice ac css.length cc)).cell
  have dA := cA.alloc (.cells #[.slice ac css.length cc] 52)
  have dB := cB.alloc (.cells #[.slice ac css.length cc] 52)
  have dC := cC.alloc (.cells #[.slice ac css.length cc] 52)
  have K4 := K3.alloc (.cells #[.slice ac css.length cc] 52)
  have rp4 := rp.but (Nat.le_refl _) ((But.refl (fun _ => False) w3).alloc (.cells #[.slice ac css.length cc] 52)) (fun _ _ _ h => h)
  have hz4 := heap_size w3 (.cells #[.slice ac css.length cc] 52)
  generalize w3.alloc (.cells #[.slice ac css.length cc] 52) = w4 at *
  have hseq := sources_seq css w2.heap.size w3.heap.size cl3 css.length cl1 w4 w3.heap.size _ rp4 bc (by omega) (by omega)
  clear cA cB cC K3 bc rp rp4
  gi_wp2
  refine wp_rangeM (gf := 66) (lb := #[.pointer (some ⟨w3.heap.size, 0, none⟩)]) rfl (enters_of Try.func66 (by kernel_rfl) rfl) rfl hseq (But.refl _ _) ?pr (fun b => b = w.heap.size + 1 ∨ b = w.heap.size + 2) ?hC
    (fun k A => Boxed A w.heap.size 2 (.int .i64 n) ∧ Boxed A (w.heap.size + 1) 24 (.slice none 0 0) ∧ Boxed A (w.heap.size + 2) 2 (.int .i64 k) ∧ Keep w A ∧ ∀ j : Nat, j < k → (j : Int) ≠ n)
    (fun c k A => c = .ret ∧ (k : Int) = n ∧ ∃ v', Boxed A (w.heap.size + 1) 24 v' ∧ Own A (w4.heap.size + 2) v' (atP css css.length k) ∧ Keep w A) ?hI ?hIx (lieS_but css css.length) ⟨dA, dB, dC, K4, fun j hj => absurd hj (Nat.not_lt_zero _)⟩
    (fun v' => { tmps := #[v, .int .i64 n, undef, .pointer (some ⟨w.heap.size, 0, none⟩), .pointer (some ⟨w.heap.size + 1, 0, none⟩), .pointer (some ⟨w.heap.size + 2, 0, none⟩), v', v, v2, .slice ac css.length cc, .func (.func 66) #[] #[.pointer (some ⟨w3.heap.size, 0, none⟩)], v', undef, undef, undef, undef, undef, undef, undef], defers := [] }) ?assign ?body ?done ?stop
  case pr => rintro b' (⟨_, h⟩ | rfl) <;> omega
  case hC =>
    intro b' hb
    refine ⟨by omega, ?_⟩
    rintro (⟨h1, h2⟩ | h) <;> omega
  case hI =>
    rintro k A B ⟨h1, h2, h3, h4, h5⟩ hB
    have nl : ∀ b, b < w4.heap.size → ¬ NC w4.heap.size A b := fun b h1 h2 => by have := h2.1; omega
    exact ⟨boxed_but h1 hB (nl _ (by omega)), boxed_but h2 hB (nl _ (by omega)), boxed_but h3 hB (nl _ (by omega)), keep_but h4 hB (fun b hb => by have := hb.1; omega), h5⟩
  case hIx =>
    rintro c k A B ⟨h1, h2, v', h3, h4, h5⟩ hB
    exact ⟨h1, h2, v', boxed_but h3 hB (fun h => by have := h.1; omega), h4.turn hB, keep_but h5 hB (fun b hb => by have := hb.1; omega)⟩
  case assign =>
    intro m v' W K hK
    gi_wp2
    exact hK
  case body =>
    rintro m k v' W hk ⟨h1, h2, h3, h4, h5⟩ hv
    have hv' : Own W (w4.heap.size + 2) v' (atP css css.length k) := hv
    clear hv
    obtain ⟨av, cv, rfl, -⟩ := hv'.rd
    have c1 := h1.cell
    have c2 := h2.cell
    have f2 := h2.frozen
    have c3 := h3.cell
    have f3 := h3.frozen
    have i1 : (0 : Int) ≤ (k : Int) := Int.natCast_nonneg _
    have i2 : (k : Int) < 8916100448256 := by omega
    by_cases he : (k : Int) = n
    · have hbe : ((k : Int) == n) = true := by simp [he]
      have HK := Lib.hid he
      clear he
      gi_wp2
      have bu := (But.refl (fun b => b = w.heap.size + 1 ∨ b = w.heap.size + 2) W).setCell (.inl rfl) 0 (.slice av (atP css css.length k).length cv)
      exact ⟨bu, rfl, HK.out, _, h2.set _, hv'.but bu (fun b h1 _ h2 => by omega), keep_but h4 bu (fun b hb => by omega)⟩
    · have hbe : ((k : Int) == n) = false := by simp [he]
      have HK := Lib.hid he
      clear he
      gi_wp2
      have bu := (But.refl (fun b => b = w.heap.size + 1 ∨ b = w.heap.size + 2) W).setCell (.inr rfl) 0 (.int .i64 ((k : Int) + 1))
      refine ⟨bu, boxed_but h1 bu (by omega), boxed_but h2 ((But.refl (fun b => b = w.heap.size + 2) W).setCell rfl 0 _) (by omega), by have := h3.set (.int .i64 ((k : Int) + 1)); simpa using this, keep_but h4 bu (fun b hb => by omega), fun j hj => ?_⟩
      by_cases e : j = k
      · subst e; exact HK.out
      · exact h5 j (by omega)
  case done =>
    rintro W ⟨h1, h2, h3, h4, h5⟩ hD
    have HE := HN h5
    have c2 := (h2.alloc (.cells #[] 2)).cell
    have f2 := (h2.alloc (.cells #[] 2)).frozen
    have HZ := Lib.hid hz4
    clear hz4 HN HH
    gi_wp2
    have hz := HZ.out
    have hlt := (Array.getElem?_eq_some_iff.1 hD).1
    have hD' : ((W.alloc (.cells #[] 2)).setCell ⟨w.heap.size + 1, 0, none⟩ (.slice (some ⟨W.heap.size, 0, none⟩) 0 0)).heap[w4.heap.size]? = some (.deferred (some [])) :=
      (Below.heap_setCell _ _ _ _ (by simp; omega)).trans ((Below.heap_alloc _ _ _ hlt).trans hD)
    have bu := ((But.refl (fun b => b = w.heap.size + 1 ∨ b = w4.heap.size) (W.alloc (.cells #[] 2))).setCell (.inl rfl) 0 (.slice (some ⟨W.heap.size, 0, none⟩) 0 0)).put (.inr rfl) (.deferred none)
    refine ⟨by simp, .inl ⟨_, _, rfl, run_takeDeferred hD', ?_⟩⟩
    exact ⟨_, results_box rfl Try.underlying24 _ _ (w.heap.size + 1) _ rfl (boxed_but ((h2.alloc _).set _) ((But.refl (fun b => b = w4.heap.size) _).put rfl _) (by omega)).cell, _, rfl,
      by rw [HE.out]; exact ((own_emptyI W).but bu (fun b h1 _ h2 => by omega)).base_le h4.size, keep_but (h4.alloc _) bu (fun b hb => by omega)⟩
  case stop =>
    rintro c k W hk ⟨rfl, h2, v', h3, h4, h5⟩ hD
    have HE := HH k hk h2
    have HZ := Lib.hid hz4
    clear hz4 HN HH
    gi_wp2
    have hz := HZ.out
    have bu := (But.refl (fun b => b = w4.heap.size) W).put rfl (.deferred none)
    refine ⟨by simp, .inl ⟨_, _, rfl, run_takeDeferred hD, ?_⟩⟩
    exact ⟨_, results_box rfl Try.underlying24 _ _ (w.heap.size + 1) _ rfl (boxed_but h3 bu (by omega)).cell, _, rfl,
      by rw [HE.out]; exact (h4.but bu (fun b h1 _ h2 => by omega)).base_le (by omega), keep_but h5 bu (fun b hb => by omega)⟩
theorem implSourceAt_any (w : World) (v : Value) (dss : List (List Dd)) (n : Int) (h : RdW w v dss) (hx : dss.length ≤ 1048576) (hm : ∀ i, i < dss.length → (dss.getD i []).length ≤ 1048576) :
    Calls Try.prog 22 #[v, .int .i64 n] w fun e w' => ∃ v', e = .returned v' ∧ Row w' w.heap.size v' (atB dss n) ∧ Keep w w' :=
  (implSourceAt_own w v dss n h hx hm).mono (by
    rintro e w' ⟨v', h1, h2, h3⟩
    exact ⟨v', h1, h2.row, h3⟩)
end Go.Proofs.Ytgolhjmbloiakab

/- A tale in a block of the call's own, while it is filled. -/
namespace Go.Proofs.Ytgolhjmbloiakab
open Go.ChangeShapes Go.WideShapes Go.ChangeAt Go.RowKit

abbrev nilV : Value := .slice none 0 0
abbrev taleC (x y : Value) : Obj := .cells #[x, y] 26
/-- Block D of the world wr is a tale; all else that was in w1 stands as it stood. -/
def StT (w1 wr : World) (D : Nat) (x y : Value) : Prop := wr.heap[D]? = some (taleC x y) ∧ w1.grownBy wr (some D)
theorem StT.start {w1 : World} (x y : Value) : StT w1 (w1.alloc (taleC x y)) w1.heap.size x y :=
  ⟨heap_alloc_new w1 _, World.grownBy_alloc w1 _ (some w1.heap.size)⟩
theorem StT.size {w1 wr : World} {D : Nat} {x y : Value} (h : StT w1 wr D x y) : D < wr.heap.size := (Array.getElem?_eq_some_iff.1 h.1).1
theorem StT.keep {w1 wr wr' : World} {D : Nat} {x y : Value} (h : StT w1 wr D x y) (hk : Keep wr wr') : StT w1 wr' D x y :=
  ⟨(Below.block hk D h.size).trans h.1, grown_trans h.2 ⟨Below.os hk, Below.tape hk, Below.output hk, Below.size hk, fun i hi _ => Below.block hk i hi⟩⟩
theorem StT.cells {w1 wr : World} {D : Nat} {x y : Value} (h : StT w1 wr D x y) :
    wr.cell? ⟨D, 0, none⟩ = some x ∧ wr.cell? ⟨D, 1, none⟩ = some y :=
  ⟨cell_of_row wr D 0 _ _ (0, 0) h.1, cell_of_row wr D 1 _ _ (0, 0) h.1⟩
theorem StT.free {w1 wr : World} {D : Nat} {x y : Value} (h : StT w1 wr D x y) (i : Nat) : wr.frozen? ⟨D, i, none⟩ = false := frozen_of_row wr D i _ _ h.1
theorem StT.set0 {w1 wr : World} {D : Nat} {x y : Value} (h : StT w1 wr D x y) (z : Value) : StT w1 (wr.setCell ⟨D, 0, none⟩ z) D z y :=
  ⟨by rw [heap_setCell_same wr D 0 _ _ _ h.1]; rfl, grown_trans h.2 ⟨rfl, rfl, rfl, by simp, fun i _ hi => heap_setCell_other wr ⟨D, 0, none⟩ i _ (fun e => hi (by simp [e]))⟩⟩
theorem StT.set1 {w1 wr : World} {D : Nat} {x y : Value} (h : StT w1 wr D x y) (z : Value) : StT w1 (wr.setCell ⟨D, 1, none⟩ z) D x z :=
  ⟨by rw [heap_setCell_same wr D 1 _ _ _ h.1]; rfl, grown_trans h.2 ⟨rfl, rfl, rfl, by simp, fun i _ hi => heap_setCell_other wr ⟨D, 1, none⟩ i _ (fun e => hi (by simp [e]))⟩⟩
/-- What was there ahead of the tale's block stands. -/
theorem StT.keep1 {w1 wr : World} {x y : Value} (h : StT w1 wr w1.heap.size x y) : Keep w1 wr :=
  (Keep.refl w1).grown h.2 (fun k hk => by simp at hk; omega)
theorem grown_setT (w : World) (g j : Nat) (v : Value) : w.grownBy (w.setCell ⟨g, j, none⟩ v) (some g) :=
  ⟨rfl, rfl, rfl, by simp, fun i _ hi => heap_setCell_other w ⟨g, j, none⟩ i _ (fun e => hi (by simp [e]))⟩
/-- A list whose block is another than the tale's stands while the tale is filled. -/
theorem Own.other {wr wr' : World} {base D : Nat} {v : Value} {zs : List Int} (h : Own wr base v zs) (hb : D < base) (hg : wr.grownBy wr' (some D)) : Own wr' base v zs :=
  h.kept hg (by
    cases hu : v.ownBlock with
    | none => exact .inl rfl
    | some k => exact .inr (fun e => by have := h.ge k hu; have := Option.some.inj e; omega))
theorem results_tmp_row {P : Program} {fn : Func} {p u : Tmp} {ty : TypeId} (h : fn.results = #[.tmp u, .cell p ty]) (tmps : Array Value) (w : World) (g : Nat) (t : TypeId) (cs : Array Value) (fr : Nat × Nat) (d : TypeDesc) (v : Value)
    (hp : tmps.getD p undef = .pointer (some ⟨g, 0, none⟩)) (hg : w.heap[g]? = some (.cells cs t fr)) (hv : tmps.getD u undef = v)
    (hu : P.underlying ty = some d) (hd : (match d with | .struct _ | .array _ _ => true | _ => false) = true) (hi : (P.info? ty).map (·.size) = some cs.size) :
    (results fn tmps).run P w = .ok (.tuple #[v, .agg cs]) w := by
  have hp' : tmps[p]?.getD undef = .pointer (some ⟨g, 0, none⟩) := by simpa using hp
  have hv' : tmps[u]?.getD undef = v := by simpa using hv
  simp [results, h, hp', hv', asAddr, run_loadVar_row w g t ty cs fr d hg hu hd hi]
end Go.Proofs.Ytgolhjmbloiakab

/- Contract of the program's TaleAt. -/
namespace Go.Proofs.Ytgolhjmbloiakab
open Go.ChangeShapes Go.WideShapes Go.ChangeAt Go.RowKit

theorem Own.shpI {w : World} {base : Nat} {v : Value} {zs : List Int} (h : Own w base v zs) : ∃ a cap, v = .slice a zs.length cap := by
  obtain ⟨a, c, e, _⟩ := h.rd
  exact ⟨a, c, e⟩
theorem own_nilI (w : World) (base : Nat) : Own w base nilV [] := World.ownsRow_nil _ _ _ _
set_option maxRecDepth 100000 in
set_option maxHeartbeats 2000000 in
theorem implTaleAt_own (w : World) (v : Value) (dss : List (List Dd)) (n : Int) (h : RdW w v dss) (hx : dss.length ≤ 1048576) (hm : ∀ i, i < dss.length → (dss.getD i []).length ≤ 1048576) :
    Calls Try.prog 7 #[v, .int .i64 n] w fun e w' => ∃ vF vR, e = .returned (.tuple #[.agg #[vF, vR], .bool (taB dss n)]) ∧ Own w' w.heap.size vF (tfB dss n) ∧ Own w' w.heap.size vR (trB dss n) ∧ (vF.ownBlock = none ∨ vF.ownBlock ≠ vR.ownBlock) ∧ Keep w w' := by
  have CT := fun (W : World) (kW : Keep w W) => implTalesCount_any W v dss (h.keep kW) hx hm
  have hcb := tcB_in dss
  have qs : IntKind.i64.wrap (tcB dss - 1) = tcB dss - 1 := by rw [IntKind.wrap_i64]; omega
  have HI : Hid (inB n 0 (tcB dss - 1) = taB dss n) := Lib.hid (by
    unfold inB taB
    rw [Bool.eq_iff_iff]
    simp only [decide_eq_true_eq]
    omega)
  have CI := fun (W : World) => isFrom_any 0 n (tcB dss - 1) W
  rw [HI.out] at CI
  cases ht : taB dss n
  · have HA := Lib.hid ht
    have HF : Hid (tfB dss n = []) := Lib.hid (by rw [tfB, ht]; rfl)
    have HR : Hid (trB dss n = []) := Lib.hid (by rw [trB, ht]; rfl)
    rw [ht] at CI
    clear ht HI
    generalize tcB dss = m at CT CI hcb qs
    go_enter Try.func7, Try.ntmps7
    go_wp2_with fail
    refine (CT _ ((Keep.refl w).alloc _)).mono ?_
    rintro e w1 ⟨rfl, k1⟩
    have hS : StT w w1 w.heap.size nilV nilV := (StT.start _ _).keep k1
    obtain ⟨r0, r1⟩ := hS.cells
    have g0 := hS.free 0
    have g1 := hS.free 1
    go_wp2_with fail
    refine (CI _).mono ?_
    rintro e w2 ⟨rfl, rfl⟩
    go_wp2
    have hZ := (hS.set0 nilV).set1 nilV
    refine bodyPost_ret (results_row_tmp (by rfl) _ _ w.heap.size _ _ (0, 0) _ (.bool false) rfl hZ.1 rfl Try.underlying26 rfl (by kernel_rfl)) rfl ?_
    exact ⟨nilV, nilV, rfl, by rw [HF.out]; exact own_nilI _ _, by rw [HR.out]; exact own_nilI _ _, .inl rfl, hZ.keep1⟩
  · have h01 : 0 ≤ n ∧ n < tcB dss := by have := ht; unfold taB at this; simpa using this
    have h0' := h01.1
    have h1' := h01.2
    obtain ⟨hb, hpos, -⟩ := tale_at ht
    have hrb := (rcnt_six hb).2
    have HA := Lib.hid ht
    have HF : Hid (tfB dss n = atB dss (n / rcntB dss)) := Lib.hid (by rw [tfB, ht]; rfl)
    have HR : Hid (trB dss n = ratB dss (n % rcntB dss)) := Lib.hid (by rw [trB, ht]; rfl)
    have CR := fun (W : World) (kW : Keep w W) => implRowsCount_any W v dss (h.keep kW) hx hm
    have CA := fun (W : World) (kW : Keep w W) (q : Int) => implSourceAt_own W v dss q (h.keep kW) hx hm
    have CB := fun (W : World) (kW : Keep w W) (q : Int) => implRowsAt_own W v dss q (h.keep kW) hx hm
    rw [ht] at CI
    clear ht HI h01
    generalize tcB dss = m at CT CI h1' hcb qs
    generalize rcntB dss = k at CR HF HR hpos hrb
    have q1 : n.tdiv k = n / k := by rw [Int.tdiv_eq_ediv]; simp [h0']
    have q2 : n.tmod k = n % k := by rw [Int.tmod_eq_emod]; simp [h0']
    have ne : k ≠ 0 := by omega
    have qb := Int.ediv_nonneg h0' (by omega : 0 ≤ k)
    have qc : n / k ≤ n := Int.ediv_le_self _ h0'
    have qd := Int.emod_nonneg n ne
    have qe := Int.emod_lt_of_pos n hpos
    have qw : IntKind.i64.wrap (n / k) = n / k := by rw [IntKind.wrap_i64]; omega
    have qx : IntKind.i64.wrap (n % k) = n % k := by rw [IntKind.wrap_i64]; omega
    clear hb
    go_enter Try.func7, Try.ntmps7
    go_wp2_with fail
    refine (CT _ ((Keep.refl w).alloc _)).mono ?_
    rintro e w1 ⟨rfl, k1⟩
    have K1 := ((Keep.refl w).alloc _).trans k1
    go_wp2_with fail
    refine (CI _).mono ?_
    rintro e w9 ⟨rfl, rfl⟩
    go_wp2_with fail
    refine (CR _ K1).mono ?_
    rintro e w2 ⟨rfl, k2⟩
    have hS : StT w w2 w.heap.size nilV nilV := (StT.start _ _).keep (k1.trans k2)
    have K2 := K1.trans k2
    clear k1 k2 K1 CT CR CI
    have z2 := hS.size
    go_wp2_with fail
    go_region_law ((first
      | (go_simp
         refine (CA _ K2.drew (n / k)).mono ?_
         rintro e w3 ⟨vF, rfl, oF, k3⟩)
      | (go_simp
         refine (CB _ (K2.drew.trans k3) (n % k)).mono ?_
         rintro e w4 ⟨vR, rfl, oR, k4⟩
         obtain ⟨aF, cF, hvF⟩ := oF.shpI
         subst hvF
         obtain ⟨aR, cR, hvR⟩ := oR.shpI
         subst hvR
         have hS4 : StT w w4 w.heap.size nilV nilV := hS.keep (((Keep.refl w2).drew.trans k3).trans k4)
         obtain ⟨r0, r1⟩ := hS4.cells
         have g0 := hS4.free 0
         have g1 := hS4.free 1)))
    all_goals
      go_wp2
      have hZ := (hS4.set0 (.slice aF (atB dss (n / k)).length cF)).set1 (.slice aR (ratB dss (n % k)).length cR)
      refine bodyPost_ret (results_row_tmp (by rfl) _ _ w.heap.size _ _ (0, 0) _ (.bool true) rfl hZ.1 rfl Try.underlying26 rfl (by kernel_rfl)) rfl ?_
      have s3 := k3.size
      have oF4 := oF.keep k4
      have gg : ∀ x y : Value, w4.grownBy ((w4.setCell ⟨w.heap.size, 0, none⟩ x).setCell ⟨w.heap.size, 1, none⟩ y) (some w.heap.size) := fun x y => grown_trans (grown_setT _ _ _ _) (grown_setT _ _ _ _)
      exact ⟨_, _, rfl, by rw [HF.out]; exact (oF4.other z2 (gg _ _)).base_le (Nat.le_of_lt z2), by rw [HR.out]; exact (oR.other (Nat.lt_of_lt_of_le z2 s3) (gg _ _)).base_le (by have := Nat.lt_of_lt_of_le z2 s3; omega), oF.apart oR, hZ.keep1⟩
theorem implTaleAt_any (w : World) (v : Value) (dss : List (List Dd)) (n : Int) (h : RdW w v dss) (hx : dss.length ≤ 1048576) (hm : ∀ i, i < dss.length → (dss.getD i []).length ≤ 1048576) :
    Calls Try.prog 7 #[v, .int .i64 n] w fun e w' => ∃ vF vR, e = .returned (.tuple #[.agg #[vF, vR], .bool (taB dss n)]) ∧ Row w' w.heap.size vF (tfB dss n) ∧ Row w' w.heap.size vR (trB dss n) ∧ (trB dss n).length ≤ capZ vR ∧ (vF.ownBlock = none ∨ vF.ownBlock ≠ vR.ownBlock) ∧ Keep w w' :=
  (implTaleAt_own w v dss n h hx hm).mono (fun _ _ ⟨vF, vR, he, oF, oR, ap, k⟩ => ⟨vF, vR, he, oF.row, oR.row, oR.capz, ap, k⟩)
end Go.Proofs.Ytgolhjmbloiakab
