/- Gathered texts. -/
import Derived.OwnWalk
import Derived.Deep.QuietTactic
import Derived.BigQuiet
import Derived.Deep.Cut
import Derived.Test.YtbmghnibngjicaaMM
import Derived.Test.YtbmghnibngjicaaND
set_option maxRecDepth 100000
set_option maxHeartbeats 8000000
namespace Go.Proofs.Ytbmghnibngjicaa
open Go.ChangeShapes Go.WideShapes Go.ChangeAt Go.RowKit
theorem rev_find {ns : List Nt} {p : Int} {j : Nat} (hj : j < ns.length) (hno : ∀ q, j < q → q < ns.length → (ns.getD q (0, 0, 0)).1 ≠ p) (he : (ns.getD j (0, 0, 0)).1 = p) : ns.reverse.find? (fun x => x.1 == p) = some (ns.getD j (0, 0, 0)) := by
  have e : ns = ns.take j ++ (ns.getD j (0, 0, 0) :: ns.drop (j + 1)) := by
    rw [List.getD_eq_getElem?_getD, List.getElem?_eq_getElem hj]
    show ns = ns.take j ++ ns[j] :: ns.drop (j + 1)
    rw [← List.drop_eq_getElem_cons hj, List.take_append_drop]
  have hd : (ns.drop (j + 1)).reverse.find? (fun x => x.1 == p) = none := by
    rw [List.find?_eq_none]
    intro x hx
    rw [List.mem_reverse] at hx
    obtain ⟨i, hi, ei⟩ := List.getElem_of_mem hx
    rw [List.length_drop] at hi
    have := hno (j + 1 + i) (by omega) (by omega)
    rw [List.getElem_drop] at ei
    rw [List.getD_eq_getElem?_getD, List.getElem?_eq_getElem (by omega)] at this
    simp only [Option.getD_some] at this
    rw [ei] at this
    simpa using this
  conv => lhs; rw [e]
  rw [List.reverse_append, List.reverse_cons, List.append_assoc, List.find?_append, hd]
  generalize ns.getD j (0, 0, 0) = y at he ⊢
  have hy : (y.1 == p) = true := by simp [he]
  simp [hy]
theorem rev_none {ns : List Nt} {p : Int} (hno : ∀ q, q < ns.length → (ns.getD q (0, 0, 0)).1 ≠ p) : ns.reverse.find? (fun x => x.1 == p) = none := by
  rw [List.find?_eq_none]
  intro x hx
  rw [List.mem_reverse] at hx
  obtain ⟨i, hi, ei⟩ := List.getElem_of_mem hx
  have := hno i hi
  rw [List.getD_eq_getElem?_getD, List.getElem?_eq_getElem hi] at this
  simp only [Option.getD_some] at this
  rw [ei] at this
  simpa using this
theorem l14Reading_any (w : World) (v : BV) (dss : List (List Dd)) (b : Bd) (c p : Nat) (h : RdBd w v dss b) (hc : c < b.nts.length) (hp : p < b.plc.length) (hq : p < b.lst.length) (hn : (b.nts.getD c []).length ≤ 1048576) :
    Calls Try.prog 57 #[v.agg, .int .i64 c, .int .i64 p] w fun e w' => e = .returned (.tuple #[.int .i64 (rdgM b c p).1, .int .i64 (rdgM b c p).2]) ∧ Keep w w' := by
  obtain ⟨aW, aP, aL, aN, aX, aS, aF, aR, cW, cP, cL, cN, cX, cS, cF, cR, rfl⟩ := h.shapes
  have KW : Keep w (w.alloc (.cells #[.slice aW dss.length cW, .slice aP b.plc.length cP, .slice aL b.lst.length cL, .slice aN b.nts.length cN, .slice aX b.nxt.length cX, .slice aS b.sn.length cS, .slice aF b.fr.length cF, .slice aR b.rws.length cR] 33)) := (Keep.refl w).alloc _
  have h' := h.keep KW
  obtain ⟨a', c', he', hN⟩ := h'.N
  simp only [Value.slice.injEq, true_and] at he'
  obtain ⟨rfl, rfl⟩ := he'
  rcases hN with h0 | ⟨bn, on, rfl, hbn, hcn⟩
  · exfalso; rw [h0] at hc; simp at hc
  obtain ⟨a', c', he', hP⟩ := h'.P
  simp only [Value.slice.injEq, true_and] at he'
  obtain ⟨rfl, rfl⟩ := he'
  rcases hP with h0 | ⟨bp, op, rfl, hbp, hcp⟩
  · exfalso; rw [h0] at hp; simp at hp
  obtain ⟨a', c', he', hL⟩ := h'.L
  simp only [Value.slice.injEq, true_and] at he'
  obtain ⟨rfl, rfl⟩ := he'
  rcases hL with h0 | ⟨bl, ol, rfl, hbl, hcl⟩
  · exfalso; rw [h0] at hq; simp at hq
  obtain ⟨vn, d3, r3⟩ := hcn c hc
  have d1 := hcp p hp
  have d2 := hcl p hq
  have HS : Hid (∀ x, (b.nts.getD c []).reverse.find? (fun x => x.1 == (p : Int)) = some x → rdgM b c p = x.2) := Lib.hid (fun x e => by unfold rdgM; rw [e])
  have HZ : Hid ((b.nts.getD c []).reverse.find? (fun x => x.1 == (p : Int)) = none → rdgM b c p = (b.plc.getD p 0, b.lst.getD p 0)) := Lib.hid (fun e => by unfold rdgM; rw [e])
  obtain ⟨an, cn, rfl, r3⟩ := r3
  generalize b.nts.getD c [] = ns at *
  generalize b.plc.getD p 0 = xp at d1 HZ
  generalize b.lst.getD p 0 = xl at d2 HZ
  generalize rdgM b c p = ANS at HS HZ ⊢
  have j1 : (0 : Int) ≤ (c : Int) := Int.natCast_nonneg _
  have j2 : (c : Int) < (b.nts.length : Int) := by omega
  have j3 : (0 : Int) ≤ (p : Int) := Int.natCast_nonneg _
  have j4 : (p : Int) < (b.plc.length : Int) := by omega
  have j5 : (p : Int) < (b.lst.length : Int) := by omega
  have i0 : IntKind.i64.wrap ((ns.length : Int) - 1) = (ns.length : Int) - 1 := by rw [IntKind.wrap_i64]; omega
  clear hcn hcp hcl h h'
  go_enter Try.func57, Try.ntmps57
  go_wp2
  go_loop [9] (fun i => ∃ j : Nat, j ≤ ns.length ∧ i = .int .i64 ((j : Int) - 1) ∧ Hid (∀ q, j ≤ q → q < ns.length → (ns.getD q (0, 0, 0)).1 ≠ (p : Int))) (fun i => (intOf i + 1).toNat)
  case atStart => exact ⟨ns.length, Nat.le_refl _, rfl, Lib.hid (fun q h1 h2 => by omega)⟩
  case round =>
    obtain ⟨j, hj, rfl, hno⟩ := hrel
    cases j with
    | zero =>
      have HE : Hid (ANS = (xp, xl)) := Lib.hid (HZ.out (rev_none (fun q hq => hno.out q (Nat.zero_le _) hq)))
      go_wp2
      go_quiet (fail)
      go_wp2
      go_ret2
      exact ⟨by rw [HE.out]; rfl, KW.drewN _⟩
    | succ q =>
      have ej : ((q + 1 : Nat) : Int) - 1 = (q : Int) := by omega
      rw [ej]
      have hql : q < ns.length := hj
      rcases r3 with h0 | ⟨bq, oq, rfl, hbq, hcq⟩
      · exfalso; rw [h0] at hql; simp at hql
      obtain ⟨g0, g1, g2⟩ := atN (hcq q _ (nts_get hql))
      have HF := fun e => Lib.hid (HS.out _ (rev_find hql (fun q' h1 h2 => hno.out q' h1 h2) e))
      have HN : (ns.getD q (0, 0, 0)).1 ≠ (p : Int) → Hid (∀ q', q ≤ q' → q' < ns.length → (ns.getD q' (0, 0, 0)).1 ≠ (p : Int)) := fun e => Lib.hid (fun q' h1 h2 => by
        by_cases e' : q' = q
        · rw [e']; exact e
        · exact hno.out q' (by omega) h2)
      generalize ns.getD q (0, 0, 0) = y at g0 g1 g2 HF HN
      obtain ⟨y0, y1, y2⟩ := y
      simp only at g0 g1 g2 HF HN
      have k1 : (0 : Int) ≤ (q : Int) := Int.natCast_nonneg _
      have k2 : (q : Int) < (ns.length : Int) := by omega
      have k3 : IntKind.i64.wrap ((q : Int) - 1) = (q : Int) - 1 := by rw [IntKind.wrap_i64]; omega
      clear hcq hno ej
      by_cases e : y0 = (p : Int)
      · have HE := HF e
        have eb : (y0 == (p : Int)) = true := by simp [e]
        clear HF HN e
        go_wp2
        go_quiet (fail)
        go_wp2
        go_ret2
        exact ⟨by rw [HE.out]; rfl, KW.drewN _⟩
      · have HE := HN e
        have eb : (y0 == (p : Int)) = false := by simp [e]
        clear HF HN e
        go_wp2
        go_round
        case rel => exact ⟨q, by omega, rfl, HE⟩
        case measure => simp [intOf]
theorem specReading_any (w : World) (v : BV) (dss : List (List Dd)) (b : Bd) (c p : Int) (h : RdBd w v dss b) (hz : SzBd dss b) :
    Calls Try.prog 21 #[v.agg, .int .i64 c, .int .i64 p] w fun e w' => e = .returned (.tuple #[.int .i64 (rdgB dss b c p).1, .int .i64 (rdgB dss b c p).2]) ∧ Keep w w' := by
  obtain ⟨aW, aP, aL, aN, aX, aS, aF, aR, cW, cP, cL, cN, cX, cS, cF, cR, rfl⟩ := h.shapes
  have CB := fun (W : World) (kW : Keep w W) => specBoardOk_any W _ dss b (h.keep kW) hz
  have HH := Lib.hid h
  have HZ := Lib.hid hz
  have HD : Hid (rdgB dss b c p = if boardB dss b = true ∧ 0 ≤ c ∧ c < (dss.length : Int) ∧ 0 ≤ p ∧ p ≤ 2 then rdgM b c.toNat p.toNat else (-1, -1)) := Lib.hid rfl
  clear h hz
  go_enter Try.func21, Try.ntmps21
  go_wp2_with fail
  refine (CB _ ((Keep.refl w).alloc _)).mono ?_
  rintro e w1 ⟨rfl, k1⟩
  have K1 := ((Keep.refl w).alloc _).trans k1
  have c0 := box_cell k1 0
  have c1 := box_cell k1 1
  have c2 := box_cell k1 2
  have c3 := box_cell k1 3
  have c4 := box_cell k1 4
  have c5 := box_cell k1 5
  have c6 := box_cell k1 6
  have c7 := box_cell k1 7
  simp at c0 c1 c2 c3 c4 c5 c6 c7
  have z1 := box_size k1
  clear CB
  cases hb : boardB dss b
  · have HE : Hid (rdgB dss b c p = (-1, -1)) := Lib.hid (by rw [HD.out, hb]; simp)
    go_wp2
    go_ret2
    exact ⟨by rw [HE.out]; rfl, K1⟩
  by_cases h0 : c < 0
  · have HE : Hid (rdgB dss b c p = (-1, -1)) := Lib.hid (by rw [HD.out, if_neg (by omega)])
    go_wp2
    go_ret2
    exact ⟨by rw [HE.out]; rfl, K1⟩
  have t0 : decide (c < 0) = false := by simp; omega
  have t0' : 0 ≤ c := by omega
  by_cases h1 : (dss.length : Int) ≤ c
  · have HE : Hid (rdgB dss b c p = (-1, -1)) := Lib.hid (by rw [HD.out, if_neg (by omega)])
    go_wp2
    go_ret2
    exact ⟨by rw [HE.out]; rfl, K1⟩
  have t1 : decide ((dss.length : Int) ≤ c) = false := by simp; omega
  have CI := fun W : World => l1In_any p 0 2 W
  cases h2 : inB p 0 2
  · have HE : Hid (rdgB dss b c p = (-1, -1)) := Lib.hid (by
      have : ¬ (0 ≤ p ∧ p ≤ 2) := by unfold inB at h2; simpa using h2
      rw [HD.out, if_neg (by omega)])
    rw [h2] at CI
    clear h0 h1
    go_wp2_with fail
    refine (CI _).mono ?_
    rintro e w2 ⟨rfl, rfl⟩
    go_wp2
    go_ret2
    exact ⟨by rw [HE.out]; rfl, K1⟩
  rw [h2] at CI
  have h3 : 0 ≤ p ∧ p ≤ 2 := by unfold inB at h2; simpa using h2
  have HE : Hid (rdgB dss b c p = rdgM b c.toNat p.toNat) := Lib.hid (by rw [HD.out, if_pos ⟨hb, by omega, by omega, h3.1, h3.2⟩])
  obtain ⟨c, rfl⟩ := Int.eq_ofNat_of_zero_le t0'
  obtain ⟨p, rfl⟩ := Int.eq_ofNat_of_zero_le h3.1
  rw [Int.toNat_natCast, Int.toNat_natCast] at HE
  have t1' : decide (dss.length ≤ c) = false := by simp; omega
  have t1'' : c < dss.length := by omega
  obtain ⟨s1, s2, s4⟩ := board_use hb
  have CL := l14Reading_any w1 _ dss b c p (HH.out.keep K1) (by omega) (by omega) (by omega) (HZ.out.n2 c (by omega))
  generalize rdgM b c p = ANS at CL HE
  clear h0 h1 h2 h3 s1 s2 s4 hb HD t0'
  go_wp2_with fail
  refine (CI _).mono ?_
  rintro e w2 ⟨rfl, rfl⟩
  clear CI
  go_wp2_with fail
  refine CL.mono ?_
  rintro e w3 ⟨rfl, k3⟩
  go_wp2
  go_ret2
  exact ⟨by rw [HE.out]; rfl, K1.trans k3⟩
end Go.Proofs.Ytbmghnibngjicaa
