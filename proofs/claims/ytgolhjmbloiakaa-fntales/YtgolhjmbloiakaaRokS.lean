/- Contract of the specification's l9Ok: are these rows. -/
import Derived.Test.YtgolhjmbloiakaaFacP
import Derived.Test.YtgolhjmbloiakaaMD
import Derived.Test.YtgolhjmbloiakaaMA
import Derived.Deep.QuietTactic
import Derived.BigQuiet
namespace Go.Proofs.Ytgolhjmbloiakaa
open Go.ChangeShapes Go.WideShapes Go.ChangeAt Go.RowKit

def atN (es : List Ev) : Nat → Nat
  | 0 => 0
  | k + 1 => atN es k + (plcW es k).length
def okK (es : List Ev) (rows : List Int) : Nat → Bool
  | 0 => true
  | k + 1 => okK es rows k && okP rows (atN es k) (plcW es k) k
theorem rowsL_okK (es : List Ev) (rows : List Int) : rowsL es rows = (okK es rows 3 && decide (atN es 3 = rows.length)) := by
  unfold rowsL
  show _ = ((((true && okP rows 0 (plcW es 0) 0) && okP rows (0 + (plcW es 0).length) (plcW es 1) 1) && okP rows (0 + (plcW es 0).length + (plcW es 1).length) (plcW es 2) 2) && decide (0 + (plcW es 0).length + (plcW es 1).length + (plcW es 2).length = rows.length))
  rw [Bool.true_and, Nat.zero_add]
theorem okK_false {es : List Ev} {rows : List Int} {k : Nat} (h : okK es rows k = false) : ∀ n : Nat, k ≤ n → okK es rows n = false
  | 0, hn => by
    obtain rfl : k = 0 := by omega
    exact h
  | n + 1, hn => by
    by_cases e : k = n + 1
    · rw [← e]; exact h
    · rw [okK, okK_false h n (by omega)]; rfl
theorem okK_not {es : List Ev} {rows : List Int} {k : Nat} (hk : k < 3) (h : okP rows (atN es k) (plcW es k) k = false) : rowsL es rows = false := by
  rw [rowsL_okK, okK_false (k := k + 1) (by rw [okK, h, Bool.and_false]) 3 (by omega)]; rfl
theorem rd_part {w : World} {b off : Nat} {zs : List Int} (hb : b < w.heap.size) (hc : ∀ i, i < zs.length → w.cell? ⟨b, off + i, none⟩ = some (.int .i64 (zs.getD i 0))) (at0 n c : Nat) (h : at0 + n ≤ zs.length) :
    Rd w (.slice (some ⟨b, off + at0, none⟩) n c) ((zs.drop at0).take n) := by
  have hl : ((zs.drop at0).take n).length = n := by rw [List.length_take, List.length_drop]; omega
  refine ⟨_, c, by rw [hl], .inr ⟨b, off + at0, rfl, hb, fun i hi => ?_⟩⟩
  rw [hl] at hi
  rw [show off + at0 + i = off + (at0 + i) by omega, hc (at0 + i) (by omega), List.getD_eq_getElem?_getD, List.getD_eq_getElem?_getD, List.getElem?_take, if_pos hi, List.getElem?_drop]
set_option maxRecDepth 100000 in
set_option maxHeartbeats 4000000 in
theorem l9Ok_any (w : World) (v vf : Value) (es : List Ev) (rows : List Int) (h : RdE w v es) (hf : Rd w vf rows) (hcap : rows.length ≤ capZ vf) (hx : es.length ≤ 12) (hrl : rows.length ≤ 1048576) (hp : ∀ p, p < 3 → 0 < (plcW es p).length) :
    Calls Try.prog 95 #[v, vf] w fun e w' => e = .returned (.bool (rowsL es rows)) ∧ Keep w w' := by
  have HL3 := Lib.hid (rowsL_okK es rows)
  go_enter Try.func95, Try.ntmps95
  go_wp2_with fail
  refine (l9Places_any _ _ _ h hx).mono ?_
  rintro e w1 ⟨v1, rfl, r1, k1⟩
  replace hf := hf.keep k1
  obtain ⟨a, c, rfl, r1⟩ := r1
  rcases r1 with h0 | ⟨b, o, rfl, hb, hc⟩
  · exfalso; have := plcK_len es 3; rw [h0] at this; simp at this
  obtain ⟨af, cf, rfl, hf⟩ := hf
  simp only [capZ] at hcap
  rw [plcK_len] at hc ⊢
  have HC := Lib.hid hc
  have HFF := Lib.hid hf
  have HP := Lib.hid hp
  clear hc hf hp
  go_wp2
  go_loopw [6, 7] (fun x i wr => ∃ k : Nat, k ≤ 3 ∧ x = .int .i64 (atN es k) ∧ i = .int .i64 k ∧ atN es k ≤ rows.length ∧ Hid (okK es rows k = true) ∧ Keep w1 wr) (fun _ i _ => 3 - (intOf i).toNat)
  case atStart => exact ⟨0, Nat.zero_le _, rfl, rfl, Nat.zero_le _, Lib.hid rfl, Keep.refl _⟩
  case round =>
    obtain ⟨k, hk, rfl, rfl, hat, HO, hK⟩ := hrel
    by_cases hlt : k < 3
    · obtain ⟨vi, e1, r2⟩ := HC.out k hlt
      rw [plcK_get es k hlt] at r2
      have d1 := (hK.cell hb).trans e1
      have r3 := r2.keep hK
      have hpk := HP.out k hlt
      have HN := @okK_not es rows k hlt
      have HA : Hid (atN es (k + 1) = atN es k + (plcW es k).length) := Lib.hid rfl
      have HO2 : okP rows (atN es k) (plcW es k) k = true → Hid (okK es rows (k + 1) = true) := fun h => Lib.hid (by rw [okK, HO.out, h]; rfl)
      have hl12 := plcW_len hx k
      clear e1 r2 HO HC
      generalize atN es k = t at *
      obtain ⟨p, hpe⟩ : ∃ p, p = plcW es k := ⟨_, rfl⟩
      rw [← hpe] at r3 hpk HN HA HO2 hl12
      clear hpe
      obtain ⟨ap, cp, rfl, r3⟩ := r3
      rcases r3 with h0 | ⟨bp, op, rfl, hbp, hcp⟩
      · exfalso; rw [h0] at hpk; simp at hpk
      have i1 : (0 : Int) ≤ (k : Int) := Int.natCast_nonneg _
      have i2 : (k : Int) < 3 := by omega
      have n0 : (0 : Int) < (p.length : Int) := by omega
      have n1 : (p.length : Int) ≤ 12 := by omega
      have t1 : (t : Int) ≤ 1048576 := by omega
      by_cases hov : rows.length < t + p.length
      · have HE : Hid (rowsL es rows = false) := Lib.hid (HN (by unfold okP; rw [decide_eq_false (by omega)]; rfl))
        have j1 : (rows.length : Int) < (t : Int) + (p.length : Int) := by omega
        go_wp2
        go_ret
        exact ⟨by rw [HE.out]; rfl, k1.trans hK⟩
      · have j1 : (t : Int) + (p.length : Int) ≤ (rows.length : Int) := by omega
        have j2 : (t : Int) < (rows.length : Int) := by omega
        have j3 : (0 : Int) ≤ (t : Int) := Int.natCast_nonneg _
        rcases HFF.out with h0 | ⟨bf, of', rfl, hbf, hcf⟩
        · exfalso; rw [h0] at j2; simp only [List.length_nil] at j2; omega
        have d2 := (hK.cell hbf).trans (hcf t (by omega))
        have hcf2 : ∀ i, i < rows.length → wr.cell? ⟨bf, of' + i, none⟩ = some (.int .i64 (rows.getD i 0)) := fun i hi => (hK.cell hbf).trans (hcf i hi)
        have hbfw : bf < wr.heap.size := Nat.lt_of_lt_of_le hbf hK.size
        by_cases hrk : rows.getD t 0 = (k : Int)
        · rw [hrk] at d2
          have HOK : Hid (okP rows t p k = p.all (fun x => isB ((rows.drop t).take p.length) x)) := Lib.hid (by
            unfold okP
            rw [decide_eq_true (by omega), hrk]
            simp)
          have hne : ¬ (cf = t) := by omega
          obtain ⟨u, hu⟩ : ∃ u : Nat, u = t + p.length := ⟨_, rfl⟩
          have ju : (t : Int) + (p.length : Int) = (u : Int) := by omega
          have j4 : (u : Int) ≤ (cf : Int) := by omega
          have j5 : (t : Int) ≤ (u : Int) := by omega
          have j6 : (u : Int) ≤ (rows.length : Int) := by omega
          have j8 : IntKind.i64.wrap (u : Int) = (u : Int) := by rw [IntKind.wrap_i64]; omega
          have R : ∀ (W : World) (kW : Keep wr W), Rd W (.slice (some ⟨bf, of' + t, none⟩) (u - t) (cf - t)) ((rows.drop t).take p.length) := fun W kW => by
            rw [show u - t = p.length by omega]
            exact rd_part (w := W) (Nat.lt_of_lt_of_le hbfw kW.size) (fun i hi => (kW.cell hbfw).trans (hcf2 i hi)) t p.length (cf - t) (by omega)
          have HU := Lib.hid hu
          clear hu j1
          have hbl : ((rows.drop t).take p.length).length ≤ 1048576 := by rw [List.length_take]; omega
          obtain ⟨B, hB⟩ : ∃ B, B = (rows.drop t).take p.length := ⟨_, rfl⟩
          rw [← hB] at HOK R hbl
          clear hB hrk hcf hcf2
          have HCP := Lib.hid hcp
          clear hcp
          obtain ⟨wo, rfl⟩ : ∃ wo : World, wo = wr := ⟨_, rfl⟩
          go_wp2
          go_loopw [9] (fun i wr => ∃ q : Nat, q ≤ p.length ∧ i = .int .i64 q ∧ Hid (∀ j, j < q → isB B (p.getD j 0) = true) ∧ Keep wo wr) (fun i _ => p.length - (intOf i).toNat)
          case atStart => exact ⟨0, Nat.zero_le _, rfl, Lib.hid (fun j hj => by omega), Keep.refl _⟩
          case round =>
            obtain ⟨q, hq, rfl, HQ, hKr⟩ := hrel
            by_cases hql : q < p.length
            · have d3 := (hKr.cell hbp).trans (HCP.out q hql)
              have d4 := (hKr.cell (Nat.lt_of_lt_of_le hb hK.size)).trans d1
              have RQ := R wr hKr
              have HX : isB B (p.getD q 0) = true → Hid (∀ j, j < q + 1 → isB B (p.getD j 0) = true) := fun hh => Lib.hid (fun j hj => by
                by_cases e : j = q
                · subst e; exact hh
                · exact HQ.out j (by omega))
              have HY : isB B (p.getD q 0) = false → Hid (rowsL es rows = false) := fun hh => Lib.hid (HN (by rw [HOK.out]; exact all_not 0 q hql hh))
              clear HQ
              generalize p.getD q 0 = y at d3 HX HY
              have q1 : (0 : Int) ≤ (q : Int) := Int.natCast_nonneg _
              have q2 : (q : Int) < (p.length : Int) := by omega
              have z1 : b < wr.heap.size := Nat.lt_of_lt_of_le (Nat.lt_of_lt_of_le hb hK.size) hKr.size
              have z2 : bp < wr.heap.size := Nat.lt_of_lt_of_le hbp hKr.size
              cases hi : isB B y
              · have HE := HY hi
                clear HX HY
                go_wp2
                go_quiet ((go_at_call 94; exact Calls.quiet_of_same (l8Is_any _ _ B (RQ.keep ((Keep.refl wr).drewN _)) hbl _)))
                go_wp2
                go_ret
                exact ⟨by rw [HE.out]; rfl, ((k1.trans hK).trans hKr).drewN _⟩
              · have HE := HX hi
                clear HX HY
                go_wp2
                go_quiet ((go_at_call 94; exact Calls.quiet_of_same (l8Is_any _ _ B (RQ.keep ((Keep.refl wr).drewN _)) hbl _)))
                go_wp2
                go_roundw
                case rel => exact ⟨q + 1, by omega, by go_num, HE, hKr.drewN _⟩
                case measure => simp [intOf]; omega
            · obtain rfl : q = p.length := by omega
              have HE := HO2 (by rw [HOK.out]; exact all_of 0 (fun i hi => HQ.out i hi))
              clear HQ HO2 HN
              go_wp2
              go_roundw
              case rel => exact ⟨k + 1, by omega, by rw [HA.out, ← HU.out], by go_num, by rw [HA.out]; omega, HE, hK.trans hKr⟩
              case measure => simp [intOf]; omega
        · have HE : Hid (rowsL es rows = false) := Lib.hid (HN (by
            unfold okP
            have : (rows.getD t 0 == (k : Int)) = false := by simpa using hrk
            rw [this]
            simp))
          generalize rows.getD t 0 = y at d2 hrk
          have yb : (y != (k : Int)) = true := by simpa using hrk
          clear HN HO2 hcf hcf2 hrk
          go_wp2
          go_ret
          exact ⟨by rw [HE.out]; rfl, k1.trans hK⟩
    · obtain rfl : k = 3 := by omega
      have HE : Hid (rowsL es rows = decide (atN es 3 = rows.length)) := Lib.hid (by rw [HL3.out, HO.out]; rfl)
      clear HO HL3
      generalize atN es 3 = t at HE hat
      by_cases ht : t = rows.length
      · have tb : ((t : Int) == (rows.length : Int)) = true := by simp [ht]
        have HE2 : Hid (rowsL es rows = true) := Lib.hid (by rw [HE.out]; exact decide_eq_true ht)
        clear HE ht
        go_wp2
        go_ret
        exact ⟨by rw [HE2.out]; rfl, k1.trans hK⟩
      · have tb : ((t : Int) == (rows.length : Int)) = false := by simpa using fun e => ht (by omega)
        have HE2 : Hid (rowsL es rows = false) := Lib.hid (by rw [HE.out]; exact decide_eq_false ht)
        clear HE ht
        go_wp2
        go_ret
        exact ⟨by rw [HE2.out]; rfl, k1.trans hK⟩
end Go.Proofs.Ytgolhjmbloiakaa
