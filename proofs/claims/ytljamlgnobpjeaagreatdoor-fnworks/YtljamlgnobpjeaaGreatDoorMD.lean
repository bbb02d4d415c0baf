/- Several texts in one. -/
import Derived.Test.YtljamlgnobpjeaaGreatDoorRows
import Derived.Test.YtljamlgnobpjeaaGreatDoorMA
import Derived.OpenShut
import Derived.Outline
import Derived.Deep.RegionHeld3
import Derived.Test.YtljamlgnobpjeaaGreatDoorMB
import Derived.Test.YtljamlgnobpjeaaGreatDoorMC
import Derived.Lib.Hide
import Derived.Deep.QuietTactic
import Derived.BigQuiet
/- Contracts of the small methods on the program's sets: each answers as a plain function says and turns nothing. -/
namespace Go.Proofs.YtljamlgnobpjeaaGreatDoor
open Go.ChangeShapes Go.WideShapes Go.ChangeAt Go.RowKit

theorem inSize_any (x : Int) (w : World) :
    Calls Tryz.prog 72 #[.int .i64 x] w fun e w' => e = .returned (.bool (inB x 0 11)) ∧ w' = w := by
  go_enter Tryz.func72, Tryz.ntmps72
  go_wp2
  all_goals
    go_ret
    exact ⟨ret_bool (by rw [Bool.eq_iff_iff]; unfold inB; simp; omega), rfl⟩
theorem isOf_any (n s : Int) (w : World) :
    Calls Tryz.prog 85 #[.int .i64 s, .int .i64 n] w fun e w' => e = .returned (.bool (okB n s)) ∧ w' = w := by
  go_enter Tryz.func85, Tryz.ntmps85
  go_wp2
  · go_ret
    exact ⟨ret_bool (by rw [wrap64_pow n (by assumption) (by assumption), Bool.eq_iff_iff]; unfold okB; simp; omega), rfl⟩
  all_goals
    go_ret
    exact ⟨ret_bool (by rw [Bool.eq_iff_iff]; unfold okB; simp; omega), rfl⟩
theorem has_any (s i : Int) (w : World) :
    Calls Tryz.prog 71 #[.int .i64 s, .int .i64 i] w fun e w' => e = .returned (.bool (inSetB s i)) ∧ w' = w := by
  have key : okB 12 s = inB s 0 4095 := by rw [Bool.eq_iff_iff]; unfold okB inB; simp; omega
  cases hs : inB s 0 4095
  · have hk : okB 12 s = false := key.trans hs
    clear key
    go_enter Tryz.func71, Tryz.ntmps71
    go_wp2_with (go_at_call 85; refine (isOf_any _ _ _).mono ?_; rintro e w' ⟨rfl, rfl⟩)
    go_ret
    exact ⟨ret_bool (by simp [inSetB, hs]), rfl⟩
  · have hk : okB 12 s = true := key.trans hs
    clear key
    cases hi : inB i 0 11
    · go_enter Tryz.func71, Tryz.ntmps71
      go_wp2_with (first | (go_at_call 85; refine (isOf_any _ _ _).mono ?_; rintro e w' ⟨rfl, rfl⟩) | (go_at_call 72; refine (inSize_any _ _).mono ?_; rintro e w' ⟨rfl, rfl⟩))
      go_ret
      exact ⟨ret_bool (by simp [inSetB, hi]), rfl⟩
    · have hi' := hi
      simp only [inB, decide_eq_true_eq] at hi'
      obtain ⟨i1, i2⟩ := hi'
      go_enter Tryz.func71, Tryz.ntmps71
      go_wp2_with (first | (go_at_call 85; refine (isOf_any _ _ _).mono ?_; rintro e w' ⟨rfl, rfl⟩) | (go_at_call 72; refine (inSize_any _ _).mono ?_; rintro e w' ⟨rfl, rfl⟩))
      go_ret
      exact ⟨ret_bool (by simp [inSetB, hs, hi, bitB]), rfl⟩
end Go.Proofs.YtljamlgnobpjeaaGreatDoor

/- Contract of the program's set with one more member. -/
namespace Go.Proofs.YtljamlgnobpjeaaGreatDoor
open Go.ChangeShapes Go.WideShapes Go.ChangeAt Go.RowKit

theorem with_any (s i : Int) (w : World) :
    Calls Tryz.prog 57 #[.int .i64 s, .int .i64 i] w fun e w' => e = .returned (.int .i64 (gAdd s i)) ∧ w' = w := by
  by_cases hs : s = -1
  · subst hs
    go_enter Tryz.func57, Tryz.ntmps57
    go_wp2
    go_ret
    exact ⟨ret_int (gAdd_none i).symm, rfl⟩
  · have hsb : (s == -1) = false := by simp [hs]
    have HS : Hid (¬ s = -1) := hs
    clear hs
    cases hi : inB i 0 11
    · go_enter Tryz.func57, Tryz.ntmps57
      go_wp2_with (go_at_call 72; refine (inSize_any _ _).mono ?_; rintro e w' ⟨rfl, rfl⟩)
      go_ret
      exact ⟨ret_int (gAdd_bad s i hi).symm, rfl⟩
    · have hi' := hi
      simp only [inB, decide_eq_true_eq] at hi'
      obtain ⟨i1, i2⟩ := hi'
      go_enter Tryz.func57, Tryz.ntmps57
      go_wp2_with (go_at_call 72; refine (inSize_any _ _).mono ?_; rintro e w' ⟨rfl, rfl⟩)
      go_ret
      exact ⟨ret_int (by simp [gAdd, HS.out, hi]), rfl⟩
end Go.Proofs.YtljamlgnobpjeaaGreatDoor

/- A region that draws its order, walked by hand: one operation taken first, or passed by where its guard is false; the slot that it fills is named. -/
namespace Go.Proofs.YtljamlgnobpjeaaGreatDoor
open Go

section
variable {P : Program} {md : Region.Mode} {ops : Array Oper} {Q : Exit → Act → World → Prop} {S : World → Prop}
theorem takeH (i d : Nat) {oi : Oper} {v : Value} {fuel : Nat} {listed : Array Bool} {a : Act} {w : World} (hi : ops[i]? = some oi) (hd : oi.dst = some d)
    (hs : Region.noSelect ops = true) (hf : Region.free md ops listed i = true) (hr : (Region.ready md ops listed).contains i = true)
    (hQ : ∀ c a w, Q (.panic c) (a.put (some d) v) w → Q (.panic c) a w) (hw : Region.wanted oi (yielded ops a.tmps) = true) (hy : ∀ w, S w → (execOp a.eval oi).run P w = .ok (.value v) w) (hS : S w)
    (h : wpAnyH P md ops Q S fuel (listed.setIfInBounds i true) (a.put (some d) v) w) : wpAnyH P md ops Q S (fuel + 1) listed a w := by
  rw [← hd] at hQ h
  exact wpAnyH_take hi hs hf hr hQ (Or.inl ⟨hw, hy⟩) hS h
theorem skipH (i d : Nat) {oi : Oper} {fuel : Nat} {listed : Array Bool} {a : Act} {w : World} (hi : ops[i]? = some oi) (hd : oi.dst = some d)
    (hs : Region.noSelect ops = true) (hf : Region.free md ops listed i = true) (hr : (Region.ready md ops listed).contains i = true)
    (hQ : ∀ c a w, Q (.panic c) (a.put (some d) undef) w → Q (.panic c) a w) (hw : Region.wanted oi (yielded ops a.tmps) = false) (hS : S w)
    (h : wpAnyH P md ops Q S fuel (listed.setIfInBounds i true) (a.put (some d) undef) w) : wpAnyH P md ops Q S (fuel + 1) listed a w := by
  rw [← hd] at hQ h
  exact wpAnyH_take hi hs hf hr hQ (Or.inr ⟨hw, rfl⟩) hS h
end
end Go.Proofs.YtljamlgnobpjeaaGreatDoor

/- Contract of the laws' big: is the input too great. -/
namespace Go.Proofs.YtljamlgnobpjeaaGreatDoor
open Go.ChangeShapes Go.WideShapes Go.ChangeAt Go.RowKit

theorem big_any (w : World) (a : Option Addr) (len cap : Nat) :
    Calls Tryz.prog 4 #[.slice a len cap] w fun e w' => e = .returned (.bool (decide (4096 < len))) ∧ w' = w := by
  go_enter Tryz.func4, Tryz.ntmps4
  go_wp2
  go_ret
  exact ⟨ret_bool (by rw [Bool.eq_iff_iff]; simp; omega), rfl⟩
end Go.Proofs.YtljamlgnobpjeaaGreatDoor

/- Contract of the law's likeWork where both works are the same. -/
namespace Go.Proofs.YtljamlgnobpjeaaGreatDoor
open Go.ChangeShapes Go.WideShapes Go.ChangeAt Go.RowKit

set_option maxRecDepth 100000 in
set_option maxHeartbeats 4000000 in
theorem likeSame_any (w : World) (v1 v2 : Value) (dss : List (List Dd)) (h1 : RdW w v1 dss) (h2 : RdW w v2 dss) (hx : dss.length ≤ 1048576) (hm : ∀ i, i < dss.length → (dss.getD i []).length ≤ 1048576) :
    Calls Tryz.prog 11 #[v1, v2] w fun e w' => e = .returned (.bool true) ∧ Keep w w' := by
  obtain ⟨a1, c1, rfl, h1⟩ := h1
  obtain ⟨a2, c2, rfl, h2⟩ := h2
  have e0 : ((dss.length : Int) != (dss.length : Int)) = false := by simp
  go_enter Tryz.func11, Tryz.ntmps11
  go_wp2
  go_loopw [5] (fun i wr => ∃ k : Nat, k ≤ dss.length ∧ i = .int .i64 k ∧ Keep w wr) (fun i _ => dss.length - (intOf i).toNat)
  case atStart => exact ⟨0, Nat.zero_le _, rfl, Keep.refl _⟩
  case round =>
    obtain ⟨k, hk, rfl, hK⟩ := hrel
    by_cases hlt : k < dss.length
    · rcases h1 with h | ⟨b1, o1, rfl, hb1, hc1⟩
      · exfalso; rw [h] at hlt; simp at hlt
      rcases h2 with h | ⟨b2, o2, rfl, hb2, hc2⟩
      · exfalso; rw [h] at hlt; simp at hlt
      obtain ⟨u1, e1, r1⟩ := hc1 k hlt
      obtain ⟨u2, e2, r2⟩ := hc2 k hlt
      have hmk := hm k hlt
      clear hc1 hc2 hm
      obtain ⟨ds, hds⟩ : ∃ ds, ds = dss.getD k [] := ⟨_, rfl⟩
      rw [← hds] at r1 r2 hmk
      clear hds
      obtain ⟨ai, ci, rfl, r1⟩ := r1
      obtain ⟨aj, cj, rfl, r2⟩ := r2
      have d1 := (hK.cell hb1).trans e1
      have d2 := (hK.cell hb2).trans e2
      have hbw1 : b1 < wr.heap.size := Nat.lt_of_lt_of_le hb1 hK.size
      have hbw2 : b2 < wr.heap.size := Nat.lt_of_lt_of_le hb2 hK.size
      have i1 : (0 : Int) ≤ (k : Int) := Int.natCast_nonneg _
      have i2 : (k : Int) < (dss.length : Int) := by omega
      have en : ((ds.length : Int) != (ds.length : Int)) = false := by simp
      go_wp2
      go_quiet (fail)
      go_wp2
      go_loopw [6] (fun i wq => ∃ q : Nat, q ≤ ds.length ∧ i = .int .i64 q ∧ Keep w wq) (fun i _ => ds.length - (intOf i).toNat)
      case atStart => exact ⟨0, Nat.zero_le _, rfl, hK.drewN _⟩
      case round =>
        obtain ⟨q, hq, rfl, hQ⟩ := hrel
        have d1 := (hQ.cell hb1).trans e1
        have d2 := (hQ.cell hb2).trans e2
        have hbq1 : b1 < wr.heap.size := Nat.lt_of_lt_of_le hb1 hQ.size
        have hbq2 : b2 < wr.heap.size := Nat.lt_of_lt_of_le hb2 hQ.size
        by_cases hlq : q < ds.length
        · rcases r1 with h | ⟨p1, s1, rfl, hp1, hd1⟩
          · exfalso; rw [h] at hlq; simp at hlq
          rcases r2 with h | ⟨p2, s2, rfl, hp2, hd2⟩
          · exfalso; rw [h] at hlq; simp at hlq
          obtain ⟨A0, A1, A2, A3⟩ := (hd1 q hlq).keep hp1 hQ
          obtain ⟨B0, B1, B2, B3⟩ := (hd2 q hlq).keep hp2 hQ
          clear hd1 hd2
          generalize ds.getD q zD = d at A0 A1 A2 A3 B0 B1 B2 B3
          obtain ⟨x0, x1, x2, x3⟩ := d
          simp only at A0 A1 A2 A3 B0 B1 B2 B3
          have hpw1 : p1 < wr.heap.size := Nat.lt_of_lt_of_le hp1 hQ.size
          have hpw2 : p2 < wr.heap.size := Nat.lt_of_lt_of_le hp2 hQ.size
          have j1 : (0 : Int) ≤ (q : Int) := Int.natCast_nonneg _
          have j2 : (q : Int) < (ds.length : Int) := by omega
          go_wp2
          go_quiet (fail)
          go_wp2
          go_roundw
          case rel => exact ⟨q + 1, by omega, by go_num, hQ.drewN _⟩
          case measure => simp [intOf]; omega
        · obtain rfl : q = ds.length := by omega
          go_wp2
          go_roundw
          case rel => exact ⟨k + 1, by omega, by go_num, hQ⟩
          case measure => simp [intOf]; omega
    · obtain rfl : k = dss.length := by omega
      go_wp2
      go_ret
      exact ⟨rfl, hK⟩
end Go.Proofs.YtljamlgnobpjeaaGreatDoor
