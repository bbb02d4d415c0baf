/- Contract of the law's likeWork where both works are the same. -/
import Derived.Test.YtljamlgnobpjeaaWorks
import Derived.Lib.Hide
import Derived.Deep.QuietTactic
import Derived.BigQuiet
namespace Go.Proofs.Ytljamlgnobpjeaa
open Go.ChangeShapes Go.WideShapes Go.ChangeAt Go.RowKit

set_option maxRecDepth 100000 in
set_option maxHeartbeats 4000000 in
theorem likeSame_any (w : World) (v1 v2 : Value) (dss : List (List Dd)) (h1 : RdW w v1 dss) (h2 : RdW w v2 dss) (hx : dss.length ≤ 1048576) (hm : ∀ i, i < dss.length → (dss.getD i []).length ≤ 1048576) :
    Calls Try.prog 9 #[v1, v2] w fun e w' => e = .returned (.bool true) ∧ Keep w w' := by
  obtain ⟨a1, c1, rfl, h1⟩ := h1
  obtain ⟨a2, c2, rfl, h2⟩ := h2
  have e0 : ((dss.length : Int) != (dss.length : Int)) = false := by simp
  go_enter Try.func9, Try.ntmps9
  go_wp2
  go_loopw [5] (fun i wr => ∃ k : Nat, k ≤ dss.length ∧ i = .int .i64 k ∧ Keep w wr) (fun i _ => dss.length - (intOf i).toNat)
  case atStart => exact ⟨0, Nat.zero_le _, rfl, Keep.refl _⟩
  case round =>
    obtain ⟨k, hk, rfl, hK⟩ := hrel
    by_cases hlt : k < dss.length
    · rcases h1 with h | ⟨b1, o1, rfl, hb1, hc1⟩
      · exfalso; rw [h] at hlt; simp at hlt
      rcases h2 with h | ⟨b2, o2, rfl, hb2, hc2⟩
      · exfalso; rw [h] at hlt; simp at hlt
      obtain ⟨u1, e1, r1⟩ := hc1 k hlt
      obtain ⟨u2, e2, r2⟩ := hc2 k hlt
      have hmk := hm k hlt
      clear hc1 hc2 hm
      obtain ⟨ds, hds⟩ : ∃ ds, ds = dss.getD k [] := ⟨_, rfl⟩
      rw [← hds] at r1 r2 hmk
      clear hds
      obtain ⟨ai, ci, rfl, r1⟩ := r1
      obtain ⟨aj, cj, rfl, r2⟩ := r2
      have d1 := (hK.cell hb1).trans e1
      have d2 := (hK.cell hb2).trans e2
      have hbw1 : b1 < wr.heap.size := Nat.lt_of_lt_of_le hb1 hK.size
      have hbw2 : b2 < wr.heap.size := Nat.lt_of_lt_of_le hb2 hK.size
      have i1 : (0 : Int) ≤ (k : Int) := Int.natCast_nonneg _
      have i2 : (k : Int) < (dss.length : Int) := by omega
      have en : ((ds.length : Int) != (ds.length : Int)) = false := by simp
      go_wp2
      go_quiet (fail)
      go_wp2
      go_loopw [6] (fun i wq => ∃ q : Nat, q ≤ ds.length ∧ i = .int .i64 q ∧ Keep w wq) (fun i _ => ds.length - (intOf i).toNat)
      case atStart => exact ⟨0, Nat.zero_le _, rfl, hK.drewN _⟩
      case round =>
        obtain ⟨q, hq, rfl, hQ⟩ := hrel
        have d1 := (hQ.cell hb1).trans e1
        have d2 := (hQ.cell hb2).trans e2
        have hbq1 : b1 < wr.heap.size := Nat.lt_of_lt_of_le hb1 hQ.size
        have hbq2 : b2 < wr.heap.size := Nat.lt_of_lt_of_le hb2 hQ.size
        by_cases hlq : q < ds.length
        · rcases r1 with h | ⟨p1, s1, rfl, hp1, hd1⟩
          · exfalso; rw [h] at hlq; simp at hlq
          rcases r2 with h | ⟨p2, s2, rfl, hp2, hd2⟩
          · exfalso; rw [h] at hlq; simp at hlq
          obtain ⟨A0, A1, A2, A3⟩ := (hd1 q hlq).keep hp1 hQ
          obtain ⟨B0, B1, B2, B3⟩ := (hd2 q hlq).keep hp2 hQ
          clear hd1 hd2
          generalize ds.getD q zD = d at A0 A1 A2 A3 B0 B1 B2 B3
          obtain ⟨x0, x1, x2, x3⟩ := d
          simp only at A0 A1 A2 A3 B0 B1 B2 B3
          have hpw1 : p1 < wr.heap.size := Nat.lt_of_lt_of_le hp1 hQ.size
          have hpw2 : p2 < wr.heap.size := Nat.lt_of_lt_of_le hp2 hQ.size
          have j1 : (0 : Int) ≤ (q : Int) := Int.natCast_nonneg _
          have j2 : (q : Int) < (ds.length : Int) := by omega
          go_wp2
          go_quiet (fail)
          go_wp2
          go_roundw
          case rel => exact ⟨q + 1, by omega, by go_num, hQ.drewN _⟩
          case measure => simp [intOf]; omega
        · obtain rfl : q = ds.length := by omega
          go_wp2
          go_roundw
          case rel => exact ⟨k + 1, by omega, by go_num, hQ⟩
          case measure => simp [intOf]; omega
    · obtain rfl : k = dss.length := by omega
      go_wp2
      go_ret
      exact ⟨rfl, hK⟩
end Go.Proofs.Ytljamlgnobpjeaa
