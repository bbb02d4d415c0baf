/- Gathered texts. -/
import Derived.Test.YtnmelakgmgenjaaMA
import Derived.Outline
import Derived.Lib.Hide
import Derived.RegionTactic
import Derived.Deep.QuietTactic
import Derived.BigQuiet
set_option maxRecDepth 100000
set_option maxHeartbeats 8000000
namespace Go.Proofs.Ytnmelakgmgenjaa
open Go.ChangeShapes Go.WideShapes Go.ChangeAt Go.RowKit
theorem take_one_moreL {xs ys : List Int} {k : Nat} (hx : k < xs.length) (hy : k < ys.length) (h : xs.take k = ys.take k) (e : xs.getD k 0 = ys.getD k 0) : xs.take (k + 1) = ys.take (k + 1) := by
  rw [take_snoc xs k hx, take_snoc ys k hy, h, e]
theorem ne_atL {xs ys : List Int} {k : Nat} (h : xs.getD k 0 ≠ ys.getD k 0) : xs ≠ ys := by
  intro e; subst e; exact h rfl
theorem same_any (w : World) (v1 v2 : Value) (xs ys : List Int) (h1 : Rd w v1 xs) (h2 : Rd w v2 ys) (hx : xs.length ≤ 1048576) :
    Calls Try.prog 12 #[v1, v2] w fun e w' => e = .returned (.bool (decide (xs = ys))) ∧ Keep w w' := by
  obtain ⟨a1, c1, rfl, h1⟩ := h1
  obtain ⟨a2, c2, rfl, h2⟩ := h2
  by_cases hl : xs.length = ys.length
  · have hlb : ((xs.length : Int) != (ys.length : Int)) = false := by simp [hl]
    have hl1 : xs.length ≤ ys.length := by omega
    have hl2 : ys.length ≤ xs.length := by omega
    clear hl
    go_enter Try.func12, Try.ntmps12
    go_wp2
    go_loopw [5] (fun i wr => ∃ k : Nat, k ≤ xs.length ∧ i = .int .i64 k ∧ xs.take k = ys.take k ∧ Keep w wr) (fun i _ => xs.length - (intOf i).toNat)
    case atStart => exact ⟨0, Nat.zero_le _, rfl, by simp, Keep.refl _⟩
    case round =>
      obtain ⟨k, hk, rfl, ht, hK⟩ := hrel
      by_cases hlt : k < xs.length
      · rcases h1 with h | ⟨b1, o1, rfl, hb1, hc1⟩
        · subst h; simp at hlt
        rcases h2 with h | ⟨b2, o2, rfl, hb2, hc2⟩
        · exfalso; rw [h] at hl1; simp only [List.length_nil] at hl1; omega
        have hy2 : k < ys.length := by omega
        have d1 := (hK.cell hb1).trans (hc1 k hlt)
        have d2 := (hK.cell hb2).trans (hc2 k hy2)
        clear hc1 hc2
        obtain ⟨p, hp⟩ : ∃ p, p = xs.getD k 0 := ⟨_, rfl⟩
        obtain ⟨q, hq⟩ : ∃ q, q = ys.getD k 0 := ⟨_, rfl⟩
        rw [← hp] at d1
        rw [← hq] at d2
        have HP : Hid (p = xs.getD k 0) := hp
        have HQ : Hid (q = ys.getD k 0) := hq
        have HT : Hid (xs.take k = ys.take k) := ht
        clear hp hq ht
        by_cases he : p = q
        · have hne : (p != q) = false := by simp [he]
          have HE : Hid (p = q) := he
          clear he
          go_wp2
          go_quiet (fail)
          go_wp2
          go_roundw
          case rel => exact ⟨k + 1, by omega, by go_num, take_one_moreL hlt hy2 HT.out (by rw [← HP.out, ← HQ.out]; exact HE.out), hK.drewN _⟩
          case measure => simp [intOf]; omega
        · have hne : (p != q) = true := by simp [he]
          have HE : Hid (p ≠ q) := he
          clear he
          go_wp2
          go_quiet (fail)
          go_wp2
          go_ret
          refine ⟨ret_bool ?_, ?_⟩
          · have := ne_atL (xs := xs) (ys := ys) (k := k) (by rw [← HP.out, ← HQ.out]; exact HE.out)
            simp [this]
          · exact hK.drewN _
      · go_wp2
        go_ret
        refine ⟨ret_bool ?_, hK⟩
        rw [List.take_of_length_le (by omega), List.take_of_length_le (by omega)] at ht
        simp [ht]
  · have hlb : ((xs.length : Int) != (ys.length : Int)) = true := by simp; omega
    have HL : Hid (¬ xs.length = ys.length) := hl
    clear hl
    go_enter Try.func12, Try.ntmps12
    go_wp2
    go_ret
    refine ⟨ret_bool ?_, Keep.refl _⟩
    have : xs ≠ ys := fun e => HL.out (by rw [e])
    simp [this]
theorem specInEnds_any (w : World) (v vo : Value) (zss : List (List Int)) (x : List Int) (h : RdL w v zss) (hx : Rd w vo x) (hl : zss.length ≤ 1099511627776) (hm : ∀ i, i < zss.length → (zss.getD i []).length ≤ 1048576) :
    Calls Try.prog 5 #[v, vo] w fun e w' => e = .returned (.bool (inLL zss x)) ∧ Keep w w' := by
  obtain ⟨a, c, rfl, h⟩ := h
  go_enter Try.func5, Try.ntmps5
  go_wp2
  go_loopw [5] (fun i wr => ∃ k : Nat, k ≤ zss.length ∧ i = .int .i64 k ∧ Hid (∀ q, q < k → zss.getD q [] ≠ x) ∧ Keep w wr) (fun i _ => zss.length - (intOf i).toNat)
  case atStart => exact ⟨0, Nat.zero_le _, rfl, Lib.hid (fun q hq => absurd hq (Nat.not_lt_zero _)), Keep.refl _⟩
  case round =>
    obtain ⟨k, hk, rfl, hno, hK⟩ := hrel
    by_cases hlt : k < zss.length
    · rcases h with h | ⟨b, o, rfl, hb, hc⟩
      · exfalso; rw [h] at hlt; simp at hlt
      obtain ⟨vi, d1, rd⟩ := hc k hlt
      have d1 := (hK.cell hb).trans d1
      have CS := same_any wr vi vo _ x (rd.keep hK) (hx.keep hK) (hm k hlt)
      have i1 : (0 : Int) ≤ (k : Int) := Int.natCast_nonneg _
      have i2 : (k : Int) < (zss.length : Int) := by omega
      have HM := Lib.hid hm
      have HX := Lib.hid hx
      clear hc rd hm hx
      go_wp2_with fail
      refine CS.mono ?_
      rintro e wz ⟨rfl, kk⟩
      clear CS
      by_cases he : zss.getD k [] = x
      · have HE := Lib.hid (inLL_hit hlt he)
        rw [decide_eq_true he]
        clear he
        go_wp2
        go_ret
        exact ⟨by rw [HE.out]; rfl, hK.trans kk⟩
      · have HE := Lib.hid he
        rw [decide_eq_false he]
        clear he
        go_wp2
        go_roundw
        case rel =>
          refine ⟨k + 1, by omega, by go_num, Lib.hid (fun q hq => ?_), hK.trans kk⟩
          by_cases e : q = k
          · rw [e]; exact HE.out
          · exact hno.out q (by omega)
        case measure => simp [intOf]; omega
    · obtain rfl : k = zss.length := by omega
      have HE := Lib.hid (inLL_none hno.out)
      go_wp2
      go_ret
      exact ⟨by rw [HE.out]; rfl, hK⟩
end Go.Proofs.Ytnmelakgmgenjaa
