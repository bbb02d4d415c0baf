/- Contract of the specification's l1Read: the number that a text is, and whether it is one. -/
import Derived.Test.YtljamlgnobpjeaaGreatDoorSplitS
import Derived.RegionTactic
namespace Go.Proofs.YtljamlgnobpjeaaGreatDoor
open Go.ChangeShapes Go.WideShapes Go.ChangeAt Go.RowKit

def numR (l : List UInt8) : Value := .tuple #[.int .i64 ((readO l).getD 0), .bool (readO l).isSome]
theorem minus_at {l : List UInt8} {b : Bool} (h : negR l = b) (h1 : 1 ≤ l.length) : (((byteAt l 0).toNat : Int) == 45) = b := by
  rw [negR_at] at h
  have e := u8_beq (byteAt l 0) 45
  rw [← h, ← e]
  simp [h1]
set_option maxRecDepth 100000 in
set_option maxHeartbeats 2000000 in
theorem l1Read_plus (l : List UInt8) (w : World) (hl : l.length ≤ 1048576) (hneg : negR l = false) :
    Calls Tryz.prog 51 #[strV l] w fun e w' => e = .returned (numR l) ∧ w' = w := by
  have HI : Hid (0 = if negR l = true then 1 else 0) := Lib.hid (by rw [hneg]; rfl)
  by_cases hs : l.length - 0 < 1 ∨ 9 < l.length - 0
  · have HR : Hid (readO l = none) := Lib.hid (readO_short HI.out (by simpa using hs))
    have HV : Hid (numR l = .tuple #[.int .i64 0, .bool false]) := Lib.hid (by unfold numR; rw [HR.out]; rfl)
    by_cases h0 : l.length < 1
    · obtain rfl : l = [] := List.eq_nil_of_length_eq_zero (by omega)
      clear hneg hs
      go_enter Tryz.func51, Tryz.ntmps51
      go_wp2
      go_ret2
      exact ⟨by rw [HV.out]; rfl, rfl⟩
    · have hle : l.isEmpty = false := by cases l with | nil => simp at h0 | cons _ _ => rfl
      have hget0 := get_at l 0 (by rw [size_at]; omega)
      have hm : (((byteAt l 0).toNat : Int) == 45) = false := minus_at hneg (by omega)
      have h10 : 9 < l.length := by omega
      clear hneg hs
      go_enter Tryz.func51, Tryz.ntmps51
      go_wp2
      go_ret2
      exact ⟨by rw [HV.out]; rfl, rfl⟩
  · have h1 : 0 + 1 ≤ l.length := by omega
    have h9 : l.length ≤ 0 + 9 := by omega
    clear hs
    have hle : l.isEmpty = false := by cases l with | nil => simp at h1 | cons _ _ => rfl
    have hget0 := get_at l 0 (by rw [size_at]; omega)
    have hm : (((byteAt l 0).toNat : Int) == 45) = false := minus_at hneg (by omega)
    have HNEG := Lib.hid hneg
    clear hneg
    go_enter Tryz.func51, Tryz.ntmps51
    go_wp2
    go_loop [6, 7] (fun n k => ∃ (q : Nat) (x : Int), q ≤ l.length ∧ k = .int .i64 q ∧ n = .int .i64 x ∧ readQ l 0 q x) (fun _ k => l.length - (intOf k).toNat)
    case atStart => exact ⟨0, 0, by omega, rfl, rfl, readQ_start l 0⟩
    case round =>
      obtain ⟨q, x, hq, rfl, rfl, hr⟩ := hrel
      obtain ⟨x0, x1⟩ := readQ_bound hr hq (by omega)
      by_cases hlt : q < l.length
      · have hget := get_at l q (by rw [size_at]; omega)
        have hc9 : ((byteAt l q).toNat : Int) ≤ 255 := by have := (byteAt l q).toNat_lt; omega
        cases hd : isDig (byteAt l q)
        · have HR : Hid (readO l = none) := Lib.hid (readO_bad HI.out (readQ_bad hr hlt hd))
          have HV : Hid (numR l = .tuple #[.int .i64 0, .bool false]) := Lib.hid (by unfold numR; rw [HR.out]; rfl)
          have hd' : ((byteAt l q).toNat : Int) < 48 ∨ 57 < ((byteAt l q).toNat : Int) := by
            simp only [isDig, decide_eq_false_iff_not] at hd
            omega
          clear hr
          rcases hd' with hd' | hd'
          · go_wp2
            go_ret2
            exact ⟨by rw [HV.out]; rfl, rfl⟩
          · have hd2 : ¬ ((byteAt l q).toNat : Int) < 48 := by omega
            go_wp2
            go_ret2
            exact ⟨by rw [HV.out]; rfl, rfl⟩
        · have HN := Lib.hid (readQ_hit hr hlt hd)
          have hd' : 48 ≤ ((byteAt l q).toNat : Int) ∧ ((byteAt l q).toNat : Int) ≤ 57 := by
            simp only [isDig, decide_eq_true_eq] at hd
            omega
          obtain ⟨d0, d1⟩ := hd'
          clear hr
          go_wp2
          go_round
          case rel => exact ⟨q + 1, _, by omega, by go_num, by go_num, HN.out⟩
          case measure => simp [intOf]; omega
      · obtain rfl : q = l.length := by omega
        have HE := Lib.hid (readQ_end hr)
        clear hr
        by_cases h0 : byteAt l 0 = 48
        · have hz : (((byteAt l 0).toNat : Int) == 48) = true := by rw [h0]; rfl
          by_cases h2 : 1 < l.length
          · have HR : Hid (readO l = none) := Lib.hid (readO_zero HI.out (by omega) h0 (.inr h2))
            have HV : Hid (numR l = .tuple #[.int .i64 0, .bool false]) := Lib.hid (by unfold numR; rw [HR.out]; rfl)
            go_wp2
            go_ret2
            exact ⟨by rw [HV.out]; rfl, rfl⟩
          · have HR := Lib.hid (readO_ok HI.out (by omega) (by omega) HE.out (fun h => by
              rcases h.2 with h | h
              · have := HI.out
                rw [if_pos h] at this
                omega
              · omega))
            have HV : Hid (numR l = .tuple #[.int .i64 x, .bool true]) := Lib.hid (by unfold numR; rw [HR.out]; simp [HNEG.out])
            go_wp2
            go_ret2
            exact ⟨by rw [HV.out]; rfl, rfl⟩
        · have hz : (((byteAt l 0).toNat : Int) == 48) = false := by
            have := u8_beq (byteAt l 0) 48
            rw [decide_eq_false h0] at this
            exact this
          have HR := Lib.hid (readO_ok HI.out (by omega) (by omega) HE.out (fun h => h0 h.1))
          have HV : Hid (numR l = .tuple #[.int .i64 (x), .bool true]) := Lib.hid (by unfold numR; rw [HR.out]; simp [HNEG.out])
          go_wp2
          go_ret2
          exact ⟨by rw [HV.out]; rfl, rfl⟩
set_option maxRecDepth 100000 in
set_option maxHeartbeats 2000000 in
theorem l1Read_minus (l : List UInt8) (w : World) (hl : l.length ≤ 1048576) (hneg : negR l = true) :
    Calls Tryz.prog 51 #[strV l] w fun e w' => e = .returned (numR l) ∧ w' = w := by
  have HI : Hid (1 = if negR l = true then 1 else 0) := Lib.hid (by rw [hneg]; rfl)
  by_cases hs : l.length - 1 < 1 ∨ 9 < l.length - 1
  · have HR : Hid (readO l = none) := Lib.hid (readO_short HI.out (by simpa using hs))
    have HV : Hid (numR l = .tuple #[.int .i64 0, .bool false]) := Lib.hid (by unfold numR; rw [HR.out]; rfl)
    by_cases h0 : l.length < 2
    · have hle : l.isEmpty = false := by cases l with | nil => simp [negR] at hneg | cons _ _ => rfl
      have hn1 : 1 ≤ l.length := by cases l with | nil => simp [negR] at hneg | cons _ _ => simp
      have hget0 := get_at l 0 (by rw [size_at]; omega)
      have hm : (((byteAt l 0).toNat : Int) == 45) = true := minus_at hneg (by omega)
      clear hneg hs
      go_enter Tryz.func51, Tryz.ntmps51
      go_wp2
      go_ret2
      exact ⟨by rw [HV.out]; rfl, rfl⟩
    · have hle : l.isEmpty = false := by cases l with | nil => simp [negR] at hneg | cons _ _ => rfl
      have hget0 := get_at l 0 (by rw [size_at]; omega)
      have hm : (((byteAt l 0).toNat : Int) == 45) = true := minus_at hneg (by omega)
      have h10 : 10 < l.length := by omega
      clear hneg hs
      go_enter Tryz.func51, Tryz.ntmps51
      go_wp2
      go_ret2
      exact ⟨by rw [HV.out]; rfl, rfl⟩
  · have h1 : 1 + 1 ≤ l.length := by omega
    have h9 : l.length ≤ 1 + 9 := by omega
    clear hs
    have hle : l.isEmpty = false := by cases l with | nil => simp at h1 | cons _ _ => rfl
    have hget0 := get_at l 0 (by rw [size_at]; omega)
    have hget1 := get_at l 1 (by rw [size_at]; omega)
    have hm : (((byteAt l 0).toNat : Int) == 45) = true := minus_at hneg (by omega)
    have HNEG := Lib.hid hneg
    clear hneg
    go_enter Tryz.func51, Tryz.ntmps51
    go_wp2
    go_loop [6, 7] (fun n k => ∃ (q : Nat) (x : Int), q ≤ l.length ∧ k = .int .i64 q ∧ n = .int .i64 x ∧ readQ l 1 q x) (fun _ k => l.length - (intOf k).toNat)
    case atStart => exact ⟨1, 0, by omega, rfl, rfl, readQ_start l 1⟩
    case round =>
      obtain ⟨q, x, hq, rfl, rfl, hr⟩ := hrel
      obtain ⟨x0, x1⟩ := readQ_bound hr hq (by omega)
      by_cases hlt : q < l.length
      · have hget := get_at l q (by rw [size_at]; omega)
        have hc9 : ((byteAt l q).toNat : Int) ≤ 255 := by have := (byteAt l q).toNat_lt; omega
        cases hd : isDig (byteAt l q)
        · have HR : Hid (readO l = none) := Lib.hid (readO_bad HI.out (readQ_bad hr hlt hd))
          have HV : Hid (numR l = .tuple #[.int .i64 0, .bool false]) := Lib.hid (by unfold numR; rw [HR.out]; rfl)
          have hd' : ((byteAt l q).toNat : Int) < 48 ∨ 57 < ((byteAt l q).toNat : Int) := by
            simp only [isDig, decide_eq_false_iff_not] at hd
            omega
          clear hr
          rcases hd' with hd' | hd'
          · go_wp2
            go_ret2
            exact ⟨by rw [HV.out]; rfl, rfl⟩
          · have hd2 : ¬ ((byteAt l q).toNat : Int) < 48 := by omega
            go_wp2
            go_ret2
            exact ⟨by rw [HV.out]; rfl, rfl⟩
        · have HN := Lib.hid (readQ_hit hr hlt hd)
          have hd' : 48 ≤ ((byteAt l q).toNat : Int) ∧ ((byteAt l q).toNat : Int) ≤ 57 := by
            simp only [isDig, decide_eq_true_eq] at hd
            omega
          obtain ⟨d0, d1⟩ := hd'
          clear hr
          go_wp2
          go_round
          case rel => exact ⟨q + 1, _, by omega, by go_num, by go_num, HN.out⟩
          case measure => simp [intOf]; omega
      · obtain rfl : q = l.length := by omega
        have HE := Lib.hid (readQ_end hr)
        clear hr
        by_cases h0 : byteAt l 1 = 48
        · have hz : (((byteAt l 1).toNat : Int) == 48) = true := by rw [h0]; rfl
          have HR : Hid (readO l = none) := Lib.hid (readO_zero HI.out (by omega) h0 (.inr (by omega)))
          have HV : Hid (numR l = .tuple #[.int .i64 0, .bool false]) := Lib.hid (by unfold numR; rw [HR.out]; rfl)
          go_wp2
          go_ret2
          exact ⟨by rw [HV.out]; rfl, rfl⟩
        · have hz : (((byteAt l 1).toNat : Int) == 48) = false := by
            have := u8_beq (byteAt l 1) 48
            rw [decide_eq_false h0] at this
            exact this
          have HR := Lib.hid (readO_ok HI.out (by omega) (by omega) HE.out (fun h => h0 h.1))
          have HV : Hid (numR l = .tuple #[.int .i64 (-x), .bool true]) := Lib.hid (by unfold numR; rw [HR.out]; simp [HNEG.out])
          go_wp2
          go_ret2
          exact ⟨by rw [HV.out]; rfl, rfl⟩
theorem l1Read_any (l : List UInt8) (w : World) (hl : l.length ≤ 1048576) :
    Calls Tryz.prog 51 #[strV l] w fun e w' => e = .returned (numR l) ∧ w' = w := by
  cases h : negR l
  · exact l1Read_plus l w hl h
  · exact l1Read_minus l w hl h
end Go.Proofs.YtljamlgnobpjeaaGreatDoor
