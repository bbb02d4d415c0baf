/- Contract of the specification's l1Int: the decimal text of a number. -/
import Derived.Test.YtljamlgnobpjeaaGreatDoorMB
import Derived.Laws.BytesArg
import Derived.Lib.ItoaLen
import Derived.Lib.Hide
namespace Go.Proofs.YtljamlgnobpjeaaGreatDoor
open Go.ChangeShapes Go.WideShapes Go.ChangeAt Go.RowKit

theorem conv_one (w : World) (x : Int) :
    (convert 22 9 (.slice (some ⟨w.heap.size, 0, none⟩) 1 1)).run Tryz.prog (w.alloc (.cells #[.int .u8 x] 5)) = .ok (.string ⟨#[UInt8.ofNat x.toNat]⟩) (w.alloc (.cells #[.int .u8 x] 5)) := by
  have := run_convert_bytes_arg (P := Tryz.prog) (w.alloc (.cells #[.int .u8 x] 5)) 22 5 Tryz.underlying22 Tryz.underlying5 w.heap.size 0 1 1 [x] rfl (fun i hi => by
    obtain rfl : i = 0 := by omega
    exact box_cell (Keep.refl _) 0) 9 Tryz.underlying9
  exact this
/-- The digits of a number that is not 0; nothing of 0. -/
def decs (n : Int) : List UInt8 := if n = 0 then [] else Lib.decDigits n.natAbs
theorem decs_step (y : Int) (hy : ¬ y = 0) : decs (y.tdiv 10) ++ [UInt8.ofNat (48 + y.natAbs % 10)] = decs y := by
  unfold decs
  rw [if_neg hy]
  have e : (y.tdiv 10).natAbs = y.natAbs / 10 := by rw [Int.natAbs_tdiv]; rfl
  by_cases h : y.natAbs < 10
  · rw [if_pos (by omega), Lib.decDigits, dif_pos h]
    simp [Nat.mod_eq_of_lt h]
  · rw [if_neg (by omega), e]
    conv => rhs; rw [Lib.decDigits, dif_neg h]
theorem dec_first (y : Int) : decs (y.tdiv 10) ++ [UInt8.ofNat (48 + y.natAbs % 10)] = Lib.decDigits y.natAbs := by
  by_cases h : y = 0
  · subst h; rw [show (0 : Int).natAbs = 0 from rfl, Lib.decDigits, dif_pos (by omega)]; rfl
  · rw [decs_step y h]; unfold decs; rw [if_neg h]
theorem tm10 (y : Int) : (y.tmod 10).natAbs = y.natAbs % 10 := Int.natAbs_tmod y 10
theorem td10 (y : Int) : (y.tdiv 10).natAbs = y.natAbs / 10 := Int.natAbs_tdiv y 10
theorem td_in {y : Int} (h0 : -9223372036854775808 ≤ y) (h1 : y ≤ 9223372036854775807) : -9223372036854775808 ≤ y.tdiv 10 ∧ y.tdiv 10 ≤ 9223372036854775807 := by
  have := td10 y
  omega
theorem dig_neg {y : Int} (h : y.tmod 10 < 0) : UInt8.ofNat (wrap64 (48 + wrap64 (-y.tmod 10)) % 256).toNat = UInt8.ofNat (48 + y.natAbs % 10) := by
  have := tm10 y
  rw [wrap64_small (-y.tmod 10) (by omega) (by omega), wrap64_small _ (by omega) (by omega)]
  congr 1
  omega
theorem dig_pos {y : Int} (h : ¬ y.tmod 10 < 0) : UInt8.ofNat (wrap64 (48 + y.tmod 10) % 256).toNat = UInt8.ofNat (48 + y.natAbs % 10) := by
  have := tm10 y
  rw [wrap64_small _ (by omega) (by omega)]
  congr 1
  omega
theorem decs_len {n : Int} (h0 : -9223372036854775808 ≤ n) (h1 : n ≤ 9223372036854775807) : (Lib.decDigits n.natAbs).length ≤ 21 := by
  by_cases h : n < 0
  · have := Lib.itoa_length_le n h0 h1
    unfold Lib.itoa at this
    rw [if_pos h] at this
    simp only [List.length_cons] at this
    omega
  · have := Lib.itoa_length_le n h0 h1
    unfold Lib.itoa at this
    rw [if_neg h] at this
    have e : n.toNat = n.natAbs := by omega
    rw [e] at this
    exact this
theorem str_cons (c : UInt8) (l : List UInt8) : Value.string ((⟨#[c]⟩ : ByteArray) ++ ⟨l.toArray⟩) = strV (c :: l) := by
  have e : (⟨#[c]⟩ : ByteArray) ++ ⟨l.toArray⟩ = ⟨(c :: l).toArray⟩ := by
    apply ByteArray.ext
    simp
  rw [e]
def strLen (v : Value) : Nat := match v with
  | .string b => b.size
  | _ => 0
theorem strLen_strV (l : List UInt8) : strLen (strV l) = l.length := by
  show (⟨l.toArray⟩ : ByteArray).size = _
  simp [ByteArray.size]
theorem meas {y : Int} {c : UInt8} {l : List UInt8} (h : ¬ y = 0 ∨ l = []) : 2 * (y.tdiv 10).natAbs + (1 - strLen (.string ((⟨#[c]⟩ : ByteArray) ++ ⟨l.toArray⟩))) < 2 * y.natAbs + (1 - strLen (strV l)) := by
  rw [str_cons, strLen_strV, strLen_strV, td10]
  simp only [List.length_cons]
  rcases h with h | h
  · omega
  · subst h
    simp only [List.length_nil]
    omega
set_option maxHeartbeats 1000000 in
theorem l1Int_any (n : Int) (w : World) (h0 : -9223372036854775808 ≤ n) (h1 : n ≤ 9223372036854775807) :
    Calls Tryz.prog 70 #[.int .i64 n] w fun e w' => e = .returned (strV (Lib.itoa n)) ∧ Keep w w' := by
  have hconv := conv_one
  go_enter Tryz.func70, Tryz.ntmps70
  go_wp2
  go_loopw [0, 3] (fun m s wr => ∃ (y : Int) (l : List UInt8), m = .int .i64 y ∧ s = strV l ∧ -9223372036854775808 ≤ y ∧ y ≤ 9223372036854775807 ∧ ((l = [] ∧ y = n) ∨ (l ≠ [] ∧ decs y ++ l = Lib.decDigits n.natAbs)) ∧ Keep w wr) (fun m s _ => 2 * (intOf m).natAbs + (1 - strLen s))
  case atStart => exact ⟨n, [], rfl, rfl, h0, h1, .inl ⟨rfl, rfl⟩, Keep.refl w⟩
  case round =>
    obtain ⟨y, l, rfl, rfl, y0, y1, hl, hK⟩ := hrel
    rcases hl with ⟨rfl, rfl⟩ | ⟨hl, he⟩
    · have HE := Lib.hid (dec_first y)
      by_cases hneg : y.tmod 10 < 0
      · have HD := Lib.hid (dig_neg hneg)
        go_wp2
        go_round
        case rel => exact ⟨_, [_], rfl, str_cons _ [], (td_in y0 y1).1, (td_in y0 y1).2, .inr ⟨by simp, by rw [HD.out]; exact HE.out⟩, hK.alloc _⟩
        case measure => exact meas (.inr rfl)
      · have HD := Lib.hid (dig_pos hneg)
        go_wp2
        go_round
        case rel => exact ⟨_, [_], rfl, str_cons _ [], (td_in y0 y1).1, (td_in y0 y1).2, .inr ⟨by simp, by rw [HD.out]; exact HE.out⟩, hK.alloc _⟩
        case measure => exact meas (.inr rfl)
    · have hle : l.isEmpty = false := by cases l <;> simp_all
      have hlen : l.length ≤ 21 := by
        have := decs_len h0 h1
        rw [← he, List.length_append] at this
        omega
      have HL := Lib.hid hl
      have HE := Lib.hid he
      clear hl he
      by_cases hy : y = 0
      · subst hy
        have HE' : Hid (l = Lib.decDigits n.natAbs) := by
          have := HE.out
          exact Lib.hid (by simpa [decs] using this)
        by_cases hn : n < 0
        · go_wp2
          go_ret
          refine ⟨?_, hK⟩
          have e : Lib.itoa n = 45 :: l := by unfold Lib.itoa; rw [if_pos hn, HE'.out]
          rw [e]
          exact congrArg Ending.returned (str_cons 45 l)
        · go_wp2
          go_ret
          refine ⟨?_, hK⟩
          have e : Lib.itoa n = l := by unfold Lib.itoa; rw [if_neg (by omega), HE'.out]; congr 1; omega
          rw [e]
          rfl
      · have hyb : (y != 0) = true := by simpa using hy
        have HS := Lib.hid (decs_step y hy)
        have hl1 : 1 ≤ l.length := by
          have := HL.out
          cases l with
          | nil => exact absurd rfl this
          | cons _ _ => simp
        by_cases hneg : y.tmod 10 < 0
        · have HD := Lib.hid (dig_neg hneg)
          go_wp2
          go_round
          case rel =>
            refine ⟨_, _ :: l, rfl, str_cons _ l, (td_in y0 y1).1, (td_in y0 y1).2, .inr ⟨by simp, ?_⟩, hK.alloc _⟩
            rw [HD.out, ← HE.out, ← HS.out]
            simp
          case measure => exact meas (.inl hy)
        · have HD := Lib.hid (dig_pos hneg)
          go_wp2
          go_round
          case rel =>
            refine ⟨_, _ :: l, rfl, str_cons _ l, (td_in y0 y1).1, (td_in y0 y1).2, .inr ⟨by simp, ?_⟩, hK.alloc _⟩
            rw [HD.out, ← HE.out, ← HS.out]
            simp
          case measure => exact meas (.inl hy)
end Go.Proofs.YtljamlgnobpjeaaGreatDoor
