/- Gathered texts. -/
import Derived.Test.YtgakfkjjkobpiaaML
set_option maxRecDepth 100000
set_option maxHeartbeats 8000000
namespace Go.Proofs.Ytgakfkjjkobpiaa
open Go.ChangeShapes Go.WideShapes Go.ChangeAt Go.RowKit
theorem heldI_row (w : World) (a : Option Addr) (n cap : Nat) (k : Int) (hs : n = 0 ∨ ∃ b o, a = some ⟨b, o, none⟩) (hw : ∀ x, rowS (.slice a n cap) (n) x → x.block < w.heap.size) (hM : Mkd w (.slice a n cap) (n) k) (hn : n ≤ 1048576) (h0 : 1 ≤ k) (h1 : k ≤ 16777216) :
    Calls Try.prog 28 #[.slice a n cap, .int .i64 k] w fun e w' => e = .returned (.int .i64 (k + n)) ∧ Keep w w' := by
  go_enter Try.func28, Try.ntmps28
  go_wp2
  go_loopw [1, 5] (fun q i wr => ∃ j : Nat, j ≤ n ∧ i = .int .i64 j ∧ q = .int .i64 (k + (j : Int)) ∧ Keep w wr) (fun _ i _ => n - (intOf i).toNat)
  case atStart => exact ⟨0, Nat.zero_le _, rfl, by simp, Keep.refl _⟩
  case round =>
    obtain ⟨j, hj, rfl, rfl, hK⟩ := hrel
    by_cases hlt : j < n
    · obtain ⟨b, o, rfl⟩ : ∃ b o, a = some ⟨b, o, none⟩ := by
        rcases hs with h | h
        · exfalso; omega
        · exact h
      have hb : b < w.heap.size := hw ⟨b, o + 0, none⟩ ⟨b, o, n, cap, 0, rfl, by omega, rfl⟩
      have d0 := (hK.cell hb).trans (hM b o n cap (j) rfl (by omega))
      have e0 : (k + (j : Int) != k + (j : Int)) = false := by simp
      have i1 : (0 : Int) ≤ (j : Int) := Int.natCast_nonneg _
      have i2 : (j : Int) < (n : Int) := by omega
      go_wp2
      go_roundw
      case rel => exact ⟨j + 1, by omega, by go_num, by go_num, hK⟩
      case measure => simp [intOf]; omega
    · have : j = n := by omega
      subst this
      go_wp2
      go_ret
      exact ⟨rfl, hK⟩
theorem heldDd_row (w : World) (a : Option Addr) (n cap : Nat) (k : Int) (hs : n = 0 ∨ ∃ b o, a = some ⟨b, o, none⟩) (hw : ∀ x, rowS (.slice a n cap) (4 * n) x → x.block < w.heap.size) (hM : Mkd w (.slice a n cap) (4 * n) k) (hn : n ≤ 1048576) (h0 : 1 ≤ k) (h1 : k ≤ 16777216) :
    Calls Try.prog 93 #[.slice a n cap, .int .i64 k] w fun e w' => e = .returned (.int .i64 (k + 4 * n)) ∧ Keep w w' := by
  go_enter Try.func93, Try.ntmps93
  go_wp2
  go_loopw [1, 5] (fun q i wr => ∃ j : Nat, j ≤ n ∧ i = .int .i64 j ∧ q = .int .i64 (k + 4 * (j : Int)) ∧ Keep w wr) (fun _ i _ => n - (intOf i).toNat)
  case atStart => exact ⟨0, Nat.zero_le _, rfl, by simp, Keep.refl _⟩
  case round =>
    obtain ⟨j, hj, rfl, rfl, hK⟩ := hrel
    by_cases hlt : j < n
    · obtain ⟨b, o, rfl⟩ : ∃ b o, a = some ⟨b, o, none⟩ := by
        rcases hs with h | h
        · exfalso; omega
        · exact h
      have hb : b < w.heap.size := hw ⟨b, o + 0, none⟩ ⟨b, o, n, cap, 0, rfl, by omega, rfl⟩
      have d0 := (hK.cell hb).trans (hM b o n cap (4 * j) rfl (by omega))
      rw [show o + (4 * j) = o + j * 4 by omega, show k + ((4 * j : Nat) : Int) = k + 4 * (j : Int) by omega] at d0
      have e0 : (k + 4 * (j : Int) != k + 4 * (j : Int)) = false := by simp
      have d1 := (hK.cell hb).trans (hM b o n cap (4 * j + 1) rfl (by omega))
      rw [show o + (4 * j + 1) = o + j * 4 + 1 by omega, show k + ((4 * j + 1 : Nat) : Int) = k + 4 * (j : Int) + 1 by omega] at d1
      have e1 : (k + 4 * (j : Int) + 1 != k + 4 * (j : Int) + 1) = false := by simp
      have d2 := (hK.cell hb).trans (hM b o n cap (4 * j + 2) rfl (by omega))
      rw [show o + (4 * j + 2) = o + j * 4 + 2 by omega, show k + ((4 * j + 2 : Nat) : Int) = k + 4 * (j : Int) + 1 + 1 by omega] at d2
      have e2 : (k + 4 * (j : Int) + 1 + 1 != k + 4 * (j : Int) + 1 + 1) = false := by simp
      have d3 := (hK.cell hb).trans (hM b o n cap (4 * j + 3) rfl (by omega))
      rw [show o + (4 * j + 3) = o + j * 4 + 3 by omega, show k + ((4 * j + 3 : Nat) : Int) = k + 4 * (j : Int) + 1 + 1 + 1 by omega] at d3
      have e3 : (k + 4 * (j : Int) + 1 + 1 + 1 != k + 4 * (j : Int) + 1 + 1 + 1) = false := by simp
      have i1 : (0 : Int) ≤ (j : Int) := Int.natCast_nonneg _
      have i2 : (j : Int) < (n : Int) := by omega
      go_wp2
      go_roundw
      case rel => exact ⟨j + 1, by omega, by go_num, by go_num, hK⟩
      case measure => simp [intOf]; omega
    · have : j = n := by omega
      subst this
      go_wp2
      go_ret
      exact ⟨rfl, hK⟩
theorem heldN_row (w : World) (a : Option Addr) (n cap : Nat) (k : Int) (hs : n = 0 ∨ ∃ b o, a = some ⟨b, o, none⟩) (hw : ∀ x, rowS (.slice a n cap) (3 * n) x → x.block < w.heap.size) (hM : Mkd w (.slice a n cap) (3 * n) k) (hn : n ≤ 1048576) (h0 : 1 ≤ k) (h1 : k ≤ 16777216) :
    Calls Try.prog 94 #[.slice a n cap, .int .i64 k] w fun e w' => e = .returned (.int .i64 (k + 3 * n)) ∧ Keep w w' := by
  go_enter Try.func94, Try.ntmps94
  go_wp2
  go_loopw [1, 5] (fun q i wr => ∃ j : Nat, j ≤ n ∧ i = .int .i64 j ∧ q = .int .i64 (k + 3 * (j : Int)) ∧ Keep w wr) (fun _ i _ => n - (intOf i).toNat)
  case atStart => exact ⟨0, Nat.zero_le _, rfl, by simp, Keep.refl _⟩
  case round =>
    obtain ⟨j, hj, rfl, rfl, hK⟩ := hrel
    by_cases hlt : j < n
    · obtain ⟨b, o, rfl⟩ : ∃ b o, a = some ⟨b, o, none⟩ := by
        rcases hs with h | h
        · exfalso; omega
        · exact h
      have hb : b < w.heap.size := hw ⟨b, o + 0, none⟩ ⟨b, o, n, cap, 0, rfl, by omega, rfl⟩
      have d0 := (hK.cell hb).trans (hM b o n cap (3 * j) rfl (by omega))
      rw [show o + (3 * j) = o + j * 3 by omega, show k + ((3 * j : Nat) : Int) = k + 3 * (j : Int) by omega] at d0
      have e0 : (k + 3 * (j : Int) != k + 3 * (j : Int)) = false := by simp
      have d1 := (hK.cell hb).trans (hM b o n cap (3 * j + 1) rfl (by omega))
      rw [show o + (3 * j + 1) = o + j * 3 + 1 by omega, show k + ((3 * j + 1 : Nat) : Int) = k + 3 * (j : Int) + 1 by omega] at d1
      have e1 : (k + 3 * (j : Int) + 1 != k + 3 * (j : Int) + 1) = false := by simp
      have d2 := (hK.cell hb).trans (hM b o n cap (3 * j + 2) rfl (by omega))
      rw [show o + (3 * j + 2) = o + j * 3 + 2 by omega, show k + ((3 * j + 2 : Nat) : Int) = k + 3 * (j : Int) + 1 + 1 by omega] at d2
      have e2 : (k + 3 * (j : Int) + 1 + 1 != k + 3 * (j : Int) + 1 + 1) = false := by simp
      have i1 : (0 : Int) ≤ (j : Int) := Int.natCast_nonneg _
      have i2 : (j : Int) < (n : Int) := by omega
      go_wp2
      go_roundw
      case rel => exact ⟨j + 1, by omega, by go_num, by go_num, hK⟩
      case measure => simp [intOf]; omega
    · have : j = n := by omega
      subst this
      go_wp2
      go_ret
      exact ⟨rfl, hK⟩
theorem heldII_rows (w : World) (v : Value) (V : Nat → Value) (ln : Nat → Nat) (n : Nat) (k : Int) (hv : ∃ a c, v = .slice a n c ∧ (n = 0 ∨ ∃ b o, a = some ⟨b, o, none⟩ ∧ b < w.heap.size ∧ ∀ i, i < n → w.cell? ⟨b, o + i, none⟩ = some (V i)))
    (hV : ∀ i, i < n → SlV (V i) (ln i)) (hw : ∀ x, rowsS (rowsV 1 V ln n) x → x.block < w.heap.size) (hM : mkR w k (rowsV 1 V ln n)) (hn : n ≤ 1048576) (hl : ∀ i, i < n → ln i ≤ 1048576) (h0 : 1 ≤ k) (h1 : k + totR (rowsV 1 V ln n) ≤ 16777216) :
    Calls Try.prog 62 #[v, .int .i64 k] w fun e w' => e = .returned (.int .i64 (k + totR (rowsV 1 V ln n))) ∧ Keep w w' := by
  obtain ⟨a, cap, rfl, hv⟩ := hv
  have HW := Lib.hid hw
  have HR := Lib.hid (fun j (hj : j < n) => rowsV_mk 1 V ln n hM j hj)
  have HV := Lib.hid hV
  have HN := Lib.hid hl
  have HT : Hid (∀ j, j ≤ n → k + totR (rowsV 1 V ln j) ≤ 16777216) := Lib.hid (fun j hj => by have := rowsV_mono 1 V ln n j hj; omega)
  clear hM hV hl h1 hw
  go_enter Try.func62, Try.ntmps62
  go_wp2
  go_loopw [1, 5] (fun q i wr => ∃ j m : Nat, j ≤ n ∧ i = .int .i64 j ∧ q = .int .i64 (k + (m : Int)) ∧ Hid (m = totR (rowsV 1 V ln j)) ∧ Keep w wr) (fun _ i _ => n - (intOf i).toNat)
  case atStart => exact ⟨0, 0, Nat.zero_le _, rfl, by simp, Lib.hid rfl, Keep.refl _⟩
  case round =>
    obtain ⟨j, m, hj, rfl, rfl, hm, hK⟩ := hrel
    by_cases hlt : j < n
    · rcases hv with hv | ⟨b, o, rfl, hb, hc⟩
      · exfalso; omega
      have d1 := (hK.cell hb).trans (hc j hlt)
      obtain ⟨a2, c2, eV, hs2⟩ := HV.out j hlt
      have hlj := HN.out j hlt
      have hk := HT.out j hj
      have hD := HR.out j hlt
      have hX : ∀ x, rowS (V j) (1 * ln j) x → x.block < w.heap.size := fun x hx => HW.out x ⟨_, (rowsV_mem 1 V ln n _).2 ⟨j, hlt, rfl⟩, hx⟩
      rw [← hm.out] at hk hD
      rw [eV] at hD d1 hX
      have HM2 : Hid (m + ln j = totR (rowsV 1 V ln (j + 1))) := Lib.hid (by rw [rowsV_tot, hm.out]; simp)
      have C := heldI_row wr a2 (ln j) c2 (k + (m : Int)) hs2 (fun x hx => Nat.lt_of_lt_of_le (hX x (by simpa using hx)) hK.size) (by have := hD.keep hK hX; simpa using this) hlj (by omega) (by omega)
      rw [show k + (m : Int) + (ln j : Int) = k + ((m + ln j : Nat) : Int) by omega] at C
      clear hc hm eV hD hX
      have i1 : (0 : Int) ≤ (j : Int) := Int.natCast_nonneg _
      have i2 : (j : Int) < (n : Int) := by omega
      have i3 : ¬ (k + ((m + ln j : Nat) : Int) < 0) := by omega
      go_wp2_with fail
      refine C.mono ?_
      rintro e wz ⟨rfl, k1⟩
      have K1 := hK.trans k1
      clear C d1 hK k1
      generalize m + ln j = m2 at *
      go_wp2
      go_roundw
      case rel => exact ⟨j + 1, _, by omega, by go_num, rfl, HM2, K1⟩
      case measure => simp [intOf]; omega
    · obtain rfl : j = n := by omega
      go_wp2
      go_ret
      exact ⟨by rw [hm.out]; rfl, hK⟩
theorem heldDD_rows (w : World) (v : Value) (V : Nat → Value) (ln : Nat → Nat) (n : Nat) (k : Int) (hv : ∃ a c, v = .slice a n c ∧ (n = 0 ∨ ∃ b o, a = some ⟨b, o, none⟩ ∧ b < w.heap.size ∧ ∀ i, i < n → w.cell? ⟨b, o + i, none⟩ = some (V i)))
    (hV : ∀ i, i < n → SlV (V i) (ln i)) (hw : ∀ x, rowsS (rowsV 4 V ln n) x → x.block < w.heap.size) (hM : mkR w k (rowsV 4 V ln n)) (hn : n ≤ 1048576) (hl : ∀ i, i < n → ln i ≤ 1048576) (h0 : 1 ≤ k) (h1 : k + totR (rowsV 4 V ln n) ≤ 16777216) :
    Calls Try.prog 60 #[v, .int .i64 k] w fun e w' => e = .returned (.int .i64 (k + totR (rowsV 4 V ln n))) ∧ Keep w w' := by
  obtain ⟨a, cap, rfl, hv⟩ := hv
  have HW := Lib.hid hw
  have HR := Lib.hid (fun j (hj : j < n) => rowsV_mk 4 V ln n hM j hj)
  have HV := Lib.hid hV
  have HN := Lib.hid hl
  have HT : Hid (∀ j, j ≤ n → k + totR (rowsV 4 V ln j) ≤ 16777216) := Lib.hid (fun j hj => by have := rowsV_mono 4 V ln n j hj; omega)
  clear hM hV hl h1 hw
  go_enter Try.func60, Try.ntmps60
  go_wp2
  go_loopw [1, 5] (fun q i wr => ∃ j m : Nat, j ≤ n ∧ i = .int .i64 j ∧ q = .int .i64 (k + (m : Int)) ∧ Hid (m = totR (rowsV 4 V ln j)) ∧ Keep w wr) (fun _ i _ => n - (intOf i).toNat)
  case atStart => exact ⟨0, 0, Nat.zero_le _, rfl, by simp, Lib.hid rfl, Keep.refl _⟩
  case round =>
    obtain ⟨j, m, hj, rfl, rfl, hm, hK⟩ := hrel
    by_cases hlt : j < n
    · rcases hv with hv | ⟨b, o, rfl, hb, hc⟩
      · exfalso; omega
      have d1 := (hK.cell hb).trans (hc j hlt)
      obtain ⟨a2, c2, eV, hs2⟩ := HV.out j hlt
      have hlj := HN.out j hlt
      have hk := HT.out j hj
      have hD := HR.out j hlt
      have hX : ∀ x, rowS (V j) (4 * ln j) x → x.block < w.heap.size := fun x hx => HW.out x ⟨_, (rowsV_mem 4 V ln n _).2 ⟨j, hlt, rfl⟩, hx⟩
      rw [← hm.out] at hk hD
      rw [eV] at hD d1 hX
      have HM2 : Hid (m + 4 * ln j = totR (rowsV 4 V ln (j + 1))) := Lib.hid (by rw [rowsV_tot, hm.out])
      have C := heldDd_row wr a2 (ln j) c2 (k + (m : Int)) hs2 (fun x hx => Nat.lt_of_lt_of_le (hX x (by exact hx)) hK.size) (by have := hD.keep hK hX; exact this) hlj (by omega) (by omega)
      rw [show k + (m : Int) + 4 * (ln j : Int) = k + ((m + 4 * ln j : Nat) : Int) by omega] at C
      clear hc hm eV hD hX
      have i1 : (0 : Int) ≤ (j : Int) := Int.natCast_nonneg _
      have i2 : (j : Int) < (n : Int) := by omega
      have i3 : ¬ (k + ((m + 4 * ln j : Nat) : Int) < 0) := by omega
      go_wp2_with fail
      refine C.mono ?_
      rintro e wz ⟨rfl, k1⟩
      have K1 := hK.trans k1
      clear C d1 hK k1
      generalize m + 4 * ln j = m2 at *
      go_wp2
      go_roundw
      case rel => exact ⟨j + 1, _, by omega, by go_num, rfl, HM2, K1⟩
      case measure => simp [intOf]; omega
    · obtain rfl : j = n := by omega
      go_wp2
      go_ret
      exact ⟨by rw [hm.out]; rfl, hK⟩
theorem heldNN_rows (w : World) (v : Value) (V : Nat → Value) (ln : Nat → Nat) (n : Nat) (k : Int) (hv : ∃ a c, v = .slice a n c ∧ (n = 0 ∨ ∃ b o, a = some ⟨b, o, none⟩ ∧ b < w.heap.size ∧ ∀ i, i < n → w.cell? ⟨b, o + i, none⟩ = some (V i)))
    (hV : ∀ i, i < n → SlV (V i) (ln i)) (hw : ∀ x, rowsS (rowsV 3 V ln n) x → x.block < w.heap.size) (hM : mkR w k (rowsV 3 V ln n)) (hn : n ≤ 1048576) (hl : ∀ i, i < n → ln i ≤ 1048576) (h0 : 1 ≤ k) (h1 : k + totR (rowsV 3 V ln n) ≤ 16777216) :
    Calls Try.prog 61 #[v, .int .i64 k] w fun e w' => e = .returned (.int .i64 (k + totR (rowsV 3 V ln n))) ∧ Keep w w' := by
  obtain ⟨a, cap, rfl, hv⟩ := hv
  have HW := Lib.hid hw
  have HR := Lib.hid (fun j (hj : j < n) => rowsV_mk 3 V ln n hM j hj)
  have HV := Lib.hid hV
  have HN := Lib.hid hl
  have HT : Hid (∀ j, j ≤ n → k + totR (rowsV 3 V ln j) ≤ 16777216) := Lib.hid (fun j hj => by have := rowsV_mono 3 V ln n j hj; omega)
  clear hM hV hl h1 hw
  go_enter Try.func61, Try.ntmps61
  go_wp2
  go_loopw [1, 5] (fun q i wr => ∃ j m : Nat, j ≤ n ∧ i = .int .i64 j ∧ q = .int .i64 (k + (m : Int)) ∧ Hid (m = totR (rowsV 3 V ln j)) ∧ Keep w wr) (fun _ i _ => n - (intOf i).toNat)
  case atStart => exact ⟨0, 0, Nat.zero_le _, rfl, by simp, Lib.hid rfl, Keep.refl _⟩
  case round =>
    obtain ⟨j, m, hj, rfl, rfl, hm, hK⟩ := hrel
    by_cases hlt : j < n
    · rcases hv with hv | ⟨b, o, rfl, hb, hc⟩
      · exfalso; omega
      have d1 := (hK.cell hb).trans (hc j hlt)
      obtain ⟨a2, c2, eV, hs2⟩ := HV.out j hlt
      have hlj := HN.out j hlt
      have hk := HT.out j hj
      have hD := HR.out j hlt
      have hX : ∀ x, rowS (V j) (3 * ln j) x → x.block < w.heap.size := fun x hx => HW.out x ⟨_, (rowsV_mem 3 V ln n _).2 ⟨j, hlt, rfl⟩, hx⟩
      rw [← hm.out] at hk hD
      rw [eV] at hD d1 hX
      have HM2 : Hid (m + 3 * ln j = totR (rowsV 3 V ln (j + 1))) := Lib.hid (by rw [rowsV_tot, hm.out])
      have C := heldN_row wr a2 (ln j) c2 (k + (m : Int)) hs2 (fun x hx => Nat.lt_of_lt_of_le (hX x (by exact hx)) hK.size) (by have := hD.keep hK hX; exact this) hlj (by omega) (by omega)
      rw [show k + (m : Int) + 3 * (ln j : Int) = k + ((m + 3 * ln j : Nat) : Int) by omega] at C
      clear hc hm eV hD hX
      have i1 : (0 : Int) ≤ (j : Int) := Int.natCast_nonneg _
      have i2 : (j : Int) < (n : Int) := by omega
      have i3 : ¬ (k + ((m + 3 * ln j : Nat) : Int) < 0) := by omega
      go_wp2_with fail
      refine C.mono ?_
      rintro e wz ⟨rfl, k1⟩
      have K1 := hK.trans k1
      clear C d1 hK k1
      generalize m + 3 * ln j = m2 at *
      go_wp2
      go_roundw
      case rel => exact ⟨j + 1, _, by omega, by go_num, rfl, HM2, K1⟩
      case measure => simp [intOf]; omega
    · obtain rfl : j = n := by omega
      go_wp2
      go_ret
      exact ⟨by rw [hm.out]; rfl, hK⟩
theorem heldBoard_any (w : World) (v : BV) (Vw Vn Vr : Nat → Value) (dss : List (List Dd)) (b : Bd) (k : Int) (H : HdBd w v Vw Vn Vr dss b) (hw : ∀ x, rowsS (bdR7 v Vw Vn Vr dss b) x → x.block < w.heap.size) (M : mkR w k (bdR7 v Vw Vn Vr dss b)) (hsz : SzBd dss b) (h0 : 1 ≤ k) (h1 : k + totR (bdR7 v Vw Vn Vr dss b) ≤ 16777216) :
    Calls Try.prog 21 #[v.agg, .int .i64 k] w fun e w' => e = .returned (.int .i64 (k + totR (bdR7 v Vw Vn Vr dss b))) ∧ Keep w w' := by
  have U0 : (bdR0 Vw dss).Sublist (bdR7 v Vw Vn Vr dss b) := bd_sub0
  have U1 : (bdR1 v Vw dss b).Sublist (bdR7 v Vw Vn Vr dss b) := bd_sub1
  have U2 : (bdR2 v Vw dss b).Sublist (bdR7 v Vw Vn Vr dss b) := bd_sub2
  have U3 : (bdR3 v Vw Vn dss b).Sublist (bdR7 v Vw Vn Vr dss b) := bd_sub3
  have U4 : (bdR4 v Vw Vn dss b).Sublist (bdR7 v Vw Vn Vr dss b) := bd_sub4
  have U5 : (bdR5 v Vw Vn dss b).Sublist (bdR7 v Vw Vn Vr dss b) := bd_sub5
  have U6 : (bdR6 v Vw Vn dss b).Sublist (bdR7 v Vw Vn Vr dss b) := bd_sub6
  have U7 : (bdR7 v Vw Vn Vr dss b).Sublist (bdR7 v Vw Vn Vr dss b) := bd_sub7
  have HT0 : k + (totR (bdR0 Vw dss) : Int) ≤ 16777216 := by have := totR_sub U0; omega
  have HT1 : k + (totR (bdR1 v Vw dss b) : Int) ≤ 16777216 := by have := totR_sub U1; omega
  have HT2 : k + (totR (bdR2 v Vw dss b) : Int) ≤ 16777216 := by have := totR_sub U2; omega
  have HT3 : k + (totR (bdR3 v Vw Vn dss b) : Int) ≤ 16777216 := by have := totR_sub U3; omega
  have HT4 : k + (totR (bdR4 v Vw Vn dss b) : Int) ≤ 16777216 := by have := totR_sub U4; omega
  have HT5 : k + (totR (bdR5 v Vw Vn dss b) : Int) ≤ 16777216 := by have := totR_sub U5; omega
  have HT6 : k + (totR (bdR6 v Vw Vn dss b) : Int) ≤ 16777216 := by have := totR_sub U6; omega
  have HT7 : k + (totR (bdR7 v Vw Vn Vr dss b) : Int) ≤ 16777216 := by have := totR_sub U7; omega
  have M7 := M
  obtain ⟨M6, n7⟩ : mkR w k (bdR6 v Vw Vn dss b) ∧ mkR w (k + (totR (bdR6 v Vw Vn dss b) : Int)) (rowsV 1 Vr (fun i => (b.rws.getD i []).length) b.rws.length) := (mkR_append w _ _ k).1 M7
  obtain ⟨M5, n6⟩ : mkR w k (bdR5 v Vw Vn dss b) ∧ mkR w (k + (totR (bdR5 v Vw Vn dss b) : Int)) ([(v.F, b.fr.length)]) := (mkR_append w _ _ k).1 M6
  obtain ⟨M4, n5⟩ : mkR w k (bdR4 v Vw Vn dss b) ∧ mkR w (k + (totR (bdR4 v Vw Vn dss b) : Int)) ([(v.S, b.sn.length)]) := (mkR_append w _ _ k).1 M5
  obtain ⟨M3, n4⟩ : mkR w k (bdR3 v Vw Vn dss b) ∧ mkR w (k + (totR (bdR3 v Vw Vn dss b) : Int)) ([(v.X, b.nxt.length)]) := (mkR_append w _ _ k).1 M4
  obtain ⟨M2, n3⟩ : mkR w k (bdR2 v Vw dss b) ∧ mkR w (k + (totR (bdR2 v Vw dss b) : Int)) (rowsV 3 Vn (fun i => (b.nts.getD i []).length) b.nts.length) := (mkR_append w _ _ k).1 M3
  obtain ⟨M1, n2⟩ : mkR w k (bdR1 v Vw dss b) ∧ mkR w (k + (totR (bdR1 v Vw dss b) : Int)) ([(v.L, b.lst.length)]) := (mkR_append w _ _ k).1 M2
  obtain ⟨M0, n1⟩ : mkR w k (bdR0 Vw dss) ∧ mkR w (k + (totR (bdR0 Vw dss) : Int)) ([(v.P, b.plc.length)]) := (mkR_append w _ _ k).1 M1
  have C0 : ∀ wi : World, Keep w wi → Calls Try.prog 60 #[v.W, .int .i64 k] wi fun e w' => e = .returned (.int .i64 (k + (totR (bdR0 Vw dss) : Int))) ∧ Keep wi w' := by
    intro wi g
    refine (heldDD_rows wi v.W Vw _ _ k (H.hW.keep g).plain H.sW (fun x hx => Nat.lt_of_lt_of_le (hw x (rowsS_sub U0 hx)) g.size) (mkR_kept (g.wrt (fun _ => False)) _ _ M0 (fun _ _ h => h) (fun x hx => hw x (rowsS_sub U0 hx))) hsz.w1 hsz.w2 (by omega) (by exact HT0)).mono ?_
    rintro e w' ⟨rfl, k1⟩
    exact ⟨rfl, k1⟩
  have C1 : ∀ wi : World, Keep w wi → Calls Try.prog 28 #[v.P, .int .i64 (k + (totR (bdR0 Vw dss) : Int))] wi fun e w' => e = .returned (.int .i64 (k + (totR (bdR1 v Vw dss b) : Int))) ∧ Keep wi w' := by
    intro wi g
    obtain ⟨a, c, e, hs⟩ := H.sP
    have E1 : ∀ x, rowS (.slice a b.plc.length c) b.plc.length x → x.block < w.heap.size := fun x hx => hw x (rowsS_sub U1 (rowsS_append.2 (.inr ⟨_, List.mem_singleton.2 rfl, by rw [e]; exact hx⟩)))
    have hk : k + (totR (bdR0 Vw dss) : Int) + (b.plc.length : Int) ≤ 16777216 := by have := HT1; rw [bdR1, totR_append] at this; simp only [totR] at this; omega
    have q := n1.1
    simp only [e] at q
    have C := heldI_row wi a b.plc.length c (k + (totR (bdR0 Vw dss) : Int)) hs (fun x hx => Nat.lt_of_lt_of_le (E1 x hx) g.size) (q.keep g E1) hsz.plc (by omega) (by omega)
    rw [← e] at C
    refine C.mono ?_
    rintro e w' ⟨rfl, k1⟩
    exact ⟨by rw [bdR1, totR_append]; simp only [totR]; rw [Int.natCast_add, Int.add_assoc]; rfl, k1⟩
  have C2 : ∀ wi : World, Keep w wi → Calls Try.prog 28 #[v.L, .int .i64 (k + (totR (bdR1 v Vw dss b) : Int))] wi fun e w' => e = .returned (.int .i64 (k + (totR (bdR2 v Vw dss b) : Int))) ∧ Keep wi w' := by
    intro wi g
    obtain ⟨a, c, e, hs⟩ := H.sL
    have E1 : ∀ x, rowS (.slice a b.lst.length c) b.lst.length x → x.block < w.heap.size := fun x hx => hw x (rowsS_sub U2 (rowsS_append.2 (.inr ⟨_, List.mem_singleton.2 rfl, by rw [e]; exact hx⟩)))
    have hk : k + (totR (bdR1 v Vw dss b) : Int) + (b.lst.length : Int) ≤ 16777216 := by have := HT2; rw [bdR2, totR_append] at this; simp only [totR] at this; omega
    have q := n2.1
    simp only [e] at q
    have C := heldI_row wi a b.lst.length c (k + (totR (bdR1 v Vw dss b) : Int)) hs (fun x hx => Nat.lt_of_lt_of_le (E1 x hx) g.size) (q.keep g E1) hsz.lst (by omega) (by omega)
    rw [← e] at C
    refine C.mono ?_
    rintro e w' ⟨rfl, k1⟩
    exact ⟨by rw [bdR2, totR_append]; simp only [totR]; rw [Int.natCast_add, Int.add_assoc]; rfl, k1⟩
  have C3 : ∀ wi : World, Keep w wi → Calls Try.prog 61 #[v.N, .int .i64 (k + (totR (bdR2 v Vw dss b) : Int))] wi fun e w' => e = .returned (.int .i64 (k + (totR (bdR3 v Vw Vn dss b) : Int))) ∧ Keep wi w' := by
    intro wi g
    refine (heldNN_rows wi v.N Vn _ _ (k + (totR (bdR2 v Vw dss b) : Int)) (H.hN.keep g).plain H.sN (fun x hx => Nat.lt_of_lt_of_le (hw x (rowsS_sub U3 (rowsS_append.2 (.inr hx)))) g.size) (mkR_kept (g.wrt (fun _ => False)) _ _ n3 (fun _ _ h => h) (fun x hx => hw x (rowsS_sub U3 (rowsS_append.2 (.inr hx))))) hsz.n1 hsz.n2 (by omega) (by have := HT3; rw [bdR3, totR_append] at this; omega)).mono ?_
    rintro e w' ⟨rfl, k1⟩
    exact ⟨by rw [bdR3, totR_append, Int.natCast_add, Int.add_assoc], k1⟩
  have C4 : ∀ wi : World, Keep w wi → Calls Try.prog 28 #[v.X, .int .i64 (k + (totR (bdR3 v Vw Vn dss b) : Int))] wi fun e w' => e = .returned (.int .i64 (k + (totR (bdR4 v Vw Vn dss b) : Int))) ∧ Keep wi w' := by
    intro wi g
    obtain ⟨a, c, e, hs⟩ := H.sX
    have E1 : ∀ x, rowS (.slice a b.nxt.length c) b.nxt.length x → x.block < w.heap.size := fun x hx => hw x (rowsS_sub U4 (rowsS_append.2 (.inr ⟨_, List.mem_singleton.2 rfl, by rw [e]; exact hx⟩)))
    have hk : k + (totR (bdR3 v Vw Vn dss b) : Int) + (b.nxt.length : Int) ≤ 16777216 := by have := HT4; rw [bdR4, totR_append] at this; simp only [totR] at this; omega
    have q := n4.1
    simp only [e] at q
    have C := heldI_row wi a b.nxt.length c (k + (totR (bdR3 v Vw Vn dss b) : Int)) hs (fun x hx => Nat.lt_of_lt_of_le (E1 x hx) g.size) (q.keep g E1) hsz.nxt (by omega) (by omega)
    rw [← e] at C
    refine C.mono ?_
    rintro e w' ⟨rfl, k1⟩
    exact ⟨by rw [bdR4, totR_append]; simp only [totR]; rw [Int.natCast_add, Int.add_assoc]; rfl, k1⟩
  have C5 : ∀ wi : World, Keep w wi → Calls Try.prog 28 #[v.S, .int .i64 (k + (totR (bdR4 v Vw Vn dss b) : Int))] wi fun e w' => e = .returned (.int .i64 (k + (totR (bdR5 v Vw Vn dss b) : Int))) ∧ Keep wi w' := by
    intro wi g
    obtain ⟨a, c, e, hs⟩ := H.sS
    have E1 : ∀ x, rowS (.slice a b.sn.length c) b.sn.length x → x.block < w.heap.size := fun x hx => hw x (rowsS_sub U5 (rowsS_append.2 (.inr ⟨_, List.mem_singleton.2 rfl, by rw [e]; exact hx⟩)))
    have hk : k + (totR (bdR4 v Vw Vn dss b) : Int) + (b.sn.length : Int) ≤ 16777216 := by have := HT5; rw [bdR5, totR_append] at this; simp only [totR] at this; omega
    have q := n5.1
    simp only [e] at q
    have C := heldI_row wi a b.sn.length c (k + (totR (bdR4 v Vw Vn dss b) : Int)) hs (fun x hx => Nat.lt_of_lt_of_le (E1 x hx) g.size) (q.keep g E1) hsz.sn (by omega) (by omega)
    rw [← e] at C
    refine C.mono ?_
    rintro e w' ⟨rfl, k1⟩
    exact ⟨by rw [bdR5, totR_append]; simp only [totR]; rw [Int.natCast_add, Int.add_assoc]; rfl, k1⟩
  have C6 : ∀ wi : World, Keep w wi → Calls Try.prog 28 #[v.F, .int .i64 (k + (totR (bdR5 v Vw Vn dss b) : Int))] wi fun e w' => e = .returned (.int .i64 (k + (totR (bdR6 v Vw Vn dss b) : Int))) ∧ Keep wi w' := by
    intro wi g
    obtain ⟨a, c, e, hs⟩ := H.sF
    have E1 : ∀ x, rowS (.slice a b.fr.length c) b.fr.length x → x.block < w.heap.size := fun x hx => hw x (rowsS_sub U6 (rowsS_append.2 (.inr ⟨_, List.mem_singleton.2 rfl, by rw [e]; exact hx⟩)))
    have hk : k + (totR (bdR5 v Vw Vn dss b) : Int) + (b.fr.length : Int) ≤ 16777216 := by have := HT6; rw [bdR6, totR_append] at this; simp only [totR] at this; omega
    have q := n6.1
    simp only [e] at q
    have C := heldI_row wi a b.fr.length c (k + (totR (bdR5 v Vw Vn dss b) : Int)) hs (fun x hx => Nat.lt_of_lt_of_le (E1 x hx) g.size) (q.keep g E1) hsz.fr (by omega) (by omega)
    rw [← e] at C
    refine C.mono ?_
    rintro e w' ⟨rfl, k1⟩
    exact ⟨by rw [bdR6, totR_append]; simp only [totR]; rw [Int.natCast_add, Int.add_assoc]; rfl, k1⟩
  have C7 : ∀ wi : World, Keep w wi → Calls Try.prog 62 #[v.R, .int .i64 (k + (totR (bdR6 v Vw Vn dss b) : Int))] wi fun e w' => e = .returned (.int .i64 (k + (totR (bdR7 v Vw Vn Vr dss b) : Int))) ∧ Keep wi w' := by
    intro wi g
    refine (heldII_rows wi v.R Vr _ _ (k + (totR (bdR6 v Vw Vn dss b) : Int)) (H.hR.keep g).plain H.sR (fun x hx => Nat.lt_of_lt_of_le (hw x (rowsS_sub U7 (rowsS_append.2 (.inr hx)))) g.size) (mkR_kept (g.wrt (fun _ => False)) _ _ n7 (fun _ _ h => h) (fun x hx => hw x (rowsS_sub U7 (rowsS_append.2 (.inr hx))))) hsz.r1 hsz.r2 (by omega) (by have := HT7; rw [bdR7, totR_append] at this; omega)).mono ?_
    rintro e w' ⟨rfl, k1⟩
    exact ⟨by rw [bdR7, totR_append, Int.natCast_add, Int.add_assoc], k1⟩
  have k0 : Keep w (w.alloc (.cells v.arr 29)) := (Keep.refl w).alloc _
  have BX : Hid (∀ w1 : World, Keep (w.alloc (.cells v.arr 29)) w1 → ∀ i, w1.cell? ⟨w.heap.size, i, none⟩ = v.arr[i]?) := Lib.hid (fun w1 g i => box_cell g i)
  obtain ⟨aW, cW, eW, -⟩ := id H.hW
  obtain ⟨aP, cP, eP, -⟩ := id H.sP
  obtain ⟨aL, cL, eL, -⟩ := id H.sL
  obtain ⟨aN, cN, eN, -⟩ := id H.hN
  obtain ⟨aX, cX, eX, -⟩ := id H.sX
  obtain ⟨aS, cS, eS, -⟩ := id H.sS
  obtain ⟨aF, cF, eF, -⟩ := id H.sF
  obtain ⟨aR, cR, eR, -⟩ := id H.hR
  have D0 := Lib.hid C0
  have D1 := Lib.hid C1
  have D2 := Lib.hid C2
  have D3 := Lib.hid C3
  have D4 := Lib.hid C4
  have D5 := Lib.hid C5
  have D6 := Lib.hid C6
  have D7 := Lib.hid C7
  clear C0 C1 C2 C3 C4 C5 C6 C7 H M hw hsz h1 n1 n2 n3 n4 n5 n6 n7 M0 U0 M1 U1 M2 U2 M3 U3 M4 U4 M5 U5 M6 U6 M7 U7
  have nn0 : ¬ (k + (totR (bdR0 Vw dss) : Int) < 0) := by omega
  have nn1 : ¬ (k + (totR (bdR1 v Vw dss b) : Int) < 0) := by omega
  have nn2 : ¬ (k + (totR (bdR2 v Vw dss b) : Int) < 0) := by omega
  have nn3 : ¬ (k + (totR (bdR3 v Vw Vn dss b) : Int) < 0) := by omega
  have nn4 : ¬ (k + (totR (bdR4 v Vw Vn dss b) : Int) < 0) := by omega
  have nn5 : ¬ (k + (totR (bdR5 v Vw Vn dss b) : Int) < 0) := by omega
  have nn6 : ¬ (k + (totR (bdR6 v Vw Vn dss b) : Int) < 0) := by omega
  have nn7 : ¬ (k + (totR (bdR7 v Vw Vn Vr dss b) : Int) < 0) := by omega
  generalize hP0 : bdR0 Vw dss = P0 at *
  generalize hP1 : bdR1 v Vw dss b = P1 at *
  generalize hP2 : bdR2 v Vw dss b = P2 at *
  generalize hP3 : bdR3 v Vw Vn dss b = P3 at *
  generalize hP4 : bdR4 v Vw Vn dss b = P4 at *
  generalize hP5 : bdR5 v Vw Vn dss b = P5 at *
  generalize hP6 : bdR6 v Vw Vn dss b = P6 at *
  generalize hP7 : bdR7 v Vw Vn Vr dss b = P7 at *
  clear hP0 hP1 hP2 hP3 hP4 hP5 hP6 hP7
  obtain ⟨W, P, L, N, X, S, F, R⟩ := v
  simp only at eW eP eL eN eX eS eF eR
  subst eW eP eL eN eX eS eF eR
  go_enter Try.func21, Try.ntmps21
  have x0 := BX.out _ (Keep.refl _) 0
  have K0 := k0
  have B0 := Keep.refl (w.alloc (.cells (BV.arr ⟨.slice aW dss.length cW, .slice aP b.plc.length cP, .slice aL b.lst.length cL, .slice aN b.nts.length cN, .slice aX b.nxt.length cX, .slice aS b.sn.length cS, .slice aF b.fr.length cF, .slice aR b.rws.length cR⟩) 29))
  simp at x0
  go_wp2_with fail
  refine (D0.out _ K0).mono ?_
  rintro e w1 ⟨rfl, k1⟩
  have K1 := K0.trans k1
  have B1 := B0.trans k1
  clear x0 D0 K0 B0 k1
  have x1 := BX.out _ B1 1
  simp at x1
  go_wp2_with fail
  refine (D1.out _ K1).mono ?_
  rintro e w2 ⟨rfl, k2⟩
  have K2 := K1.trans k2
  have B2 := B1.trans k2
  clear x1 D1 K1 B1 k2
  have x2 := BX.out _ B2 2
  simp at x2
  go_wp2_with fail
  refine (D2.out _ K2).mono ?_
  rintro e w3 ⟨rfl, k3⟩
  have K3 := K2.trans k3
  have B3 := B2.trans k3
  clear x2 D2 K2 B2 k3
  have x3 := BX.out _ B3 3
  simp at x3
  go_wp2_with fail
  refine (D3.out _ K3).mono ?_
  rintro e w4 ⟨rfl, k4⟩
  have K4 := K3.trans k4
  have B4 := B3.trans k4
  clear x3 D3 K3 B3 k4
  have x4 := BX.out _ B4 4
  simp at x4
  go_wp2_with fail
  refine (D4.out _ K4).mono ?_
  rintro e w5 ⟨rfl, k5⟩
  have K5 := K4.trans k5
  have B5 := B4.trans k5
  clear x4 D4 K4 B4 k5
  have x5 := BX.out _ B5 5
  simp at x5
  go_wp2_with fail
  refine (D5.out _ K5).mono ?_
  rintro e w6 ⟨rfl, k6⟩
  have K6 := K5.trans k6
  have B6 := B5.trans k6
  clear x5 D5 K5 B5 k6
  have x6 := BX.out _ B6 6
  simp at x6
  go_wp2_with fail
  refine (D6.out _ K6).mono ?_
  rintro e w7 ⟨rfl, k7⟩
  have K7 := K6.trans k7
  have B7 := B6.trans k7
  clear x6 D6 K6 B6 k7
  have x7 := BX.out _ B7 7
  simp at x7
  go_wp2_with fail
  refine (D7.out _ K7).mono ?_
  rintro e w8 ⟨rfl, k8⟩
  have K8 := K7.trans k8
  have B8 := B7.trans k8
  clear x7 D7 K7 B7 k8
  go_wp2
  go_ret
  exact ⟨rfl, K8⟩
theorem heldB_any (w : World) (v : BV) (dss : List (List Dd)) (b : Bd) (n : Nat) (h : Marked w v dss b n) (hz : SzBd dss b) (hs : SumBd dss b) :
    Calls Try.prog 21 #[v.agg, .int .i64 1] w fun e w' => e = .returned (.int .i64 (1 + (n : Int))) ∧ Keep w w' := by
  obtain ⟨Vw, Vn, Vr, h1, rfl, h3, h4⟩ := h
  have ht := tot_board hz hs v Vw Vn Vr
  exact heldBoard_any w v Vw Vn Vr dss b 1 h1 h3 h4 hz (by omega) (by omega)
theorem markD_any (w : World) (base : Nat) (v : Value) (k : Int) (ds : List Dd) (h : OwnD w base v ds) (hn : ds.length ≤ 1048576) (h0 : 1 ≤ k) (h1 : k ≤ 8388608) :
    Calls Try.prog 57 #[v, .int .i64 k] w fun e w' => e = .returned (.int .i64 (k + 4 * ds.length)) ∧ OwnD w' base v (mksD k ds.length) ∧ w.grownBy w' (ownO v ds) := by
  obtain ⟨a, cap, rfl, h⟩ := h
  by_cases hne : ds = []
  · subst hne
    clear h
    go_enter Try.func57, Try.ntmps57
    go_wp2
    refine wp_loop_rounds 1 ?_
    rw [rounds_succ]
    go_wp2
    go_ret
    exact ⟨by simp, ⟨a, cap, rfl, .inl rfl⟩, World.grownBy.refl _ _⟩
  · rcases h with h | ⟨g, rfl, hb, hB, hA⟩
    · exact absurd h hne
    clear hA
    go_enter Try.func57, Try.ntmps57
    go_wp2
    go_loopw [1, 5] (fun q i wr => ∃ j : Nat, j ≤ ds.length ∧ i = .int .i64 j ∧ q = .int .i64 (k + 4 * j) ∧ Blk wr g (ds.length * 4) ∧ (∀ i, i < j → AtD wr g (i * 4) (mkD k i)) ∧ w.grownBy wr (some g)) (fun _ i _ => ds.length - (intOf i).toNat)
    case atStart => exact ⟨0, Nat.zero_le _, rfl, by simp, hB, by omega, World.grownBy.refl _ _⟩
    case round =>
      obtain ⟨j, hj, rfl, rfl, hR, hA, hg⟩ := hrel
      clear hB
      by_cases hlt : j < ds.length
      · obtain ⟨u0, c0⟩ := hR.cell (i := j * 4) (by omega)
        obtain ⟨u1, c1⟩ := hR.cell (i := j * 4 + 1) (by omega)
        obtain ⟨u2, c2⟩ := hR.cell (i := j * 4 + 2) (by omega)
        obtain ⟨u3, c3⟩ := hR.cell (i := j * 4 + 3) (by omega)
        have f0 := hR.free (j * 4)
        have f1 := hR.free (j * 4 + 1)
        have f2 := hR.free (j * 4 + 2)
        have f3 := hR.free (j * 4 + 3)
        have i1 : (0 : Int) ≤ (j : Int) := Int.natCast_nonneg _
        have i2 : (j : Int) < (ds.length : Int) := by omega
        have HA : ∀ i, i < j + 1 → AtD ((((wr.setCell ⟨g, j * 4, none⟩ (.int .i64 (mkD k j).1)).setCell ⟨g, j * 4 + 1, none⟩ (.int .i64 (mkD k j).2.1)).setCell ⟨g, j * 4 + 2, none⟩ (.int .i64 (mkD k j).2.2.1)).setCell ⟨g, j * 4 + 3, none⟩ (.int .i64 (mkD k j).2.2.2)) g (i * 4) (mkD k i) := by
          intro i hi
          by_cases e : i = j
          · subst e
            exact putD_same hR (by omega)
          · exact putD (hA i (by omega)) (.inr (by omega))
        clear hA
        go_wp2
        go_roundw
        case rel => exact ⟨j + 1, by omega, by go_num, by go_num, (((hR.set _ _).set _ _).set _ _).set _ _, HA, grown_trans (grown_trans (grown_trans (grown_trans hg (grown_put _ _ _ _)) (grown_put _ _ _ _)) (grown_put _ _ _ _)) (grown_put _ _ _ _)⟩
        case measure => simp [intOf]; omega
      · have : j = ds.length := by omega
        subst this
        have HO : ds ≠ [] → ownO (.slice (some ⟨g, 0, none⟩) ds.length (ds.length + cap)) ds = some g := fun h => by rw [ownO, if_neg h]; rfl
        go_wp2
        go_ret
        refine ⟨rfl, ⟨_, cap, by rw [mksD_len], .inr ⟨g, rfl, hb, by rw [mksD_len]; exact hR, ?_⟩⟩, by rw [HO hne]; exact hg⟩
        intro i hi
        rw [mksD_len] at hi
        rw [mksD_get _ _ _ hi]
        exact hA i hi
theorem markW_any (w wo : World) (base : Nat) (v : Value) (k : Int) (dss : List (List Dd)) (h : OwnW wo base v dss) (hsame : ∀ b, base ≤ b → b < wo.heap.size → w.heap[b]? = wo.heap[b]?)
    (hn : dss.length ≤ 1048576) (hs : lenW dss ≤ 1048576) (h0 : 1 ≤ k) (h1 : k ≤ 1048576) :
    Calls Try.prog 19 #[v, .int .i64 k] w fun e w' => e = .returned (.int .i64 (k + 4 * lenW dss)) ∧ OwnW w' base v (mksW k dss) ∧ Only base wo.heap.size w w' := by
  obtain ⟨a, cap, rfl, h⟩ := h
  by_cases hne : dss = []
  · subst hne
    clear h
    go_enter Try.func19, Try.ntmps19
    go_wp2
    refine wp_loop_rounds 1 ?_
    rw [rounds_succ]
    go_wp2
    go_ret
    exact ⟨by simp [lenW], ⟨a, cap, rfl, .inl rfl⟩, Only.refl _ _ _⟩
  · rcases h with h | ⟨g, V, rfl, hg, hB, hc, hA⟩
    · exact absurd h hne
    have gl := hB.lt
    have top : ∀ i, i < dss.length → ∀ b, ownO (V i) (dss.getD i []) = some b → base ≤ b ∧ b < wo.heap.size := by
      intro i hi b hb
      obtain ⟨a', cap', e, h⟩ := (hc i hi).2
      rw [ownO] at hb
      split at hb
      · cases hb
      · rename_i hd
        rcases h with h | ⟨g', rfl, hb', hB', _⟩
        · exact absurd h hd
        · rw [e] at hb
          simp only [Value.ownBlock, Option.some.injEq] at hb
          subst hb
          exact ⟨hb', hB'.lt⟩
    have eg := hsame g hg gl
    have start : Blk w g dss.length ∧ ∀ i, i < dss.length → w.cell? ⟨g, i, none⟩ = some (V i) ∧ OwnD w base (V i) (dss.getD i []) :=
      ⟨hB.same eg, fun i hi => ⟨(cell_same eg _).trans (hc i hi).1, (hc i hi).2.same (fun b _ hlt hbb => hsame b hbb hlt)⟩⟩
    clear hB hc eg
    go_enter Try.func19, Try.ntmps19
    go_wp2
    go_loopw [1, 5] (fun q i wr => ∃ j m : Nat, j ≤ dss.length ∧ i = .int .i64 j ∧ q = .int .i64 (k + 4 * m) ∧ Hid (m = lenW (dss.take j)) ∧ Blk wr g dss.length ∧
      (∀ i, i < dss.length → wr.cell? ⟨g, i, none⟩ = some (V i) ∧ OwnD wr base (V i) (if i < j then (mksW k dss).getD i [] else dss.getD i [])) ∧ Only base wo.heap.size w wr) (fun _ i _ => dss.length - (intOf i).toNat)
    case atStart => exact ⟨0, 0, Nat.zero_le _, rfl, by simp, Lib.hid (by simp [lenW]), start.1, fun i hi => by rw [if_neg (by omega)]; exact start.2 i hi, Only.refl _ _ _⟩
    case round =>
      obtain ⟨j, m, hj, rfl, rfl, hm, hR, hD, hO⟩ := hrel
      clear start
      by_cases hlt : j < dss.length
      · obtain ⟨c1, o1⟩ := hD j hlt
        rw [if_neg (by omega)] at o1
        have hlen := lenW_one dss j hlt
        have HM : Hid (m + (dss.getD j []).length = lenW (dss.take (j + 1))) := Lib.hid (by rw [take_moreM dss j [] hlt, lenW_snocM, hm.out])
        rw [← hm.out] at hlen
        have REST : ∀ wz : World, OwnD wz base (V j) (mksD (k + 4 * (m : Int)) (dss.getD j []).length) → wr.grownBy wz (ownO (V j) (dss.getD j [])) →
            Blk wz g dss.length ∧ (∀ i, i < dss.length → wz.cell? ⟨g, i, none⟩ = some (V i) ∧ OwnD wz base (V i) (if i < j + 1 then (mksW k dss).getD i [] else dss.getD i [])) ∧ Only base wo.heap.size w wz := by
          intro wz hz gz
          have hrow : ownO (V j) (dss.getD j []) ≠ some g := by
            rw [ownO]
            split
            · simp
            · rename_i hd
              exact hA.1 j hlt hd
          have eg : wz.heap[g]? = wr.heap[g]? := gz.block g hR.lt (fun e => hrow e.symm)
          refine ⟨hR.same eg, ?_, hO.grown gz (top j hlt)⟩
          intro i hi
          refine ⟨(cell_same eg _).trans (hD i hi).1, ?_⟩
          by_cases e : i = j
          · subst e
            rw [if_pos (by omega), mksW_get _ _ _ hlt, ← hm.out]
            exact hz
          · have hh := (hD i hi).2
            rw [show (if i < j + 1 then (mksW k dss).getD i [] else dss.getD i []) = (if i < j then (mksW k dss).getD i [] else dss.getD i []) by
              by_cases h' : i < j
              · rw [if_pos h', if_pos (by omega)]
              · rw [if_neg h', if_neg (by omega)]]
            refine hh.kept gz ?_
            by_cases hd : dss.getD i [] = []
            · left
              split
              · rw [mksW_get _ _ _ hi, hd]; rfl
              · exact hd
            · right
              rw [ownO]
              split
              · rename_i hdj
                obtain ⟨a', cap', e', h'⟩ := hh
                rcases h' with h' | ⟨g', rfl, _, _, _⟩
                · exfalso
                  split at h'
                  · rw [mksW_get _ _ _ hi, mksD_nil] at h'
                    exact hd (List.eq_nil_of_length_eq_zero h')
                  · exact hd h'
                · rw [e']; simp [Value.ownBlock]
              · rename_i hdj
                rcases Nat.lt_or_gt_of_ne e with hl | hl
                · exact hA.2 i j hl hlt hd hdj
                · exact fun e' => hA.2 j i hl hi hdj hd e'.symm
        clear hD hR hO hm
        generalize (dss.getD j []) = dj at o1 hlen HM REST
        have i1 : (0 : Int) ≤ (j : Int) := Int.natCast_nonneg _
        have i2 : (j : Int) < (dss.length : Int) := by omega
        go_wp2_with fail
        refine (markD_any _ _ _ _ _ o1 (by omega) (by omega) (by omega)).mono ?_
        rintro e wz ⟨rfl, hz, gz⟩
        obtain ⟨R1, R2, R3⟩ := REST wz hz gz
        clear REST hz gz o1 c1
        go_wp2
        go_roundw
        case rel => exact ⟨j + 1, m + dj.length, by omega, by go_num, by go_num, HM, R1, R2, R3⟩
        case measure => simp [intOf]; omega
      · have : j = dss.length := by omega
        subst this
        rw [List.take_length] at hm
        go_wp2
        go_ret
        refine ⟨by rw [← hm.out]; rfl, ⟨_, cap, by rw [mksW_len], .inr ⟨g, V, rfl, hg, by rw [mksW_len]; exact hR, ?_, ?_⟩⟩, hO⟩
        · intro i hi
          rw [mksW_len] at hi
          have := hD i hi
          rw [if_pos hi] at this
          exact this
        · rw [mksW_len]
          have nz : ∀ i, i < dss.length → (mksW k dss).getD i [] ≠ [] → dss.getD i [] ≠ [] := by
            intro i hi hd e
            rw [mksW_get _ _ _ hi, e] at hd
            exact hd rfl
          exact ⟨fun i hi hd => hA.1 i hi (nz i hi hd), fun i j hij hj hd he => hA.2 i j hij hj (nz i (by omega) hd) (nz j hj he)⟩
theorem OwnW.keep {w w' : World} {base : Nat} {v : Value} {dss : List (List Dd)} (h : OwnW w base v dss) (k : Keep w w') : OwnW w' base v dss := by
  obtain ⟨a, cap, rfl, h⟩ := h
  refine ⟨a, cap, rfl, ?_⟩
  rcases h with h | ⟨g, V, rfl, hg, hB, hc, hA⟩
  · exact .inl h
  · have e := Below.block k g hB.lt
    exact .inr ⟨g, V, rfl, hg, hB.same e, fun i hi => ⟨(cell_same e _).trans (hc i hi).1, (hc i hi).2.keep k⟩, hA⟩
end Go.Proofs.Ytgakfkjjkobpiaa
