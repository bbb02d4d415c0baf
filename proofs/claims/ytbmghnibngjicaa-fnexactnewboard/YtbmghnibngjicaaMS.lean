/- Gathered texts. -/
import Derived.Test.YtbmghnibngjicaaMP
import Derived.Test.YtbmghnibngjicaaMQ
set_option maxRecDepth 100000
set_option maxHeartbeats 8000000
namespace Go.Proofs.Ytbmghnibngjicaa
open Go.ChangeShapes Go.WideShapes Go.ChangeAt Go.RowKit
theorem markII_rows (w : World) (v : Value) (V : Nat → Value) (ln : Nat → Nat) (n : Nat) (k : Int) (hv : ∃ a c, v = .slice a n c ∧ (n = 0 ∨ ∃ b o, a = some ⟨b, o, none⟩ ∧ b < w.heap.size ∧ ∀ i, i < n → w.cell? ⟨b, o + i, none⟩ = some (V i) ∧ ¬ rowsS (rowsV 1 V ln n) ⟨b, o + i, none⟩))
    (hV : ∀ i, i < n → SlV (V i) (ln i)) (hL : Loose w (rowsV 1 V ln n)) (hn : n ≤ 1048576) (hl : ∀ i, i < n → ln i ≤ 1048576) (h0 : 1 ≤ k) (h1 : k + totR (rowsV 1 V ln n) ≤ 16777216) :
    Calls Try.prog 53 #[v, .int .i64 k] w fun e w' => e = .returned (.int .i64 (k + totR (rowsV 1 V ln n))) ∧ Wrt (rowsS (rowsV 1 V ln n)) w w' ∧ mkR w' k (rowsV 1 V ln n) := by
  obtain ⟨a, cap, rfl, hv⟩ := hv
  have HL := Lib.hid hL
  have HV := Lib.hid hV
  have HN := Lib.hid hl
  have HT : Hid (∀ j, j ≤ n → k + totR (rowsV 1 V ln j) ≤ 16777216) := Lib.hid (fun j hj => by have := rowsV_mono 1 V ln n j hj; omega)
  clear hL hV hl h1
  go_enter Try.func53, Try.ntmps53
  go_wp2
  go_loopw [1, 5] (fun q i wr => ∃ j m : Nat, j ≤ n ∧ i = .int .i64 j ∧ q = .int .i64 (k + (m : Int)) ∧ Hid (m = totR (rowsV 1 V ln j)) ∧ Wrt (rowsS (rowsV 1 V ln j)) w wr ∧ Hid (mkR wr k (rowsV 1 V ln j))) (fun _ i _ => n - (intOf i).toNat)
  case atStart => exact ⟨0, 0, Nat.zero_le _, rfl, by simp, Lib.hid rfl, Wrt.refl _ _, Lib.hid trivial⟩
  case round =>
    obtain ⟨j, m, hj, rfl, rfl, hm, hG, hM⟩ := hrel
    by_cases hlt : j < n
    · rcases hv with hv | ⟨b, o, rfl, hb, hc⟩
      · exfalso; omega
      obtain ⟨hc1, hc2⟩ := hc j hlt
      have hS : ∀ x, rowsS (rowsV 1 V ln j) x → rowsS (rowsV 1 V ln n) x := fun x ⟨r, hr, hx⟩ => ⟨r, (rowsV_sub 1 V ln n j hj).subset hr, hx⟩
      have d1 := (hG.cell _ hb (fun h => hc2 (hS _ h))).trans hc1
      have hLj := HL.out.sub (rowsV_sub 1 V ln n (j + 1) hlt)
      obtain ⟨a2, c2, eV, hs2⟩ := HV.out j hlt
      have hlj := HN.out j hlt
      have hk := HT.out j hj
      rw [← hm.out] at hk
      have HM2 : Hid (m + ln j = totR (rowsV 1 V ln (j + 1))) := Lib.hid (by rw [rowsV_tot, hm.out]; simp)
      have C := markI_row wr a2 (ln j) c2 (k + (m : Int)) hs2 (fun x hx => (hLj.wb x (by rw [rowsV]; exact rowsS_append.2 (.inr ⟨_, List.mem_singleton.2 rfl, by rw [eV]; simpa using hx⟩))).kept hG) hlj (by omega) (by omega)
      have NX : ∀ wz : World, Wrt (rowS (.slice a2 (ln j) c2) (ln j)) wr wz → Mkd wz (.slice a2 (ln j) c2) (ln j) (k + (m : Int)) → Wrt (rowsS (rowsV 1 V ln (j + 1))) w wz ∧ mkR wz k (rowsV 1 V ln (j + 1)) := by
        intro wz g1 g2
        rw [rowsV] at hLj ⊢
        refine mk_then hLj hG hM.out (g1.more (fun x hx => ⟨_, List.mem_singleton.2 rfl, by rw [eV]; simpa using hx⟩)) ⟨?_, trivial⟩
        rw [← hm.out]
        show Mkd wz (V j) (1 * ln j) _
        rw [eV]
        simpa using g2
      rw [show k + (m : Int) + (ln j : Int) = k + ((m + ln j : Nat) : Int) by omega] at C
      rw [eV] at d1
      clear hc hLj hS hG hM hm eV hc1 hc2
      have i1 : (0 : Int) ≤ (j : Int) := Int.natCast_nonneg _
      have i2 : (j : Int) < (n : Int) := by omega
      go_wp2_with fail
      refine C.mono ?_
      rintro e wz ⟨rfl, g1, g2⟩
      obtain ⟨G, M⟩ := NX wz g1 g2
      have HMM := Lib.hid M
      clear NX C g1 g2 d1 M
      go_wp2
      go_roundw
      case rel => exact ⟨j + 1, _, by omega, by go_num, rfl, HM2, G, HMM⟩
      case measure => simp [intOf]; omega
    · obtain rfl : j = n := by omega
      go_wp2
      go_ret
      exact ⟨by rw [hm.out]; rfl, hG, hM.out⟩
theorem markDD_rows (w : World) (v : Value) (V : Nat → Value) (ln : Nat → Nat) (n : Nat) (k : Int) (hv : ∃ a c, v = .slice a n c ∧ (n = 0 ∨ ∃ b o, a = some ⟨b, o, none⟩ ∧ b < w.heap.size ∧ ∀ i, i < n → w.cell? ⟨b, o + i, none⟩ = some (V i) ∧ ¬ rowsS (rowsV 4 V ln n) ⟨b, o + i, none⟩))
    (hV : ∀ i, i < n → SlV (V i) (ln i)) (hL : Loose w (rowsV 4 V ln n)) (hn : n ≤ 1048576) (hl : ∀ i, i < n → ln i ≤ 1048576) (h0 : 1 ≤ k) (h1 : k + totR (rowsV 4 V ln n) ≤ 16777216) :
    Calls Try.prog 18 #[v, .int .i64 k] w fun e w' => e = .returned (.int .i64 (k + totR (rowsV 4 V ln n))) ∧ Wrt (rowsS (rowsV 4 V ln n)) w w' ∧ mkR w' k (rowsV 4 V ln n) := by
  obtain ⟨a, cap, rfl, hv⟩ := hv
  have HL := Lib.hid hL
  have HV := Lib.hid hV
  have HN := Lib.hid hl
  have HT : Hid (∀ j, j ≤ n → k + totR (rowsV 4 V ln j) ≤ 16777216) := Lib.hid (fun j hj => by have := rowsV_mono 4 V ln n j hj; omega)
  clear hL hV hl h1
  go_enter Try.func18, Try.ntmps18
  go_wp2
  go_loopw [1, 5] (fun q i wr => ∃ j m : Nat, j ≤ n ∧ i = .int .i64 j ∧ q = .int .i64 (k + (m : Int)) ∧ Hid (m = totR (rowsV 4 V ln j)) ∧ Wrt (rowsS (rowsV 4 V ln j)) w wr ∧ Hid (mkR wr k (rowsV 4 V ln j))) (fun _ i _ => n - (intOf i).toNat)
  case atStart => exact ⟨0, 0, Nat.zero_le _, rfl, by simp, Lib.hid rfl, Wrt.refl _ _, Lib.hid trivial⟩
  case round =>
    obtain ⟨j, m, hj, rfl, rfl, hm, hG, hM⟩ := hrel
    by_cases hlt : j < n
    · rcases hv with hv | ⟨b, o, rfl, hb, hc⟩
      · exfalso; omega
      obtain ⟨hc1, hc2⟩ := hc j hlt
      have hS : ∀ x, rowsS (rowsV 4 V ln j) x → rowsS (rowsV 4 V ln n) x := fun x ⟨r, hr, hx⟩ => ⟨r, (rowsV_sub 4 V ln n j hj).subset hr, hx⟩
      have d1 := (hG.cell _ hb (fun h => hc2 (hS _ h))).trans hc1
      have hLj := HL.out.sub (rowsV_sub 4 V ln n (j + 1) hlt)
      obtain ⟨a2, c2, eV, hs2⟩ := HV.out j hlt
      have hlj := HN.out j hlt
      have hk := HT.out j hj
      rw [← hm.out] at hk
      have HM2 : Hid (m + 4 * ln j = totR (rowsV 4 V ln (j + 1))) := Lib.hid (by rw [rowsV_tot, hm.out])
      have C := markDd_row wr a2 (ln j) c2 (k + (m : Int)) hs2 (fun x hx => (hLj.wb x (by rw [rowsV]; exact rowsS_append.2 (.inr ⟨_, List.mem_singleton.2 rfl, by rw [eV]; exact hx⟩))).kept hG) hlj (by omega) (by omega)
      have NX : ∀ wz : World, Wrt (rowS (.slice a2 (ln j) c2) (4 * ln j)) wr wz → Mkd wz (.slice a2 (ln j) c2) (4 * ln j) (k + (m : Int)) → Wrt (rowsS (rowsV 4 V ln (j + 1))) w wz ∧ mkR wz k (rowsV 4 V ln (j + 1)) := by
        intro wz g1 g2
        rw [rowsV] at hLj ⊢
        refine mk_then hLj hG hM.out (g1.more (fun x hx => ⟨_, List.mem_singleton.2 rfl, by rw [eV]; exact hx⟩)) ⟨?_, trivial⟩
        rw [← hm.out]
        show Mkd wz (V j) (4 * ln j) _
        rw [eV]
        exact g2
      rw [show k + (m : Int) + 4 * (ln j : Int) = k + ((m + 4 * ln j : Nat) : Int) by omega] at C
      rw [eV] at d1
      clear hc hLj hS hG hM hm eV hc1 hc2
      have i1 : (0 : Int) ≤ (j : Int) := Int.natCast_nonneg _
      have i2 : (j : Int) < (n : Int) := by omega
      go_wp2_with fail
      refine C.mono ?_
      rintro e wz ⟨rfl, g1, g2⟩
      obtain ⟨G, M⟩ := NX wz g1 g2
      have HMM := Lib.hid M
      clear NX C g1 g2 d1 M
      go_wp2
      go_roundw
      case rel => exact ⟨j + 1, _, by omega, by go_num, rfl, HM2, G, HMM⟩
      case measure => simp [intOf]; omega
    · obtain rfl : j = n := by omega
      go_wp2
      go_ret
      exact ⟨by rw [hm.out]; rfl, hG, hM.out⟩
theorem markNN_rows (w : World) (v : Value) (V : Nat → Value) (ln : Nat → Nat) (n : Nat) (k : Int) (hv : ∃ a c, v = .slice a n c ∧ (n = 0 ∨ ∃ b o, a = some ⟨b, o, none⟩ ∧ b < w.heap.size ∧ ∀ i, i < n → w.cell? ⟨b, o + i, none⟩ = some (V i) ∧ ¬ rowsS (rowsV 3 V ln n) ⟨b, o + i, none⟩))
    (hV : ∀ i, i < n → SlV (V i) (ln i)) (hL : Loose w (rowsV 3 V ln n)) (hn : n ≤ 1048576) (hl : ∀ i, i < n → ln i ≤ 1048576) (h0 : 1 ≤ k) (h1 : k + totR (rowsV 3 V ln n) ≤ 16777216) :
    Calls Try.prog 52 #[v, .int .i64 k] w fun e w' => e = .returned (.int .i64 (k + totR (rowsV 3 V ln n))) ∧ Wrt (rowsS (rowsV 3 V ln n)) w w' ∧ mkR w' k (rowsV 3 V ln n) := by
  obtain ⟨a, cap, rfl, hv⟩ := hv
  have HL := Lib.hid hL
  have HV := Lib.hid hV
  have HN := Lib.hid hl
  have HT : Hid (∀ j, j ≤ n → k + totR (rowsV 3 V ln j) ≤ 16777216) := Lib.hid (fun j hj => by have := rowsV_mono 3 V ln n j hj; omega)
  clear hL hV hl h1
  go_enter Try.func52, Try.ntmps52
  go_wp2
  go_loopw [1, 5] (fun q i wr => ∃ j m : Nat, j ≤ n ∧ i = .int .i64 j ∧ q = .int .i64 (k + (m : Int)) ∧ Hid (m = totR (rowsV 3 V ln j)) ∧ Wrt (rowsS (rowsV 3 V ln j)) w wr ∧ Hid (mkR wr k (rowsV 3 V ln j))) (fun _ i _ => n - (intOf i).toNat)
  case atStart => exact ⟨0, 0, Nat.zero_le _, rfl, by simp, Lib.hid rfl, Wrt.refl _ _, Lib.hid trivial⟩
  case round =>
    obtain ⟨j, m, hj, rfl, rfl, hm, hG, hM⟩ := hrel
    by_cases hlt : j < n
    · rcases hv with hv | ⟨b, o, rfl, hb, hc⟩
      · exfalso; omega
      obtain ⟨hc1, hc2⟩ := hc j hlt
      have hS : ∀ x, rowsS (rowsV 3 V ln j) x → rowsS (rowsV 3 V ln n) x := fun x ⟨r, hr, hx⟩ => ⟨r, (rowsV_sub 3 V ln n j hj).subset hr, hx⟩
      have d1 := (hG.cell _ hb (fun h => hc2 (hS _ h))).trans hc1
      have hLj := HL.out.sub (rowsV_sub 3 V ln n (j + 1) hlt)
      obtain ⟨a2, c2, eV, hs2⟩ := HV.out j hlt
      have hlj := HN.out j hlt
      have hk := HT.out j hj
      rw [← hm.out] at hk
      have HM2 : Hid (m + 3 * ln j = totR (rowsV 3 V ln (j + 1))) := Lib.hid (by rw [rowsV_tot, hm.out])
      have C := markN_row wr a2 (ln j) c2 (k + (m : Int)) hs2 (fun x hx => (hLj.wb x (by rw [rowsV]; exact rowsS_append.2 (.inr ⟨_, List.mem_singleton.2 rfl, by rw [eV]; exact hx⟩))).kept hG) hlj (by omega) (by omega)
      have NX : ∀ wz : World, Wrt (rowS (.slice a2 (ln j) c2) (3 * ln j)) wr wz → Mkd wz (.slice a2 (ln j) c2) (3 * ln j) (k + (m : Int)) → Wrt (rowsS (rowsV 3 V ln (j + 1))) w wz ∧ mkR wz k (rowsV 3 V ln (j + 1)) := by
        intro wz g1 g2
        rw [rowsV] at hLj ⊢
        refine mk_then hLj hG hM.out (g1.more (fun x hx => ⟨_, List.mem_singleton.2 rfl, by rw [eV]; exact hx⟩)) ⟨?_, trivial⟩
        rw [← hm.out]
        show Mkd wz (V j) (3 * ln j) _
        rw [eV]
        exact g2
      rw [show k + (m : Int) + 3 * (ln j : Int) = k + ((m + 3 * ln j : Nat) : Int) by omega] at C
      rw [eV] at d1
      clear hc hLj hS hG hM hm eV hc1 hc2
      have i1 : (0 : Int) ≤ (j : Int) := Int.natCast_nonneg _
      have i2 : (j : Int) < (n : Int) := by omega
      go_wp2_with fail
      refine C.mono ?_
      rintro e wz ⟨rfl, g1, g2⟩
      obtain ⟨G, M⟩ := NX wz g1 g2
      have HMM := Lib.hid M
      clear NX C g1 g2 d1 M
      go_wp2
      go_roundw
      case rel => exact ⟨j + 1, _, by omega, by go_num, rfl, HM2, G, HMM⟩
      case measure => simp [intOf]; omega
    · obtain rfl : j = n := by omega
      go_wp2
      go_ret
      exact ⟨by rw [hm.out]; rfl, hG, hM.out⟩
theorem markBoard_any (w : World) (v : BV) (Vw Vn Vr : Nat → Value) (dss : List (List Dd)) (b : Bd) (k : Int) (H : HdBd w v Vw Vn Vr dss b) (L : Loose w (bdR7 v Vw Vn Vr dss b)) (hsz : SzBd dss b) (h0 : 1 ≤ k) (h1 : k + totR (bdR7 v Vw Vn Vr dss b) ≤ 16777216) :
    Calls Try.prog 19 #[v.agg, .int .i64 k] w fun e w' => e = .returned (.int .i64 (k + totR (bdR7 v Vw Vn Vr dss b))) ∧ Wrt (rowsS (bdR7 v Vw Vn Vr dss b)) w w' ∧ mkR w' k (bdR7 v Vw Vn Vr dss b) := by
  have U0 : (bdR0 Vw dss).Sublist (bdR7 v Vw Vn Vr dss b) := bd_sub0
  have U1 : (bdR1 v Vw dss b).Sublist (bdR7 v Vw Vn Vr dss b) := bd_sub1
  have U2 : (bdR2 v Vw dss b).Sublist (bdR7 v Vw Vn Vr dss b) := bd_sub2
  have U3 : (bdR3 v Vw Vn dss b).Sublist (bdR7 v Vw Vn Vr dss b) := bd_sub3
  have U4 : (bdR4 v Vw Vn dss b).Sublist (bdR7 v Vw Vn Vr dss b) := bd_sub4
  have U5 : (bdR5 v Vw Vn dss b).Sublist (bdR7 v Vw Vn Vr dss b) := bd_sub5
  have U6 : (bdR6 v Vw Vn dss b).Sublist (bdR7 v Vw Vn Vr dss b) := bd_sub6
  have U7 : (bdR7 v Vw Vn Vr dss b).Sublist (bdR7 v Vw Vn Vr dss b) := bd_sub7
  have HT0 : k + (totR (bdR0 Vw dss) : Int) ≤ 16777216 := by have := totR_sub U0; omega
  have HT1 : k + (totR (bdR1 v Vw dss b) : Int) ≤ 16777216 := by have := totR_sub U1; omega
  have HT2 : k + (totR (bdR2 v Vw dss b) : Int) ≤ 16777216 := by have := totR_sub U2; omega
  have HT3 : k + (totR (bdR3 v Vw Vn dss b) : Int) ≤ 16777216 := by have := totR_sub U3; omega
  have HT4 : k + (totR (bdR4 v Vw Vn dss b) : Int) ≤ 16777216 := by have := totR_sub U4; omega
  have HT5 : k + (totR (bdR5 v Vw Vn dss b) : Int) ≤ 16777216 := by have := totR_sub U5; omega
  have HT6 : k + (totR (bdR6 v Vw Vn dss b) : Int) ≤ 16777216 := by have := totR_sub U6; omega
  have HT7 : k + (totR (bdR7 v Vw Vn Vr dss b) : Int) ≤ 16777216 := by have := totR_sub U7; omega
  have LW := fun x hx => (L.wb x hx).lt
  have C0 : ∀ w0 wi : World, HdBd w0 v Vw Vn Vr dss b → Loose w0 (bdR7 v Vw Vn Vr dss b) → Wrt (fun _ => False) w0 wi → Calls Try.prog 18 #[v.W, .int .i64 k] wi fun e w' => e = .returned (.int .i64 (k + (totR (bdR0 Vw dss) : Int))) ∧ Wrt (rowsS (bdR0 Vw dss)) w0 w' ∧ mkR w' k (bdR0 Vw dss) := by
    intro w0 wi H0 L0 g
    refine (markDD_rows wi v.W Vw _ _ k ((H0.hW.kept g (fun x hx => absurd hx (fun h => h))).less (fun x hx => rowsS_sub U0 (hx))) H0.sW ((L0.sub (U0)).kept g) hsz.w1 hsz.w2 (by omega) (by exact HT0)).mono ?_
    rintro e w' ⟨rfl, g2, m2⟩
    exact ⟨rfl, (g.more (fun x hx => absurd hx (fun h => h))).trans g2, m2⟩
  have C1 : ∀ w0 wi : World, HdBd w0 v Vw Vn Vr dss b → Loose w0 (bdR7 v Vw Vn Vr dss b) → Wrt (rowsS (bdR0 Vw dss)) w0 wi → mkR wi k (bdR0 Vw dss) → Calls Try.prog 28 #[v.P, .int .i64 (k + (totR (bdR0 Vw dss) : Int))] wi fun e w' => e = .returned (.int .i64 (k + (totR (bdR1 v Vw dss b) : Int))) ∧ Wrt (rowsS (bdR1 v Vw dss b)) w0 w' ∧ mkR w' k (bdR1 v Vw dss b) := by
    intro w0 wi H0 L0 g mm
    obtain ⟨a, c, e, hs⟩ := H0.sP
    have E1 : ∀ x, rowS (.slice a b.plc.length c) b.plc.length x → rowsS [(v.P, b.plc.length)] x := fun x hx => ⟨_, List.mem_singleton.2 rfl, by rw [e]; exact hx⟩
    have hk : k + (totR (bdR0 Vw dss) : Int) + (b.plc.length : Int) ≤ 16777216 := by have := HT1; rw [bdR1, totR_append] at this; simp only [totR] at this; omega
    have C := markI_row wi a b.plc.length c (k + (totR (bdR0 Vw dss) : Int)) hs (fun x hx => (L0.wb x (rowsS_sub U1 (rowsS_append.2 (.inr (E1 x hx))))).kept g) hsz.plc (by omega) (by omega)
    rw [← e] at C
    refine C.mono ?_
    rintro e w' ⟨rfl, g2, m2⟩
    have T := mk_then (b := [(v.P, b.plc.length)]) (L0.sub U1) g mm (g2.more (fun x hx => ⟨_, List.mem_singleton.2 rfl, hx⟩)) ⟨m2, trivial⟩
    exact ⟨by rw [bdR1, totR_append]; simp only [totR]; rw [Int.natCast_add, Int.add_assoc]; rfl, T.1, T.2⟩
  have C2 : ∀ w0 wi : World, HdBd w0 v Vw Vn Vr dss b → Loose w0 (bdR7 v Vw Vn Vr dss b) → Wrt (rowsS (bdR1 v Vw dss b)) w0 wi → mkR wi k (bdR1 v Vw dss b) → Calls Try.prog 28 #[v.L, .int .i64 (k + (totR (bdR1 v Vw dss b) : Int))] wi fun e w' => e = .returned (.int .i64 (k + (totR (bdR2 v Vw dss b) : Int))) ∧ Wrt (rowsS (bdR2 v Vw dss b)) w0 w' ∧ mkR w' k (bdR2 v Vw dss b) := by
    intro w0 wi H0 L0 g mm
    obtain ⟨a, c, e, hs⟩ := H0.sL
    have E1 : ∀ x, rowS (.slice a b.lst.length c) b.lst.length x → rowsS [(v.L, b.lst.length)] x := fun x hx => ⟨_, List.mem_singleton.2 rfl, by rw [e]; exact hx⟩
    have hk : k + (totR (bdR1 v Vw dss b) : Int) + (b.lst.length : Int) ≤ 16777216 := by have := HT2; rw [bdR2, totR_append] at this; simp only [totR] at this; omega
    have C := markI_row wi a b.lst.length c (k + (totR (bdR1 v Vw dss b) : Int)) hs (fun x hx => (L0.wb x (rowsS_sub U2 (rowsS_append.2 (.inr (E1 x hx))))).kept g) hsz.lst (by omega) (by omega)
    rw [← e] at C
    refine C.mono ?_
    rintro e w' ⟨rfl, g2, m2⟩
    have T := mk_then (b := [(v.L, b.lst.length)]) (L0.sub U2) g mm (g2.more (fun x hx => ⟨_, List.mem_singleton.2 rfl, hx⟩)) ⟨m2, trivial⟩
    exact ⟨by rw [bdR2, totR_append]; simp only [totR]; rw [Int.natCast_add, Int.add_assoc]; rfl, T.1, T.2⟩
  have C3 : ∀ w0 wi : World, HdBd w0 v Vw Vn Vr dss b → Loose w0 (bdR7 v Vw Vn Vr dss b) → Wrt (rowsS (bdR2 v Vw dss b)) w0 wi → mkR wi k (bdR2 v Vw dss b) → Calls Try.prog 52 #[v.N, .int .i64 (k + (totR (bdR2 v Vw dss b) : Int))] wi fun e w' => e = .returned (.int .i64 (k + (totR (bdR3 v Vw Vn dss b) : Int))) ∧ Wrt (rowsS (bdR3 v Vw Vn dss b)) w0 w' ∧ mkR w' k (bdR3 v Vw Vn dss b) := by
    intro w0 wi H0 L0 g mm
    refine (markNN_rows wi v.N Vn _ _ (k + (totR (bdR2 v Vw dss b) : Int)) ((H0.hN.kept g (fun x hx => rowsS_sub U2 hx)).less (fun x hx => rowsS_sub U3 (rowsS_append.2 (.inr hx)))) H0.sN ((L0.sub ((List.sublist_append_right _ _).trans U3)).kept g) hsz.n1 hsz.n2 (by omega) (by have := HT3; rw [bdR3, totR_append] at this; omega)).mono ?_
    rintro e w' ⟨rfl, g2, m2⟩
    have T := mk_then (L0.sub U3) g mm g2 m2
    exact ⟨by rw [bdR3, totR_append, Int.natCast_add, Int.add_assoc], T.1, T.2⟩
  have C4 : ∀ w0 wi : World, HdBd w0 v Vw Vn Vr dss b → Loose w0 (bdR7 v Vw Vn Vr dss b) → Wrt (rowsS (bdR3 v Vw Vn dss b)) w0 wi → mkR wi k (bdR3 v Vw Vn dss b) → Calls Try.prog 28 #[v.X, .int .i64 (k + (totR (bdR3 v Vw Vn dss b) : Int))] wi fun e w' => e = .returned (.int .i64 (k + (totR (bdR4 v Vw Vn dss b) : Int))) ∧ Wrt (rowsS (bdR4 v Vw Vn dss b)) w0 w' ∧ mkR w' k (bdR4 v Vw Vn dss b) := by
    intro w0 wi H0 L0 g mm
    obtain ⟨a, c, e, hs⟩ := H0.sX
    have E1 : ∀ x, rowS (.slice a b.nxt.length c) b.nxt.length x → rowsS [(v.X, b.nxt.length)] x := fun x hx => ⟨_, List.mem_singleton.2 rfl, by rw [e]; exact hx⟩
    have hk : k + (totR (bdR3 v Vw Vn dss b) : Int) + (b.nxt.length : Int) ≤ 16777216 := by have := HT4; rw [bdR4, totR_append] at this; simp only [totR] at this; omega
    have C := markI_row wi a b.nxt.length c (k + (totR (bdR3 v Vw Vn dss b) : Int)) hs (fun x hx => (L0.wb x (rowsS_sub U4 (rowsS_append.2 (.inr (E1 x hx))))).kept g) hsz.nxt (by omega) (by omega)
    rw [← e] at C
    refine C.mono ?_
    rintro e w' ⟨rfl, g2, m2⟩
    have T := mk_then (b := [(v.X, b.nxt.length)]) (L0.sub U4) g mm (g2.more (fun x hx => ⟨_, List.mem_singleton.2 rfl, hx⟩)) ⟨m2, trivial⟩
    exact ⟨by rw [bdR4, totR_append]; simp only [totR]; rw [Int.natCast_add, Int.add_assoc]; rfl, T.1, T.2⟩
  have C5 : ∀ w0 wi : World, HdBd w0 v Vw Vn Vr dss b → Loose w0 (bdR7 v Vw Vn Vr dss b) → Wrt (rowsS (bdR4 v Vw Vn dss b)) w0 wi → mkR wi k (bdR4 v Vw Vn dss b) → Calls Try.prog 28 #[v.S, .int .i64 (k + (totR (bdR4 v Vw Vn dss b) : Int))] wi fun e w' => e = .returned (.int .i64 (k + (totR (bdR5 v Vw Vn dss b) : Int))) ∧ Wrt (rowsS (bdR5 v Vw Vn dss b)) w0 w' ∧ mkR w' k (bdR5 v Vw Vn dss b) := by
    intro w0 wi H0 L0 g mm
    obtain ⟨a, c, e, hs⟩ := H0.sS
    have E1 : ∀ x, rowS (.slice a b.sn.length c) b.sn.length x → rowsS [(v.S, b.sn.length)] x := fun x hx => ⟨_, List.mem_singleton.2 rfl, by rw [e]; exact hx⟩
    have hk : k + (totR (bdR4 v Vw Vn dss b) : Int) + (b.sn.length : Int) ≤ 16777216 := by have := HT5; rw [bdR5, totR_append] at this; simp only [totR] at this; omega
    have C := markI_row wi a b.sn.length c (k + (totR (bdR4 v Vw Vn dss b) : Int)) hs (fun x hx => (L0.wb x (rowsS_sub U5 (rowsS_append.2 (.inr (E1 x hx))))).kept g) hsz.sn (by omega) (by omega)
    rw [← e] at C
    refine C.mono ?_
    rintro e w' ⟨rfl, g2, m2⟩
    have T := mk_then (b := [(v.S, b.sn.length)]) (L0.sub U5) g mm (g2.more (fun x hx => ⟨_, List.mem_singleton.2 rfl, hx⟩)) ⟨m2, trivial⟩
    exact ⟨by rw [bdR5, totR_append]; simp only [totR]; rw [Int.natCast_add, Int.add_assoc]; rfl, T.1, T.2⟩
  have C6 : ∀ w0 wi : World, HdBd w0 v Vw Vn Vr dss b → Loose w0 (bdR7 v Vw Vn Vr dss b) → Wrt (rowsS (bdR5 v Vw Vn dss b)) w0 wi → mkR wi k (bdR5 v Vw Vn dss b) → Calls Try.prog 28 #[v.F, .int .i64 (k + (totR (bdR5 v Vw Vn dss b) : Int))] wi fun e w' => e = .returned (.int .i64 (k + (totR (bdR6 v Vw Vn dss b) : Int))) ∧ Wrt (rowsS (bdR6 v Vw Vn dss b)) w0 w' ∧ mkR w' k (bdR6 v Vw Vn dss b) := by
    intro w0 wi H0 L0 g mm
    obtain ⟨a, c, e, hs⟩ := H0.sF
    have E1 : ∀ x, rowS (.slice a b.fr.length c) b.fr.length x → rowsS [(v.F, b.fr.length)] x := fun x hx => ⟨_, List.mem_singleton.2 rfl, by rw [e]; exact hx⟩
    have hk : k + (totR (bdR5 v Vw Vn dss b) : Int) + (b.fr.length : Int) ≤ 16777216 := by have := HT6; rw [bdR6, totR_append] at this; simp only [totR] at this; omega
    have C := markI_row wi a b.fr.length c (k + (totR (bdR5 v Vw Vn dss b) : Int)) hs (fun x hx => (L0.wb x (rowsS_sub U6 (rowsS_append.2 (.inr (E1 x hx))))).kept g) hsz.fr (by omega) (by omega)
    rw [← e] at C
    refine C.mono ?_
    rintro e w' ⟨rfl, g2, m2⟩
    have T := mk_then (b := [(v.F, b.fr.length)]) (L0.sub U6) g mm (g2.more (fun x hx => ⟨_, List.mem_singleton.2 rfl, hx⟩)) ⟨m2, trivial⟩
    exact ⟨by rw [bdR6, totR_append]; simp only [totR]; rw [Int.natCast_add, Int.add_assoc]; rfl, T.1, T.2⟩
  have C7 : ∀ w0 wi : World, HdBd w0 v Vw Vn Vr dss b → Loose w0 (bdR7 v Vw Vn Vr dss b) → Wrt (rowsS (bdR6 v Vw Vn dss b)) w0 wi → mkR wi k (bdR6 v Vw Vn dss b) → Calls Try.prog 53 #[v.R, .int .i64 (k + (totR (bdR6 v Vw Vn dss b) : Int))] wi fun e w' => e = .returned (.int .i64 (k + (totR (bdR7 v Vw Vn Vr dss b) : Int))) ∧ Wrt (rowsS (bdR7 v Vw Vn Vr dss b)) w0 w' ∧ mkR w' k (bdR7 v Vw Vn Vr dss b) := by
    intro w0 wi H0 L0 g mm
    refine (markII_rows wi v.R Vr _ _ (k + (totR (bdR6 v Vw Vn dss b) : Int)) ((H0.hR.kept g (fun x hx => rowsS_sub U6 hx)).less (fun x hx => rowsS_sub U7 (rowsS_append.2 (.inr hx)))) H0.sR ((L0.sub ((List.sublist_append_right _ _).trans U7)).kept g) hsz.r1 hsz.r2 (by omega) (by have := HT7; rw [bdR7, totR_append] at this; omega)).mono ?_
    rintro e w' ⟨rfl, g2, m2⟩
    have T := mk_then (L0.sub U7) g mm g2 m2
    exact ⟨by rw [bdR7, totR_append, Int.natCast_add, Int.add_assoc], T.1, T.2⟩
  have hd : ∀ f : BV → Value, True := fun _ => trivial
  clear hd
  have k0 : Keep w (w.alloc (.cells v.arr 33)) := (Keep.refl w).alloc _
  have H0 := H.keep k0
  have L0 := L.keep k0
  have BX : Hid (∀ (S : Addr → Prop) (w1 : World), Wrt S (w.alloc (.cells v.arr 33)) w1 → (∀ x, S x → rowsS (bdR7 v Vw Vn Vr dss b) x) → ∀ i, w1.cell? ⟨w.heap.size, i, none⟩ = v.arr[i]?) := Lib.hid (fun S w1 g hs i => (g.cell ⟨w.heap.size, i, none⟩ (by rw [heap_size]; exact Nat.lt_succ_self _) (fun h => by have := LW _ (hs _ h); exact absurd this (Nat.lt_irrefl _))).trans (box_cell (Keep.refl _) i))
  obtain ⟨aW, cW, eW, -⟩ := id H.hW
  obtain ⟨aP, cP, eP, -⟩ := id H.sP
  obtain ⟨aL, cL, eL, -⟩ := id H.sL
  obtain ⟨aN, cN, eN, -⟩ := id H.hN
  obtain ⟨aX, cX, eX, -⟩ := id H.sX
  obtain ⟨aS, cS, eS, -⟩ := id H.sS
  obtain ⟨aF, cF, eF, -⟩ := id H.sF
  obtain ⟨aR, cR, eR, -⟩ := id H.hR
  have D0 := Lib.hid (C0 _ · H0 L0)
  have D1 := Lib.hid (C1 _ · H0 L0)
  have D2 := Lib.hid (C2 _ · H0 L0)
  have D3 := Lib.hid (C3 _ · H0 L0)
  have D4 := Lib.hid (C4 _ · H0 L0)
  have D5 := Lib.hid (C5 _ · H0 L0)
  have D6 := Lib.hid (C6 _ · H0 L0)
  have D7 := Lib.hid (C7 _ · H0 L0)
  clear C0 C1 C2 C3 C4 C5 C6 C7 H L LW hsz h1
  have E8 : Hid (Keep w (w.alloc (.cells v.arr 33))) := Lib.hid k0
  have HS : (∀ x, rowsS (bdR0 Vw dss) x → rowsS (bdR7 v Vw Vn Vr dss b) x) ∧ (∀ x, rowsS (bdR1 v Vw dss b) x → rowsS (bdR7 v Vw Vn Vr dss b) x) ∧ (∀ x, rowsS (bdR2 v Vw dss b) x → rowsS (bdR7 v Vw Vn Vr dss b) x) ∧ (∀ x, rowsS (bdR3 v Vw Vn dss b) x → rowsS (bdR7 v Vw Vn Vr dss b) x) ∧ (∀ x, rowsS (bdR4 v Vw Vn dss b) x → rowsS (bdR7 v Vw Vn Vr dss b) x) ∧ (∀ x, rowsS (bdR5 v Vw Vn dss b) x → rowsS (bdR7 v Vw Vn Vr dss b) x) ∧ (∀ x, rowsS (bdR6 v Vw Vn dss b) x → rowsS (bdR7 v Vw Vn Vr dss b) x) := ⟨fun x hx => rowsS_sub U0 hx, fun x hx => rowsS_sub U1 hx, fun x hx => rowsS_sub U2 hx, fun x hx => rowsS_sub U3 hx, fun x hx => rowsS_sub U4 hx, fun x hx => rowsS_sub U5 hx, fun x hx => rowsS_sub U6 hx⟩
  have HSS := Lib.hid HS
  clear HS U0 U1 U2 U3 U4 U5 U6 U7 H0 L0 k0
  generalize hP0 : bdR0 Vw dss = P0 at *
  generalize hP1 : bdR1 v Vw dss b = P1 at *
  generalize hP2 : bdR2 v Vw dss b = P2 at *
  generalize hP3 : bdR3 v Vw Vn dss b = P3 at *
  generalize hP4 : bdR4 v Vw Vn dss b = P4 at *
  generalize hP5 : bdR5 v Vw Vn dss b = P5 at *
  generalize hP6 : bdR6 v Vw Vn dss b = P6 at *
  generalize hP7 : bdR7 v Vw Vn Vr dss b = P7 at *
  clear hP0 hP1 hP2 hP3 hP4 hP5 hP6 hP7
  obtain ⟨W, P, L, N, X, S, F, R⟩ := v
  simp only at eW eP eL eN eX eS eF eR
  subst eW eP eL eN eX eS eF eR
  go_enter Try.func19, Try.ntmps19
  have x0 := BX.out _ _ (Wrt.refl (fun _ => False) _) (fun x hx => absurd hx (fun h => h)) 0
  simp at x0
  go_wp2_with fail
  refine (D0.out _ (Wrt.refl _ _)).mono ?_
  rintro e w1 ⟨rfl, g1, m1⟩
  clear x0 D0
  have x1 := BX.out _ _ g1 HSS.out.1 1
  simp at x1
  go_wp2_with fail
  refine (D1.out _ g1 m1).mono ?_
  rintro e w2 ⟨rfl, g2, m2⟩
  clear x1 D1 g1 m1
  have x2 := BX.out _ _ g2 HSS.out.2.1 2
  simp at x2
  go_wp2_with fail
  refine (D2.out _ g2 m2).mono ?_
  rintro e w3 ⟨rfl, g3, m3⟩
  clear x2 D2 g2 m2
  have x3 := BX.out _ _ g3 HSS.out.2.2.1 3
  simp at x3
  go_wp2_with fail
  refine (D3.out _ g3 m3).mono ?_
  rintro e w4 ⟨rfl, g4, m4⟩
  clear x3 D3 g3 m3
  have x4 := BX.out _ _ g4 HSS.out.2.2.2.1 4
  simp at x4
  go_wp2_with fail
  refine (D4.out _ g4 m4).mono ?_
  rintro e w5 ⟨rfl, g5, m5⟩
  clear x4 D4 g4 m4
  have x5 := BX.out _ _ g5 HSS.out.2.2.2.2.1 5
  simp at x5
  go_wp2_with fail
  refine (D5.out _ g5 m5).mono ?_
  rintro e w6 ⟨rfl, g6, m6⟩
  clear x5 D5 g5 m5
  have x6 := BX.out _ _ g6 HSS.out.2.2.2.2.2.1 6
  simp at x6
  go_wp2_with fail
  refine (D6.out _ g6 m6).mono ?_
  rintro e w7 ⟨rfl, g7, m7⟩
  clear x6 D6 g6 m6
  have x7 := BX.out _ _ g7 HSS.out.2.2.2.2.2.2 7
  simp at x7
  go_wp2_with fail
  refine (D7.out _ g7 m7).mono ?_
  rintro e w8 ⟨rfl, g8, m8⟩
  clear x7 D7 g7 m7
  go_wp2
  go_ret
  exact ⟨rfl, (E8.out.wrt _).trans g8, m8⟩
theorem lenG_lenW : ∀ dss : List (List Dd), lenG dss = lenW dss
  | [] => rfl
  | d :: r => by rw [lenG, lenW, lenG_lenW r]
theorem tot_rows {α : Type} (s : Nat) (V : Nat → Value) (l : List (List α)) : ∀ k, k ≤ l.length → totR (rowsV s V (fun i => (l.getD i []).length) k) = s * lenG (l.take k)
  | 0, _ => by simp [rowsV, totR, lenG]
  | k + 1, h => by rw [rowsV_tot, tot_rows s V l k (by omega), lenG_take l k h, Nat.mul_add]
theorem tot_board {dss : List (List Dd)} {b : Bd} (hz : SzBd dss b) (hs : SumBd dss b) (v : BV) (Vw Vn Vr : Nat → Value) : totR (bdR7 v Vw Vn Vr dss b) ≤ 13 * 1048576 := by
  obtain ⟨s1, s2, s3⟩ := hs
  have h1 := hz.plc
  have h2 := hz.lst
  have h3 := hz.nxt
  have h4 := hz.sn
  have h5 := hz.fr
  unfold bdR7 bdR6 bdR5 bdR4 bdR3 bdR2 bdR1 bdR0
  simp only [totR_append]
  rw [tot_rows 4 Vw dss _ (Nat.le_refl _), tot_rows 3 Vn b.nts _ (Nat.le_refl _), tot_rows 1 Vr b.rws _ (Nat.le_refl _), List.take_length, List.take_length, List.take_length, lenG_lenW]
  simp only [totR]
  omega
def Marked (w : World) (v : BV) (dss : List (List Dd)) (b : Bd) (n : Nat) : Prop :=
  ∃ Vw Vn Vr : Nat → Value, HdBd w v Vw Vn Vr dss b ∧ n = totR (bdR7 v Vw Vn Vr dss b) ∧ (∀ x, rowsS (bdR7 v Vw Vn Vr dss b) x → x.block < w.heap.size) ∧ mkR w 1 (bdR7 v Vw Vn Vr dss b)
theorem Marked.keep {w w' : World} {v : BV} {dss : List (List Dd)} {b : Bd} {n : Nat} (h : Marked w v dss b n) (k : Keep w w') : Marked w' v dss b n := by
  obtain ⟨Vw, Vn, Vr, h1, h2, h3, h4⟩ := h
  exact ⟨Vw, Vn, Vr, h1.keep k, h2, fun x hx => Nat.lt_of_lt_of_le (h3 x hx) k.size, mkR_kept (k.wrt (fun _ => False)) _ _ h4 (fun _ _ h => h) h3⟩
theorem markB_any (w : World) (m : Nat) (v : BV) (dss : List (List Dd)) (b : Bd) (M : Nat) (h : FreeBd w m M v dss b) (hz : SzBd dss b) (hs : SumBd dss b) :
    Calls Try.prog 19 #[v.agg, .int .i64 1] w fun e w' => ∃ n : Nat, e = .returned (.int .i64 (1 + (n : Int))) ∧ n ≤ 13631488 ∧ Marked w' v dss b n ∧ Only m M w w' := by
  obtain ⟨Vw, Vn, Vr, h1, h2, h3⟩ := h.ex
  have ht := tot_board hz hs v Vw Vn Vr
  refine (markBoard_any w v Vw Vn Vr dss b 1 h1 h2 hz (by omega) (by omega)).mono ?_
  rintro e w' ⟨rfl, g, mk⟩
  refine ⟨_, rfl, by omega, ⟨Vw, Vn, Vr, h1.kept g (fun _ hx => hx), rfl, fun x hx => ((h2.wb x hx).kept g).lt, mk⟩, g.os, g.tape, g.output, g.size, fun q hq hm => g.block q hq (fun x hx e => ?_)⟩
  have := h3 x hx
  rw [e] at this
  omega
end Go.Proofs.Ytbmghnibngjicaa
