/- Contract of l1Bend: some text comes of it, at most two signs longer; nothing but the cursor's own block and new memory is written. -/
import Derived.Test.YtljamlgnobpjeaaGreatDoorBytesRow
import Derived.Test.YtljamlgnobpjeaaGreatDoorSplitS
import Derived.Lib.AtoiErrMem
import Derived.Deep.RegionHeld3
import Derived.Deep.RegionWith
namespace Go.Proofs.YtljamlgnobpjeaaGreatDoor
open Go.ChangeShapes Go.WideShapes Go.ChangeAt Go.RowKit

set_option maxRecDepth 100000 in
set_option maxHeartbeats 4000000 in
theorem l1Bend_any (w : World) (B c : Nat) (l sg : List UInt8) (hc : Cur w B c) (hl : l.length ≤ 1000) (h1 : 1 ≤ sg.length) (h2 : sg.length ≤ 100) :
    Calls Tryz.prog 24 #[.pointer (some ⟨c, 0, none⟩), strV l, strV sg] w fun e w' => ∃ l' : List UInt8, e = .returned (strV l') ∧ l'.length ≤ l.length + 2 ∧ Dr w w' B c := by
  have hcl := hc.lt
  have hB := hc.1
  have hsz : (⟨l.toArray⟩ : ByteArray).size = l.length := by simp [ByteArray.size]
  have hconv := Lib.run_convert_string_bytes (P := Tryz.prog) w 9 22 5 ⟨l.toArray⟩ Tryz.underlying9 Tryz.underlying22 Tryz.underlying5
  rw [hsz] at hconv
  have D0 := (Dr.refl hc).keep (Lib.bytesWorld_below w 5 ⟨l.toArray⟩)
  have R0 := fun cap h => RowB.ofString w l cap h
  obtain ⟨w0, hw0⟩ : ∃ w0, w0 = Lib.bytesWorld w 5 ⟨l.toArray⟩ := ⟨_, rfl⟩
  rw [← hw0] at hconv D0 R0
  clear hw0 hsz
  go_enter Tryz.func24, Tryz.ntmps24
  go_wp2_with fail
  refine (below_any _ B c _ D0.1 (by omega)).mono ?_
  rintro e w1 ⟨n, rfl, n0, n1, c1, g1⟩
  have R1 := (R0 _ (grownCap_ge w l.length 0 5)).kept g1 (by intro k hk; simp at hk; omega)
  have D1 := D0.step c1 g1
  clear R0 D0 c1 g1 hconv
  obtain ⟨m, rfl⟩ := Int.eq_ofNat_of_zero_le n0
  go_wp2
  go_loopw [7, 8] (fun v n wr => ∃ (u : Value) (xs : List Int) (m : Nat), u = v ∧ n = .int .i64 m ∧ m ≤ 2 ∧ xs.length + m ≤ l.length + 2 ∧ RowB wr w.heap.size u xs ∧ Dr w wr B c) (fun _ n _ => (intOf n).toNat)
  case atStart => exact ⟨_, numsOf l, m, rfl, rfl, by omega, by simp [numsOf]; omega, R1, D1⟩
  case round =>
    clear R1 D1 n0 n1
    obtain ⟨u, xs, m, rfl, rfl, hm, hlen, hR, hD⟩ := hrel
    obtain ⟨l', hl', hstr⟩ := toStr hR
    by_cases hm0 : m = 0
    · subst hm0
      go_wp2
      go_ret
      exact ⟨l', rfl, by omega, hD⟩
    · have hm1 : 1 ≤ m := by omega
      by_cases hx0 : xs = []
      · subst hx0
        obtain ⟨a, cap, rfl, hcap, hx⟩ := hR
        have hstr' : (convert 22 9 (.slice a 0 cap)).run Tryz.prog wr = .ok (strV l') wr := hstr
        clear hstr
        go_wp2
        go_ret
        exact ⟨l', rfl, by omega, hD⟩
      have hx1 : 1 ≤ xs.length := by
        cases xs with
        | nil => exact absurd rfl hx0
        | cons _ _ => simp
      clear hstr hl'
      have Hm : Hid (((m - 1 : Nat) : Int) = (m : Int) - 1) := Lib.hid (by omega)
      obtain ⟨a, cap, rfl, hcap, hx⟩ := hR
      obtain ⟨g, rfl, hgB, hgs, hcc⟩ : ∃ g, a = some ⟨g, 0, none⟩ ∧ w.heap.size ≤ g ∧ g < wr.heap.size ∧ ∀ i, i < xs.length → wr.cell? ⟨g, i, none⟩ = some (.int .u8 (xs.getD i 0)) ∧ wr.frozen? ⟨g, i, none⟩ = false := by
        rcases hx with h | h
        · exact absurd h hx0
        · exact h
      clear hx hx0
      go_wp2_with fail
      refine (below_any _ B c _ hD.1 (by omega)).mono ?_
      rintro e w2 ⟨k, rfl, k0, k1, c2, g2⟩
      obtain ⟨k, rfl⟩ := Int.eq_ofNat_of_zero_le k0
      have D2 := hD.step c2 g2
      have R2 : RowB w2 w.heap.size (.slice (some ⟨g, 0, none⟩) xs.length cap) xs := RowB.kept ⟨_, _, rfl, hcap, .inr ⟨g, rfl, hgB, hgs, hcc⟩⟩ g2 (by intro k hk; simp at hk; omega)
      clear hD c2 g2 hcc hgs
      go_wp2_with fail
      refine (below_any _ B c _ D2.1 (by omega)).mono ?_
      rintro e w3 ⟨t, rfl, t0, t1, c3, g3⟩
      have D3 := D2.step c3 g3
      have R3 := R2.kept g3 (by intro k hk; simp at hk; omega)
      clear D2 R2 c3 g3
      have hkl : k < xs.length := by omega
      have ht : t = 0 ∨ t = 1 ∨ t = 2 ∨ t = 3 := by omega
      clear t0 t1
      rcases ht with rfl | rfl | rfl | rfl
      · go_wp2_with fail
        refine (below_any _ B c _ D3.1 (by omega)).mono ?_
        rintro e w4 ⟨z, rfl, z0, z1, c4, g4⟩
        obtain ⟨z, rfl⟩ := Int.eq_ofNat_of_zero_le z0
        have D4 := D3.step c4 g4
        have R4 := R3.kept g4 (by intro k hk; simp at hk; omega)
        clear D3 R3 c4 g4
        have hget := get_at sg z (by rw [size_at]; omega)
        obtain ⟨hgs, hcc⟩ := R4.open hx1
        obtain ⟨d1, d2⟩ := hcc k hkl
        go_wp2
        go_roundw
        case rel => exact ⟨_, xs.set k ((byteAt sg z).toNat : Int), m - 1, rfl, by rw [Hm.out], by omega, by simp; omega, RowB.set hgB hgs hcap hcc hkl _, D4.set hgB hcl hB k _⟩
        case measure => simp [intOf]; omega
      · obtain ⟨hgs, hcc⟩ := R3.open hx1
        go_wp2
        go_roundw
        case rel => exact ⟨_, xs.take k, m - 1, rfl, by rw [Hm.out], by omega, by rw [List.length_take]; omega, RowB.take hgB hgs hcap hcc (by omega), D3⟩
        case measure => simp [intOf]; omega
      · obtain ⟨hgs, hcc⟩ := R3.open hx1
        obtain ⟨i0, hi, hz0, hz1, hz2⟩ := info_parts Tryz.infoB
        have b0 : (0 : Int) ≤ (k : Int) := Int.natCast_nonneg _
        have b1 : (k : Int) ≤ (xs.length : Int) := by omega
        have b2 : (k : Int) + 1 ≤ (xs.length : Int) := by omega
        have b3 : (k : Int) ≤ (cap : Int) := by omega
        have b4 : (xs.length : Int) ≤ (cap : Int) := by omega
        have hcW : ∀ i, i < xs.length → ((w3.alloc (.cells #[] 5)).drew).cell? ⟨g, i, none⟩ = some (.int .u8 (xs.getD i 0)) := fun i hi => (((Keep.refl w3).alloc _).drew.cell hgs).trans (hcc i hi).1
        have hws : w.heap.size ≤ w3.heap.size := D3.2.size
        have HO : ((w3.alloc (.cells #[] 5)).drew).ownsRow w.heap.size 5 1 (.slice (some ⟨w3.heap.size, 0, none⟩) 0 0) 0 [] := World.ownsRow.drew (World.ownsRow_lit w3 #[] 0 hws (by decide) rfl)
        have HL1 : (((xs.drop 0).take k).map (Value.int .u8)).length = k * 1 := by simp; omega
        have HX1 : 0 + k ≤ maxLen := by unfold maxLen; omega
        have HX2 : (0 + k) * 1 ≤ 140737488355328 := by omega
        have HX3 : w.heap.size ≤ ((w3.alloc (.cells #[] 5)).drew).heap.size := by rw [heap_drew, heap_size]; omega
        have HGS : g < ((w3.alloc (.cells #[] 5)).drew).heap.size := by rw [heap_drew, heap_size]; omega
        have HNE : some w3.heap.size ≠ some g := by simp; omega
        have hwr := wrap_k1 k (by omega)
        have b5 : (0 : Int) ≤ (k : Int) + 1 := by omega
        have b6 : (k : Int) ≤ (k : Int) + 1 := by omega
        have HX4 : 0 + k + (xs.length - (k + 1)) ≤ maxLen := by unfold maxLen; omega
        have HX5 : (0 + k + (xs.length - (k + 1))) * 1 ≤ 140737488355328 := by omega
        by_cases hck : cap = k + 1
        · subst hck
          have HL2 : (((xs.drop 0).take 0).map (Value.int .u8)).length = 0 * 1 := by simp
          have HX4 : 0 + k + 0 ≤ maxLen := by unfold maxLen; omega
          have HX5 : (0 + k + 0) * 1 ≤ 140737488355328 := by omega
          go_wp2_with fail
          go_region_law ((first | (refine step_append_own (by rfl) _ _ 22 (by rfl) w.heap.size 5 i0 (.int .u8 0) 1 1 Tryz.underlying22 hi hz0 hz1 hz2 rfl (by decide) (.slice (some ⟨w3.heap.size, 0, none⟩) 0 0) 0 [] (by rfl) HO ⟨g, 0, none⟩ k _ (((xs.drop 0).take k).map (Value.int .u8)) (by rfl) HL1 (news_of hcW) one_of HX1 HX2 HX3 ?_; intro v1 wa o1 gr1; have hne1 : some w3.heap.size ≠ some g := HNE; have hcA : ∀ i, i < xs.length → wa.cell? ⟨g, i, none⟩ = some (.int .u8 (xs.getD i 0)) := (fun i hi => (cell_far gr1 HGS hne1).trans (hcW i hi)); have HX6 := Nat.le_trans HX3 gr1.size) | (refine step_append_own (by rfl) _ _ 22 (by rfl) w.heap.size 5 i0 (.int .u8 0) 1 1 Tryz.underlying22 hi hz0 hz1 hz2 rfl (by decide) v1 (0 + k) _ (by rfl) o1 ⟨g, 0, none⟩ 0 _ (((xs.drop 0).take 0).map (Value.int .u8)) (by rfl) HL2 (news_of hcA) one_of HX4 HX5 HX6 ?_; intro v2 wb o2 gr2)))
          all_goals
            go_wp2
            go_roundw
            case rel => exact ⟨_, ((xs.drop 0).take k) ++ ((xs.drop 0).take 0), m - 1, rfl, by rw [Hm.out], by omega, by simp; omega, RowB.ofTwo o2 (by simp; omega), ((D3.keep (((Keep.refl w3).alloc _).drew)).kept gr1 (by intro k hk; simp [Value.ownBlock] at hk; omega) hcl hB).kept gr2 (fun k hk => (World.ownsRow.lt o1 k hk).1) hcl hB⟩
            case measure => simp [intOf]; omega
        · have HL2 : (((xs.drop (k + 1)).take (xs.length - (k + 1))).map (Value.int .u8)).length = (xs.length - (k + 1)) * 1 := by simp
          go_wp2_with fail
          go_region_law ((first | (refine step_append_own (by rfl) _ _ 22 (by rfl) w.heap.size 5 i0 (.int .u8 0) 1 1 Tryz.underlying22 hi hz0 hz1 hz2 rfl (by decide) (.slice (some ⟨w3.heap.size, 0, none⟩) 0 0) 0 [] (by rfl) HO ⟨g, 0, none⟩ k _ (((xs.drop 0).take k).map (Value.int .u8)) (by rfl) HL1 (news_of hcW) one_of HX1 HX2 HX3 ?_; intro v1 wa o1 gr1; have hne1 : some w3.heap.size ≠ some g := HNE; have hcA : ∀ i, i < xs.length → wa.cell? ⟨g, i, none⟩ = some (.int .u8 (xs.getD i 0)) := (fun i hi => (cell_far gr1 HGS hne1).trans (hcW i hi)); have HX6 := Nat.le_trans HX3 gr1.size) | (refine step_append_own (by rfl) _ _ 22 (by rfl) w.heap.size 5 i0 (.int .u8 0) 1 1 Tryz.underlying22 hi hz0 hz1 hz2 rfl (by decide) v1 (0 + k) _ (by rfl) o1 ⟨g, k + 1, none⟩ (xs.length - (k + 1)) _ (((xs.drop (k + 1)).take (xs.length - (k + 1))).map (Value.int .u8)) (by rfl) HL2 (news_of hcA) one_of HX4 HX5 HX6 ?_; intro v2 wb o2 gr2)))
          all_goals
            go_wp2
            go_roundw
            case rel => exact ⟨_, ((xs.drop 0).take k) ++ ((xs.drop (k + 1)).take (xs.length - (k + 1))), m - 1, rfl, by rw [Hm.out], by omega, by simp; omega, RowB.ofTwo o2 (by simp; omega), ((D3.keep (((Keep.refl w3).alloc _).drew)).kept gr1 (by intro k hk; simp [Value.ownBlock] at hk; omega) hcl hB).kept gr2 (fun k hk => (World.ownsRow.lt o1 k hk).1) hcl hB⟩
            case measure => simp [intOf]; omega
      · obtain ⟨hgs, hcc⟩ := R3.open hx1
        obtain ⟨i0, hi, hz0, hz1, hz2⟩ := info_parts Tryz.infoB
        have b0 : (0 : Int) ≤ (k : Int) := Int.natCast_nonneg _
        have b1 : (k : Int) ≤ (xs.length : Int) := by omega
        have b3 : (k : Int) ≤ (cap : Int) := by omega
        have b4 : (xs.length : Int) ≤ (cap : Int) := by omega
        have hck : ¬ cap = k := by omega
        have hws : w.heap.size ≤ w3.heap.size := D3.2.size
        have hcW : ∀ i, i < xs.length → ((w3.alloc (.cells #[] 5)).drew).cell? ⟨g, i, none⟩ = some (.int .u8 (xs.getD i 0)) := fun i hi => (((Keep.refl w3).alloc _).drew.cell hgs).trans (hcc i hi).1
        have HO : ((w3.alloc (.cells #[] 5)).drew).ownsRow w3.heap.size 5 1 (.slice (some ⟨w3.heap.size, 0, none⟩) 0 0) 0 [] := World.ownsRow.drew (World.ownsRow_lit w3 #[] 0 (Nat.le_refl _) (by decide) rfl)
        have HL1 : (((xs.drop 0).take k).map (Value.int .u8)).length = k * 1 := by simp; omega
        have HX1 : 0 + k ≤ maxLen := by unfold maxLen; omega
        have HX2 : (0 + k) * 1 ≤ 140737488355328 := by omega
        have HX3 : w3.heap.size ≤ ((w3.alloc (.cells #[] 5)).drew).heap.size := by rw [heap_drew, heap_size]; omega
        have HGS : g < ((w3.alloc (.cells #[] 5)).drew).heap.size := by rw [heap_drew, heap_size]; omega
        have HNE : some w3.heap.size ≠ some g := by simp; omega
        have DW := D3.keep (((Keep.refl w3).alloc (.cells #[] 5)).drew)
        have HY1 : 0 + k + 1 ≤ maxLen := by unfold maxLen; omega
        have HY2 : (0 + k + 1) * 1 ≤ 140737488355328 := by omega
        have HZ1 : 0 + k + 1 + (xs.length - k) ≤ maxLen := by unfold maxLen; omega
        have HZ2 : (0 + k + 1 + (xs.length - k)) * 1 ≤ 140737488355328 := by omega
        have HL3 : (((xs.drop k).take (xs.length - k)).map (Value.int .u8)).length = (xs.length - k) * 1 := by simp
        have hkB : ∀ j : Nat, some w3.heap.size = some j → w.heap.size ≤ j := by intro j hj; simp at hj; omega
        go_wp2_with fail
        go_region_law ((first
          | (refine step_append_own (by rfl) _ _ 22 (by rfl) w3.heap.size 5 i0 (.int .u8 0) 1 1 Tryz.underlying22 hi hz0 hz1 hz2 rfl (by decide) (.slice (some ⟨w3.heap.size, 0, none⟩) 0 0) 0 [] (by rfl) HO ⟨g, 0, none⟩ k _ (((xs.drop 0).take k).map (Value.int .u8)) (by rfl) HL1 (news_of hcW) one_of HX1 HX2 HX3 ?_; intro v1 wa o1 gr1; have DA : Dr w wa B c := DW.kept gr1 hkB hcl hB; have hcA : ∀ i, i < xs.length → wa.cell? ⟨g, i, none⟩ = some (.int .u8 (xs.getD i 0)) := (fun i hi => (cell_far gr1 HGS HNE).trans (hcW i hi)); have HA3 := Nat.le_trans HX3 gr1.size; have HAg := Nat.lt_of_lt_of_le HGS gr1.size; have hv1 : ∀ j, v1.ownBlock = some j → w3.heap.size ≤ j := (fun j hj => (World.ownsRow.lt o1 j hj).1))
          | (refine step_append_own (by rfl) _ _ 22 (by rfl) w3.heap.size 5 i0 (.int .u8 0) 1 1 Tryz.underlying22 hi hz0 hz1 hz2 rfl (by decide) v1 (0 + k) _ (by rfl) (World.ownsRow.alloc o1b _) ⟨wb.heap.size, 0, none⟩ 1 1 ([((byteAt sg z).toNat : Int)].map (Value.int .u8)) (by rfl) (by rfl) (news_one wb _) one_of HY1 HY2 HB4 ?_; intro v2 wd o2 gr2; have DD : Dr w wd B c := (DB.alloc _).kept gr2 (fun j hj => Nat.le_trans hws (hv1 j hj)) hcl hB; have hcD : ∀ i, i < xs.length → wd.cell? ⟨g, i, none⟩ = some (.int .u8 (xs.getD i 0)) := (fun i hi => (cell_far gr2 (Nat.lt_trans HBg (by rw [heap_size]; omega)) (fun e => by have := hv1 g e; omega)).trans ((((Keep.refl wb).alloc _).cell HBg).trans (hcB i hi))); have HD3 := Nat.le_trans HB4 gr2.size)
          | (refine step_append_own (by rfl) _ _ 22 (by rfl) w3.heap.size 5 i0 (.int .u8 0) 1 1 Tryz.underlying22 hi hz0 hz1 hz2 rfl (by decide) v2 (0 + k + 1) _ (by rfl) o2 ⟨g, k, none⟩ (xs.length - k) _ (((xs.drop k).take (xs.length - k)).map (Value.int .u8)) (by rfl) HL3 (news_of hcD) one_of HZ1 HZ2 HD3 ?_; intro v3 wf o3 gr3)
          | (go_simp; refine (below_any wa B c _ DA.1 (by omega)).mono ?_; rintro e wb ⟨z, rfl, z0, z1, c4, g4⟩; obtain ⟨z, rfl⟩ := Int.eq_ofNat_of_zero_le z0; have hget := get_at sg z (by rw [size_at]; omega); have DB := DA.step c4 g4; have hcB : ∀ i, i < xs.length → wb.cell? ⟨g, i, none⟩ = some (.int .u8 (xs.getD i 0)) := (fun i hi => (cell_far g4 HAg (by simp; omega)).trans (hcA i hi)); have HBg := Nat.lt_of_lt_of_le HAg g4.size; have HB3 := Nat.le_trans HA3 g4.size; have o1b := World.ownsRow.kept o1 g4 (by (cases hv : v1.ownBlock with | none => exact .inl rfl | some j => exact .inr (fun e => by (have := hv1 j hv; simp at e; omega)))); have HB4 : w3.heap.size ≤ (wb.alloc (.cells #[.int .u8 ((byteAt sg z).toNat : Int)] 5)).heap.size := by (rw [heap_size]; omega))))
        all_goals
          go_wp2
          go_roundw
          case rel => exact ⟨_, ((xs.drop 0).take k) ++ [((byteAt sg z).toNat : Int)] ++ ((xs.drop k).take (xs.length - k)), m - 1, rfl, by rw [Hm.out], by omega, by simp; omega, (RowB.ofThree o3 (by simp; omega)).mono hws, DD.kept gr3 (fun j hj => Nat.le_trans hws (World.ownsRow.lt o2 j hj).1) hcl hB⟩
          case measure => simp [intOf]; omega
end Go.Proofs.YtljamlgnobpjeaaGreatDoor
