/- Contracts of what the program's ReadDeed makes its guess with. -/
import Derived.Test.YtljamlgnobpjeaaGreatDoorShowI
import Derived.Test.YtljamlgnobpjeaaGreatDoorMA
import Derived.Test.YtljamlgnobpjeaaGreatDoorMC
import Derived.Lib.Hide
import Derived.Lib.AtoiErrMem
namespace Go.Proofs.YtljamlgnobpjeaaGreatDoor
open Go.ChangeShapes Go.WideShapes Go.ChangeAt Go.RowKit

/-- What the library's functions ask of the world: three of the library's variables hold what their kinds hold. -/
def LibW (w : World) : Prop :=
  (∃ m, w.cell? ⟨0, 0, none⟩ = some (.int .i64 m)) ∧ (∃ tp p, w.cell? ⟨6, 0, none⟩ = some (.iface tp p)) ∧ (∃ tp p, w.cell? ⟨7, 0, none⟩ = some (.iface tp p))
theorem cell_lt {w : World} {b o : Nat} {v : Value} (h : w.cell? ⟨b, o, none⟩ = some v) : b < w.heap.size := by
  apply Classical.byContradiction
  intro hn
  have h3 : w.heap[b]? = none := by simp; omega
  simp [World.cell?, h3] at h
theorem LibW.keep {w w' : World} (h : LibW w) (k : Keep w w') : LibW w' := by
  obtain ⟨⟨m, hm⟩, ⟨t1, p1, h1⟩, ⟨t2, p2, h2⟩⟩ := h
  exact ⟨⟨m, (k.cell (cell_lt hm)).trans hm⟩, ⟨t1, p1, (k.cell (cell_lt h1)).trans h1⟩, ⟨t2, p2, (k.cell (cell_lt h2)).trans h2⟩⟩
theorem placeNamed_any (l : List UInt8) (w : World) (hw : LibW w) :
    Calls Tryz.prog 83 #[strV l] w fun e w' => e = .returned (.int .i64 (Lib.index [120, 121, 122] l)) ∧ Keep w w' := by
  obtain ⟨⟨m, hm⟩, _⟩ := hw
  go_enter Tryz.func83, Tryz.ntmps83
  go_wp2_with fail
  refine (Tryz.strings_Index ⟨#[120, 121, 122]⟩ ⟨l.toArray⟩ m _ (by decide) hm).mono ?_
  rintro e w' ⟨rfl, rfl⟩
  go_wp2
  go_ret
  exact ⟨rfl, Keep.refl _⟩
theorem numI_some {l : List UInt8} {v : Int} (h : Lib.parseIntB 64 l = .ok v) : numI l = v := by unfold numI; rw [h]
theorem numI_syn {l : List UInt8} (h : Lib.parseIntB 64 l = .«syntax») : numI l = 0 := by unfold numI; rw [h]
theorem numI_rng {l : List UInt8} (h : Lib.parseIntB 64 l = .range) : numI l = 0 := by unfold numI; rw [h]
theorem numberNamed_any (l : List UInt8) (w : World) (hl : l.length ≤ 1048576) (hw : LibW w) :
    Calls Tryz.prog 84 #[strV l] w fun e w' => e = .returned (.int .i64 (numI l)) ∧ Keep w w' := by
  obtain ⟨_, ⟨t1, p1, h1⟩, ⟨t2, p2, h2⟩⟩ := hw
  have hsz : (⟨l.toArray⟩ : ByteArray).size = l.length := by simp [ByteArray.size]
  cases h : Lib.parseIntB 64 l with
  | ok v =>
    have HN := Lib.hid (numI_some h)
    go_enter Tryz.func84, Tryz.ntmps84
    go_wp2_with fail
    refine (Tryz.strconv_ParseInt_10_at64_ok ⟨l.toArray⟩ (by rw [hsz]; omega) v h _).mono ?_
    rintro e w' ⟨rfl, hw'⟩
    have K : Keep w w' := by
      rcases hw' with rfl | ⟨t, rfl⟩
      · exact Keep.refl _
      · exact Lib.bytesWorld_below _ _ _
    clear hw'
    go_wp2
    go_ret
    exact ⟨by rw [HN.out]; rfl, K⟩
  | «syntax» =>
    have HN := Lib.hid (numI_syn h)
    go_enter Tryz.func84, Tryz.ntmps84
    go_wp2_with fail
    refine (Tryz.strconv_ParseInt_10_at64_syntax ⟨l.toArray⟩ (by rw [hsz]; omega) h _ _ h1 (.inr ⟨_, _, rfl⟩)).mono ?_
    rintro e w' ⟨N, rfl, hN, _, K⟩
    go_wp2
    go_ret
    exact ⟨by rw [HN.out]; rfl, K⟩
  | range =>
    have HN := Lib.hid (numI_rng h)
    go_enter Tryz.func84, Tryz.ntmps84
    go_wp2_with fail
    refine (Tryz.strconv_ParseInt_10_at64_range ⟨l.toArray⟩ (by rw [hsz]; omega) h _ _ h2 (.inr ⟨_, _, rfl⟩)).mono ?_
    rintro e w' ⟨N, rfl, hN, _, K⟩
    go_wp2
    go_ret
    exact ⟨by rw [HN.out]; rfl, K⟩
set_option maxRecDepth 100000 in
set_option maxHeartbeats 1000000 in
theorem kindNamed_any (l : List UInt8) (w : World) :
    Calls Tryz.prog 82 #[strV l] w fun e w' => e = .returned (.int .i64 (kindNo l)) ∧ w' = w := by
  by_cases h1 : kindL 1 = l
  · have HN : Hid (kindNo l = 1) := Lib.hid (by unfold kindNo; rw [if_pos h1])
    have b1 : (kindL 1 == l) = true := by simpa using h1
    clear h1
    go_enter Tryz.func82, Tryz.ntmps82
    go_wp2
    refine wp_loop_rounds 1 ?_
    rw [rounds_succ]
    go_wp2_with (go_at_call 60; refine (kindWord_any _ _).mono ?_; rintro e w' ⟨rfl, rfl⟩)
    go_ret
    exact ⟨by rw [HN.out]; rfl, rfl⟩
  by_cases h2 : kindL 2 = l
  · have HN : Hid (kindNo l = 2) := Lib.hid (by unfold kindNo; rw [if_neg h1, if_pos h2])
    have b2 : (kindL 2 == l) = true := by simpa using h2
    have b1 : (kindL 1 == l) = false := by simpa using h1
    clear h1 h2
    go_enter Tryz.func82, Tryz.ntmps82
    go_wp2
    refine wp_loop_rounds 2 ?_
    rw [rounds_succ]
    go_wp2_with (go_at_call 60; refine (kindWord_any _ _).mono ?_; rintro e w' ⟨rfl, rfl⟩)
    rw [rounds_succ]
    go_wp2_with (go_at_call 60; refine (kindWord_any _ _).mono ?_; rintro e w' ⟨rfl, rfl⟩)
    go_ret
    exact ⟨by rw [HN.out]; rfl, rfl⟩
  by_cases h3 : kindL 3 = l
  · have HN : Hid (kindNo l = 3) := Lib.hid (by unfold kindNo; rw [if_neg h1, if_neg h2, if_pos h3])
    have b3 : (kindL 3 == l) = true := by simpa using h3
    have b1 : (kindL 1 == l) = false := by simpa using h1
    have b2 : (kindL 2 == l) = false := by simpa using h2
    clear h1 h2 h3
    go_enter Tryz.func82, Tryz.ntmps82
    go_wp2
    refine wp_loop_rounds 3 ?_
    rw [rounds_succ]
    go_wp2_with (go_at_call 60; refine (kindWord_any _ _).mono ?_; rintro e w' ⟨rfl, rfl⟩)
    rw [rounds_succ]
    go_wp2_with (go_at_call 60; refine (kindWord_any _ _).mono ?_; rintro e w' ⟨rfl, rfl⟩)
    rw [rounds_succ]
    go_wp2_with (go_at_call 60; refine (kindWord_any _ _).mono ?_; rintro e w' ⟨rfl, rfl⟩)
    go_ret
    exact ⟨by rw [HN.out]; rfl, rfl⟩
  by_cases h4 : kindL 4 = l
  · have HN : Hid (kindNo l = 4) := Lib.hid (by unfold kindNo; rw [if_neg h1, if_neg h2, if_neg h3, if_pos h4])
    have b4 : (kindL 4 == l) = true := by simpa using h4
    have b1 : (kindL 1 == l) = false := by simpa using h1
    have b2 : (kindL 2 == l) = false := by simpa using h2
    have b3 : (kindL 3 == l) = false := by simpa using h3
    clear h1 h2 h3 h4
    go_enter Tryz.func82, Tryz.ntmps82
    go_wp2
    refine wp_loop_rounds 4 ?_
    rw [rounds_succ]
    go_wp2_with (go_at_call 60; refine (kindWord_any _ _).mono ?_; rintro e w' ⟨rfl, rfl⟩)
    rw [rounds_succ]
    go_wp2_with (go_at_call 60; refine (kindWord_any _ _).mono ?_; rintro e w' ⟨rfl, rfl⟩)
    rw [rounds_succ]
    go_wp2_with (go_at_call 60; refine (kindWord_any _ _).mono ?_; rintro e w' ⟨rfl, rfl⟩)
    rw [rounds_succ]
    go_wp2_with (go_at_call 60; refine (kindWord_any _ _).mono ?_; rintro e w' ⟨rfl, rfl⟩)
    go_ret
    exact ⟨by rw [HN.out]; rfl, rfl⟩
  have HN : Hid (kindNo l = 0) := Lib.hid (by unfold kindNo; rw [if_neg h1, if_neg h2, if_neg h3, if_neg h4])
  have b1 : (kindL 1 == l) = false := by simpa using h1
  have b2 : (kindL 2 == l) = false := by simpa using h2
  have b3 : (kindL 3 == l) = false := by simpa using h3
  have b4 : (kindL 4 == l) = false := by simpa using h4
  clear h1 h2 h3 h4
  go_enter Tryz.func82, Tryz.ntmps82
  go_wp2
  refine wp_loop_rounds 5 ?_
  rw [rounds_succ]
  go_wp2_with (go_at_call 60; refine (kindWord_any _ _).mono ?_; rintro e w' ⟨rfl, rfl⟩)
  rw [rounds_succ]
  go_wp2_with (go_at_call 60; refine (kindWord_any _ _).mono ?_; rintro e w' ⟨rfl, rfl⟩)
  rw [rounds_succ]
  go_wp2_with (go_at_call 60; refine (kindWord_any _ _).mono ?_; rintro e w' ⟨rfl, rfl⟩)
  rw [rounds_succ]
  go_wp2_with (go_at_call 60; refine (kindWord_any _ _).mono ?_; rintro e w' ⟨rfl, rfl⟩)
  rw [rounds_succ]
  go_wp2_with (go_at_call 60; refine (kindWord_any _ _).mono ?_; rintro e w' ⟨rfl, rfl⟩)
  go_ret
  exact ⟨by rw [HN.out]; rfl, rfl⟩
theorem cut_le (s sep : List UInt8) : (Lib.cut s sep).1.length ≤ s.length ∧ (Lib.cut s sep).2.1.length ≤ s.length := by
  unfold Lib.cut
  split
  · simp only [List.length_take, List.length_drop]
    omega
  · simp
theorem cut_any (s : List UInt8) (sep : ByteArray) (w : World) (hs : s.length ≤ 1048576) (hw : LibW w) :
    Calls Tryz.prog 81 #[strV s, .string sep] w fun e w' => e = .returned (.tuple #[strV (Lib.cut s sep.data.toList).1, strV (Lib.cut s sep.data.toList).2.1, .bool (Lib.cut s sep.data.toList).2.2]) ∧ Keep w w' := by
  obtain ⟨⟨m, hm⟩, _⟩ := hw
  have hsz : (⟨s.toArray⟩ : ByteArray).size = s.length := by simp [ByteArray.size]
  refine (Tryz.strings_Cut ⟨s.toArray⟩ sep m w (by rw [hsz]; omega) hm).mono ?_
  rintro e w' ⟨rfl, n, rfl⟩
  exact ⟨rfl, (Keep.refl w).drewN n⟩
theorem cutIn_any (s : List UInt8) (w : World) (hs : s.length ≤ 1048576) (hw : LibW w) :
    Calls Tryz.prog 81 #[strV s, .string ⟨#[32, 105, 110, 32]⟩] w fun e w' => e = .returned (.tuple #[strV (cutIn s).1, strV (cutIn s).2.1, .bool (cutIn s).2.2]) ∧ Keep w w' := cut_any s _ w hs hw
theorem cutB_any (s : List UInt8) (w : World) (hs : s.length ≤ 1048576) (hw : LibW w) :
    Calls Tryz.prog 81 #[strV s, .string ⟨#[32]⟩] w fun e w' => e = .returned (.tuple #[strV (cutB s).1, strV (cutB s).2.1, .bool (cutB s).2.2]) ∧ Keep w w' := cut_any s _ w hs hw
set_option maxRecDepth 100000 in
set_option maxHeartbeats 1000000 in
theorem guessed_any (l : List UInt8) (w : World) (hl : l.length ≤ 1048576) (hw : LibW w) :
    Calls Tryz.prog 69 #[strV l] w fun e w' => e = .returned (deedV (gIk l) (gIp l) (gIv l) (gIg l)) ∧ Keep w w' := by
  have a1 : (cutIn l).1.length ≤ l.length ∧ (cutIn l).2.1.length ≤ l.length := cut_le l [32, 105, 110, 32]
  have a2 : (cutB (cutIn l).1).1.length ≤ (cutIn l).1.length ∧ (cutB (cutIn l).1).2.1.length ≤ (cutIn l).1.length := cut_le (cutIn l).1 [32]
  have a3 : (cutB (cutB (cutIn l).1).2.1).1.length ≤ (cutB (cutIn l).1).2.1.length ∧ (cutB (cutB (cutIn l).1).2.1).2.1.length ≤ (cutB (cutIn l).1).2.1.length := cut_le (cutB (cutIn l).1).2.1 [32]
  have b1 : (cutIn l).1.length ≤ 1048576 := by omega
  have b2 : (cutIn l).2.1.length ≤ 1048576 := by omega
  have b3 : (cutB (cutIn l).1).2.1.length ≤ 1048576 := by omega
  have b4 : (cutB (cutB (cutIn l).1).2.1).2.1.length ≤ 1048576 := by omega
  clear a1 a2 a3
  go_enter Tryz.func69, Tryz.ntmps69
  go_wp2_with fail
  refine (cutIn_any l _ hl (hw.keep ((Keep.refl _).alloc _))).mono ?_
  rintro e w1 ⟨rfl, k1⟩
  have hR : St w w1 w.heap.size 0 0 0 0 := St.keep (St.start 0 0 0 0) k1
  have W1 := hw.keep hR.keep1
  clear k1
  go_wp2_with fail
  refine (cutB_any _ _ b1 W1).mono ?_
  rintro e w2 ⟨rfl, k2⟩
  have R2 := hR.keep k2
  have W2 := W1.keep k2
  clear hR W1 k2
  go_wp2_with fail
  refine (cutB_any _ _ b3 W2).mono ?_
  rintro e w3 ⟨rfl, k3⟩
  have R3 := R2.keep k3
  have W3 := W2.keep k3
  clear R2 W2 k3
  go_wp2_with fail
  refine (kindNamed_any _ _).mono ?_
  rintro e w3' ⟨rfl, rfl⟩
  go_wp2_with fail
  refine (placeNamed_any _ _ W3).mono ?_
  rintro e w4 ⟨rfl, k4⟩
  have R4 := R3.keep k4
  have W4 := W3.keep k4
  clear R3 W3 k4
  go_wp2_with fail
  refine (numberNamed_any _ _ b4 W4).mono ?_
  rintro e w5 ⟨rfl, k5⟩
  have R5 := R4.keep k5
  have W5 := W4.keep k5
  clear R4 W4 k5
  go_wp2_with fail
  refine (numberNamed_any _ _ b2 W5).mono ?_
  rintro e w6 ⟨rfl, k6⟩
  have R6 := R5.keep k6
  clear R5 W5 k6
  obtain ⟨r0, r1, r2, r3⟩ := R6.cells
  have g0 := R6.free 0
  have g1 := R6.free 1
  have g2 := R6.free 2
  have g3 := R6.free 3
  go_wp2
  have hZ := (((R6.set0 (gIk l)).set1 (gIp l)).set2 (gIv l)).set3 (gIg l)
  refine bodyPost_ret (results_row (by rfl) _ _ w.heap.size _ _ (0, 0) _ rfl hZ.1 Tryz.underlying53 rfl (by kernel_rfl)) rfl ?_
  exact ⟨rfl, hZ.keep1⟩
end Go.Proofs.YtljamlgnobpjeaaGreatDoor
