/- Contracts of the program's lines of a work: one helper that takes any number of tests. -/
import Derived.Test.YtefdhogmjijkgaaPassI
import Derived.Test.YtefdhogmjijkgaaBlank
import Derived.Test.YtefdhogmjijkgaaLineI
import Derived.Test.YtefdhogmjijkgaaEvOfI
import Derived.Test.YtefdhogmjijkgaaEvLen2
namespace Go.Proofs.Ytefdhogmjijkgaa
open Go.ChangeShapes Go.WideShapes Go.ChangeAt Go.RowKit

theorem cell_blk {w w' : World} {b : Nat} (h : w'.heap[b]? = w.heap[b]?) (o : Nat) : w'.cell? ⟨b, o, none⟩ = w.cell? ⟨b, o, none⟩ := by simp only [World.cell?, h]
theorem grown_row {w w' : World} (h : w.grownBy w' none) (row : Option Nat) : w.grownBy w' row := ⟨h.os, h.tape, h.output, h.size, fun k hk _ => h.block k hk (by simp)⟩
abbrev tQ (T : Ev → Ev → Bool) (es : List Ev) (i j : Nat) : Bool := isbE (es.getD i zE) (es.getD j zE) && T (es.getD i zE) (es.getD j zE)
set_option maxRecDepth 100000 in
set_option maxHeartbeats 4000000 in
theorem linesOf_any (w : World) (v t : Value) (dss : List (List Dd)) (T : Ev → Ev → Bool) (h : RdW w v dss) (hx : dss.length ≤ 1048576) (hm : ∀ i, i < dss.length → (dss.getD i []).length ≤ 1048576)
    (HP : ∀ i j : Nat, i < j → j < (eventsB dss).length → ∀ (x0 x1 : Int) (x2 : Bool) (x3 x4 x5 y0 y1 : Int) (y2 : Bool) (y3 y4 y5 : Int), (eventsB dss).getD i zE = (x0, x1, x2, x3, x4, x5) → (eventsB dss).getD j zE = (y0, y1, y2, y3, y4, y5) →
      isbE (x0, x1, x2, x3, x4, x5) (y0, y1, y2, y3, y4, y5) = true → ∀ w1 : World, Keep w w1 → Calls Try.prog 55 #[eA x0 x1 x2 x3 x4 x5, eA y0 y1 y2 y3 y4 y5, t] w1 fun e w' => e = .returned (.bool (T (x0, x1, x2, x3, x4, x5) (y0, y1, y2, y3, y4, y5))) ∧ Keep w1 w') :
    Calls Try.prog 31 #[v, t] w fun e w' => ∃ v', e = .returned v' ∧ Row w' w.heap.size v' (colAll (tQ T (eventsB dss)) (eventsB dss).length (eventsB dss).length) ∧ Keep w w' := by
  have L9 := eventsB_len9 dss
  have CE := implEventsOf_any w v dss h hx hm
  clear h hx hm
  generalize eventsB dss = es at L9 HP CE ⊢
  go_enter Try.func31, Try.ntmps31
  go_wp2_with fail
  refine CE.mono ?_
  rintro e w1 ⟨v1, rfl, a1, k1⟩
  have r1 := a1.rd
  clear a1 CE
  obtain ⟨a, c, rfl, r1⟩ := r1
  have s1 := k1.size
  go_wp2_with fail
  refine (blank_any _ es.length (by omega)).mono ?_
  rintro e w2 ⟨rfl, hR, k2⟩
  have K2 := k1.trans k2
  go_wp2
  go_loopw [18] (fun s wr => ∃ j : Nat, j ≤ es.length ∧ s = .int .i64 j ∧ RowAt wr w1.heap.size (colAll (tQ T es) es.length j) ∧ Keep w1 wr) (fun s _ => es.length - (intOf s).toNat)
  case atStart => exact ⟨0, Nat.zero_le _, rfl, hR, k2⟩
  case round =>
    obtain ⟨j, hj, rfl, hr, hK⟩ := hrel
    clear hR k2 K2
    by_cases hlt : j < es.length
    · rcases r1 with h | ⟨b, off, rfl, hb, hc⟩
      · exfalso; rw [h] at hlt; simp at hlt
      have AJ := (hc j _ (evs_get hlt)).keep hb hK
      have hbw : b < wr.heap.size := Nat.lt_of_lt_of_le hb hK.size
      have HW := Lib.hid (web_colAll (q := tQ T es) (show es.length ≤ 12 by omega) j (by omega)).1
      have HE : Hid (colIn (tQ T es) j (colAll (tQ T es) es.length j) j = colAll (tQ T es) es.length (j + 1)) := Lib.hid rfl
      generalize colAll (tQ T es) es.length j = S0 at *
      obtain ⟨y, hy⟩ : ∃ y, y = es.getD j zE := ⟨_, rfl⟩
      rw [← hy] at AJ
      obtain ⟨y0, y1, y2, y3, y4, y5⟩ := y
      obtain ⟨B0, B1, B2, B3, B4, B5⟩ := atE AJ
      clear AJ
      have i1 : (0 : Int) ≤ (j : Int) := Int.natCast_nonneg _
      have i2 : (j : Int) < (es.length : Int) := by omega
      have i3 : (j : Int) ≤ (es.length : Int) := by omega
      have i4 : (j : Int) ≤ (es.length : Int) + (c : Int) := by omega
      go_wp2
      have i5 : (j : Int) ≤ 9 := by omega
      obtain ⟨wo, rfl⟩ : ∃ wo : World, wo = wr := ⟨_, rfl⟩
      clear B0 B1 B2 B3 B4 B5
      have swo := hK.size
      go_loopw [27] (fun s wr => ∃ i : Nat, i ≤ j ∧ s = .int .i64 i ∧ RowAt wr w1.heap.size (colIn (tQ T es) j S0 i) ∧ (wo.alloc (.cells #[.int .i64 y0, .int .i64 y1, .bool y2, .int .i64 y3, .int .i64 y4, .int .i64 y5] 36)).grownBy wr (some w1.heap.size)) (fun s _ => j - (intOf s).toNat)
      case atStart => exact ⟨0, Nat.zero_le _, rfl, hr.keep ((Keep.refl wo).alloc _), grown_row (Keep.refl _).grownBy _⟩
      case round =>
        have hG := hr.lt
        clear hr
        obtain ⟨i, hi, rfl, hr, hg⟩ := hrel
        have hK' : Keep w1 wr := (hK.alloc _).grown hg (fun k hk => by simp at hk; omega)
        have sz := hg.size
        rw [heap_size] at sz
        by_cases hil : i < j
        · have AI := (hc i _ (evs_get (show i < es.length by omega))).keep hb hK'
          have hbr : b < wr.heap.size := by omega
          have C := fun m => (cell_blk (hg.block wo.heap.size (by rw [heap_size]; omega) (by simp; omega)) m).trans (box_cell (Keep.refl _) m)
          have c0 := C 0
          have c1 := C 1
          have c2 := C 2
          have c3 := C 3
          have c4 := C 4
          have c5 := C 5
          clear C
          simp at c0 c1 c2 c3 c4 c5
          obtain ⟨x, hx⟩ : ∃ x, x = es.getD i zE := ⟨_, rfl⟩
          rw [← hx] at AI
          obtain ⟨x0, x1, x2, x3, x4, x5⟩ := x
          obtain ⟨A0, A1, A2, A3, A4, A5⟩ := atE AI
          clear AI
          have hq : tQ T es i j = (isbE (x0, x1, x2, x3, x4, x5) (y0, y1, y2, y3, y4, y5) && T (x0, x1, x2, x3, x4, x5) (y0, y1, y2, y3, y4, y5)) := by show (_ && _) = _; rw [← hx, ← hy]
          have HM : (isbE (x0, x1, x2, x3, x4, x5) (y0, y1, y2, y3, y4, y5) && T (x0, x1, x2, x3, x4, x5) (y0, y1, y2, y3, y4, y5)) = false → Hid (colIn (tQ T es) j S0 (i + 1) = colIn (tQ T es) j S0 i) := fun hf => Lib.hid (colIn_miss S0 (hq.trans hf))
          have HH : (isbE (x0, x1, x2, x3, x4, x5) (y0, y1, y2, y3, y4, y5) && T (x0, x1, x2, x3, x4, x5) (y0, y1, y2, y3, y4, y5)) = true → Hid (colIn (tQ T es) j S0 (i + 1) = (colIn (tQ T es) j S0 i).set i (gAdd ((colIn (tQ T es) j S0 i).getD i 0) j)) := fun hf => Lib.hid (colIn_hit S0 (hq.trans hf))
          have HLn := (web_colIn (q := tQ T es) hlt HW.out i (by omega)).1.2.1
          have CP := HP i j hil hlt x0 x1 x2 x3 x4 x5 y0 y1 y2 y3 y4 y5 hx.symm hy.symm
          clear hq hx HP hc
          have kw : Keep w wr := k1.trans hK'
          have CI := isBehind_any (wr.alloc (.cells #[.int .i64 x0, .int .i64 x1, .bool x2, .int .i64 x3, .int .i64 x4, .int .i64 x5] 36)) x0 x1 x2 x3 x4 x5 y0 y1 y2 y3 y4 y5
          generalize isbE (x0, x1, x2, x3, x4, x5) (y0, y1, y2, y3, y4, y5) = I at CI CP HM HH
          generalize T (x0, x1, x2, x3, x4, x5) (y0, y1, y2, y3, y4, y5) = TT at CP HM HH
          generalize colIn (tQ T es) j S0 i = S at hr HM HH HLn
          have n1 : (0 : Int) ≤ (i : Int) := Int.natCast_nonneg _
          have n2 : (i : Int) < (j : Int) := by omega
          have hwo : wo.heap.size < wr.heap.size := by omega
          go_wp2_with fail
          refine CI.mono ?_
          rintro e w5 ⟨rfl, k5⟩
          have R5 := (hr.keep ((Keep.refl wr).alloc _)).keep k5
          have g5 := grown_trans hg (grown_row (((Keep.refl wr).alloc _).trans k5).grownBy (some w1.heap.size))
          cases I
          · have HE1 := HM rfl
            clear HM HH
            go_wp2
            go_roundw
            case rel => exact ⟨i + 1, by omega, by go_num, by rw [HE1.out]; exact R5, g5⟩
            case measure => simp [intOf]; omega
          · have F := fun m => box_cell k5 m
            have f0 := F 0
            have f1 := F 1
            have f2 := F 2
            have f3 := F 3
            have f4 := F 4
            have f5 := F 5
            clear F
            simp at f0 f1 f2 f3 f4 f5
            have kq : Keep wr w5 := ((Keep.refl wr).alloc _).trans k5
            have t0 := (kq.cell hwo (o := 0)).trans c0
            have t1 := (kq.cell hwo (o := 1)).trans c1
            have t2 := (kq.cell hwo (o := 2)).trans c2
            have t3 := (kq.cell hwo (o := 3)).trans c3
            have t4 := (kq.cell hwo (o := 4)).trans c4
            have t5 := (kq.cell hwo (o := 5)).trans c5
            clear c0 c1 c2 c3 c4 c5 A0 A1 A2 A3 A4 A5
            go_wp2_with fail
            refine (CP trivial _ (kw.trans kq)).mono ?_
            rintro e w6 ⟨rfl, k6⟩
            have R6 := R5.keep k6
            have g6 := grown_trans g5 (grown_row k6.grownBy (some w1.heap.size))
            clear f0 f1 f2 f3 f4 f5 t0 t1 t2 t3 t4 t5 R5 g5
            cases TT
            · have HE1 := HM rfl
              clear HM HH
              go_wp2
              go_roundw
              case rel => exact ⟨i + 1, by omega, by go_num, by rw [HE1.out]; exact R6, g6⟩
              case measure => simp [intOf]; omega
            · have HE1 := HH rfl
              clear HM HH
              go_wp2_with fail
              refine (line_any w6 w1.heap.size es.length es.length S i j R6 HLn (by omega)).mono ?_
              rintro e w7 ⟨rfl, R7, g7⟩
              go_wp2
              go_roundw
              case rel => exact ⟨i + 1, by omega, by go_num, by rw [HE1.out]; exact R7, grown_trans g6 g7⟩
              case measure => simp [intOf]; omega
        · obtain rfl : i = j := by omega
          go_wp2
          go_roundw
          case rel => exact ⟨i + 1, by omega, by go_num, by rw [← HE.out]; exact hr, (hK.alloc _).grown hg (fun k hk => by simp at hk; omega)⟩
          case measure => simp [intOf]; omega
    · obtain rfl : j = es.length := by omega
      have HL := (web_colAll (q := tQ T es) (show es.length ≤ 12 by omega) es.length (Nat.le_refl _)).1.2.1
      go_wp2
      go_ret
      exact ⟨_, rfl, row_new hr (by omega) HL, k1.trans hK⟩
end Go.Proofs.Ytefdhogmjijkgaa
