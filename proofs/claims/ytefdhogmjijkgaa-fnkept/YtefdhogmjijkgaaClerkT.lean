/- Contract of the program's areTogether: no Group begins a second time. -/
import Derived.Test.YtefdhogmjijkgaaClerkA
import Derived.Deep.RegionHeld3
import Derived.Deep.QuietTactic
import Derived.BigQuiet
namespace Go.Proofs.Ytefdhogmjijkgaa
open Go.ChangeShapes Go.WideShapes Go.ChangeAt Go.RowKit

abbrev boxD (x0 x1 x2 x3 : Int) : Obj := .cells #[.int .i64 x0, .int .i64 x1, .int .i64 x2, .int .i64 x3] 54
theorem RdD.cut {w : World} {b o : Nat} {ds : List Dd} {c k : Nat} (hk : k ≤ ds.length) (hb : b < w.heap.size) (hc : ∀ i, i < ds.length → AtD w b (o + i * 4) (ds.getD i zD)) :
    RdD w (.slice (some ⟨b, o, none⟩) k (ds.length + c)) (ds.take k) := by
  refine ⟨some ⟨b, o, none⟩, ds.length + c - k, ?_, .inr ⟨b, o, rfl, hb, fun i hi => ?_⟩⟩
  · rw [List.length_take, Nat.min_eq_left hk]
    congr 1
    omega
  · rw [List.length_take] at hi
    rw [take_getD ds k i zD (by omega)]
    exact hc i (by omega)
theorem tog_on {ds : List Dd} {k : Nat} (h : togK ds k = true) (hp : partK ds k = false) : togK ds (k + 1) = true := by rw [togK, h, hp]; rfl
theorem tog_off {ds : List Dd} {k : Nat} (hk : k < ds.length) (hp : partK ds k = true) : togK ds ds.length = false := by
  refine togK_false (k := k + 1) ?_ _ hk
  rw [togK, hp]; simp
set_option maxRecDepth 100000 in
set_option maxHeartbeats 4000000 in
theorem areTogether_any (w : World) (v : Value) (ds : List Dd) (h : RdD w v ds) (hx : ds.length ≤ 1048576) :
    Calls Try.prog 97 #[v] w fun e w' => e = .returned (.bool (togK ds ds.length)) ∧ Keep w w' := by
  obtain ⟨a, c, rfl, h⟩ := h
  go_enter Try.func97, Try.ntmps97
  go_wp2
  go_loopw [3, 7] (fun j i wr => ∃ k : Nat, k ≤ ds.length ∧ i = .int .i64 k ∧ Hid (togK ds k = true) ∧ Keep w wr) (fun _ i _ => ds.length - (intOf i).toNat)
  case atStart => exact ⟨0, Nat.zero_le _, rfl, Lib.hid rfl, Keep.refl _⟩
  case round =>
    obtain ⟨k, hk, rfl, hm, hK⟩ := hrel
    by_cases hlt : k < ds.length
    · rcases h with h | ⟨b, o, rfl, hb, hc⟩
      · exfalso; rw [h] at hlt; simp at hlt
      obtain ⟨A0, A1, A2, A3⟩ := (hc k hlt).keep hb hK
      have hbw : b < wr.heap.size := Nat.lt_of_lt_of_le hb hK.size
      have i1 : (0 : Int) ≤ (k : Int) := Int.natCast_nonneg _
      have i2 : (k : Int) < (ds.length : Int) := by omega
      have HP : Hid (partK ds k = (decide (0 < k) && (grD (ds.getD k zD) != grD (ds.getD (k - 1) zD)) && inSetB (gK ds k) (grD (ds.getD k zD)))) := Lib.hid rfl
      by_cases h0 : k = 0
      · have HT := Lib.hid (tog_on hm.out (by rw [HP.out]; simp [h0]))
        have d0 : decide (0 < k) = false := by simp [h0]
        clear hm HP hc
        obtain ⟨d, hd⟩ : ∃ d, d = ds.getD k zD := ⟨_, rfl⟩
        rw [← hd] at A0 A1 A2 A3
        clear hd h0
        obtain ⟨x0, x1, x2, x3⟩ := d
        simp only at A0 A1 A2 A3
        go_wp2
        go_quiet (fail)
        go_wp2
        go_roundw
        case rel => exact ⟨k + 1, by omega, by go_num, HT, (hK.alloc _).drewN _⟩
        case measure => simp [intOf]; omega
      · obtain ⟨r, rfl⟩ : ∃ r : Nat, k = r + 1 := ⟨k - 1, by omega⟩
        rw [Nat.add_sub_cancel] at HP
        have B3 := ((hc r (by omega)).keep hb hK).2.2.2
        have RT : RdD w (.slice (some ⟨b, o, none⟩) (r + 1) (ds.length + c)) (ds.take (r + 1)) := RdD.cut (by omega) hb hc
        have HG := Lib.hid (gC_take ds (r + 1) (by omega))
        have HL := Lib.hid (show (ds.take (r + 1)).length = r + 1 by rw [List.length_take]; omega)
        clear hc
        have j1 : (0 : Int) ≤ (r : Int) := Int.natCast_nonneg _
        have j2 : (r : Int) < (ds.length : Int) := by omega
        have d2 : (r : Int) + 1 < (ds.length : Int) := by omega
        have d5 : (r : Int) + 1 ≤ (ds.length : Int) + (c : Int) := by omega
        have d6 : (0 : Int) ≤ (r : Int) + 1 := by omega
        have d7 : ((r + 1 : Nat) : Int) ≤ ((ds.length + c : Nat) : Int) := by omega
        have d3 : IntKind.i64.wrap (r : Int) = (r : Int) := by rw [IntKind.wrap_i64]; omega
        have d4 : wrap64 (r : Int) = (r : Int) := wrap64_small _ (by omega) (by omega)
        obtain ⟨d, hd⟩ : ∃ d, d = ds.getD (r + 1) zD := ⟨_, rfl⟩
        rw [← hd] at A0 A1 A2 A3 HP
        clear hd
        obtain ⟨p, hp⟩ : ∃ p, p = (ds.getD r zD).2.2.2 := ⟨_, rfl⟩
        rw [← hp] at B3
        have HQ : Hid (grD (ds.getD r zD) = p) := Lib.hid (by rw [hp]; rfl)
        clear hp
        rw [HQ.out] at HP
        clear HQ
        obtain ⟨x0, x1, x2, x3⟩ := d
        unfold grD at HP
        simp only at A0 A1 A2 A3 HP
        by_cases he : x3 = p
        · subst he
          have HT := Lib.hid (tog_on hm.out (by rw [HP.out]; simp))
          have ne : (x3 != x3) = false := by simp
          clear HP hm
          go_wp2
          go_quiet (fail)
          go_wp2
          go_roundw
          case rel => exact ⟨r + 1 + 1, by omega, by go_num, HT, (hK.alloc _).drewN _⟩
          case measure => simp [intOf]; omega
        · have ne : (x3 != p) = true := by simp [he]
          clear he
          cases hin : inSetB (gK ds (r + 1)) x3
          · have HT := Lib.hid (tog_on hm.out (by rw [HP.out, hin]; simp))
            clear HP hm
            go_wp2
            have KK : Keep w ((wr.alloc (boxD x0 x1 x2 x3)).drew) := (hK.alloc _).drew
            have z1 : wr.heap.size < ((wr.alloc (boxD x0 x1 x2 x3)).drew).heap.size := by rw [heap_drew, heap_size]; omega
            have z2 : b < ((wr.alloc (boxD x0 x1 x2 x3)).drew).heap.size := by rw [heap_drew, heap_size]; omega
            go_region_held3 (fun w' => w'.cell? ⟨wr.heap.size, 3, none⟩ = some (.int .i64 x3) ∧ w'.cell? ⟨b, o + r * 4 + 3, none⟩ = some (.int .i64 p))
              (first | go_keep | (go_split_ands; refine ⟨?_, ?_⟩ <;> (rw [kk.cell (by assumption)]; assumption)))
              ((first
                | (go_at_call 93; refine (groups_any _ _ _ (RT.keep KK) (by rw [HL.out]; omega)).mono ?_; rw [HG.out]; rintro e wz ⟨rfl, kk⟩; have KK := KK.trans kk; have z1 := Nat.lt_of_lt_of_le z1 kk.size; have z2 := Nat.lt_of_lt_of_le z2 kk.size)
                | (go_at_call 45; refine (has_any _ _ _).mono ?_; rintro e wy ⟨rfl, rfl⟩)))
            all_goals
              go_wp2
              go_roundw
              case rel => exact ⟨r + 1 + 1, by omega, by go_num, HT, KK⟩
              case measure => simp [intOf]; omega
          · have HT := Lib.hid (tog_off hlt (by rw [HP.out, hin, ne]; simp))
            clear HP hm
            go_wp2
            have KK : Keep w ((wr.alloc (boxD x0 x1 x2 x3)).drew) := (hK.alloc _).drew
            have z1 : wr.heap.size < ((wr.alloc (boxD x0 x1 x2 x3)).drew).heap.size := by rw [heap_drew, heap_size]; omega
            have z2 : b < ((wr.alloc (boxD x0 x1 x2 x3)).drew).heap.size := by rw [heap_drew, heap_size]; omega
            go_region_held3 (fun w' => w'.cell? ⟨wr.heap.size, 3, none⟩ = some (.int .i64 x3) ∧ w'.cell? ⟨b, o + r * 4 + 3, none⟩ = some (.int .i64 p))
              (first | go_keep | (go_split_ands; refine ⟨?_, ?_⟩ <;> (rw [kk.cell (by assumption)]; assumption)))
              ((first
                | (go_at_call 93; refine (groups_any _ _ _ (RT.keep KK) (by rw [HL.out]; omega)).mono ?_; rw [HG.out]; rintro e wz ⟨rfl, kk⟩; have KK := KK.trans kk; have z1 := Nat.lt_of_lt_of_le z1 kk.size; have z2 := Nat.lt_of_lt_of_le z2 kk.size)
                | (go_at_call 45; refine (has_any _ _ _).mono ?_; rintro e wy ⟨rfl, rfl⟩)))
            all_goals
              go_wp2
              go_ret
              exact ⟨by rw [HT.out]; rfl, KK⟩
    · obtain rfl : k = ds.length := by omega
      go_wp2
      go_ret
      exact ⟨by rw [hm.out]; rfl, hK⟩
end Go.Proofs.Ytefdhogmjijkgaa
