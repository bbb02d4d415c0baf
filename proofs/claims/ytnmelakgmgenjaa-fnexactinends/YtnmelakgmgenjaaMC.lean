/- Gathered texts. -/
import Derived.Test.YtnmelakgmgenjaaMA
import Derived.Outline
import Derived.RegionTactic
import Derived.Deep.QuietTactic
import Derived.BigQuiet
import Derived.Laws.OwnMore
import Derived.OwnWalk
import Derived.Lib.Hide
import Derived.Deep.Cut
import Derived.Deep.RegionHeld3
set_option maxRecDepth 100000
set_option maxHeartbeats 8000000
namespace Go.Proofs.Ytnmelakgmgenjaa
open Go.ChangeShapes Go.WideShapes Go.ChangeAt Go.RowKit
theorem made_ints (n : Nat) : (madeCells (Value.int .i64 0).cells (n * 1)).toList = ((List.replicate n (0 : Int)).map (Value.int .i64)) := by
  rw [Nat.mul_one, List.map_replicate]
  exact toList_madeCells_one _ _
theorem set_copied (zs : List Int) (j : Nat) (hj : j < zs.length) :
    ((zs.take j ++ List.replicate (zs.length - j) 0).map (Value.int .i64)).set j (.int .i64 (zs.getD j 0)) = (zs.take (j + 1) ++ List.replicate (zs.length - (j + 1)) 0).map (Value.int .i64) := by
  have e : (zs.take j ++ List.replicate (zs.length - j) 0).set j (zs.getD j 0) = zs.take (j + 1) ++ List.replicate (zs.length - (j + 1)) 0 := by
    have hl : (zs.take j).length = j := by rw [List.length_take]; omega
    rw [List.set_append_right _ _ (by rw [hl]; exact Nat.le_refl _), hl, Nat.sub_self, show zs.length - j = (zs.length - (j + 1)) + 1 from by omega, List.replicate_succ, List.set_cons_zero, take_snoc zs j hj, List.append_assoc]
    rfl
  rw [← e, List.map_set]
theorem copied_len (zs : List Int) (j : Nat) (hj : j ≤ zs.length) : (zs.take j ++ List.replicate (zs.length - j) (0 : Int)).length = zs.length := by
  rw [List.length_append, List.length_take, List.length_replicate]; omega
theorem to_any (w : World) (v : Value) (zs : List Int) (h : Rd w v zs) (hn : zs.length ≤ 1048576) :
    Calls Try.prog 7 #[v] w fun e w' => ∃ v', e = .returned v' ∧ Own w' w.heap.size v' zs ∧ Keep w w' := by
  obtain ⟨a, c, rfl, h⟩ := h
  obtain ⟨i0, hi, hz0, hz1, hz2⟩ := info_parts Try.infoI
  go_enter Try.func7, Try.ntmps7
  go_wp2_with (at_make; refine wpList_make_full _ rfl _ _ 23 rfl w.heap.size 2 i0 (.int .i64 0) 1 Try.underlying23 hi hz0 hz1 .i64 .i64 _ _ zs.length rfl rfl rfl rfl (by rw [hz2]; omega) (by unfold maxLen; omega) (Nat.le_refl _) ?_; intro w1 hown hgrow)
  rw [made_ints] at hown
  have hk1 : Keep w w1 := (Keep.refl w).grown hgrow (by simp)
  clear hgrow
  go_loopw [4] (fun i wr => ∃ j : Nat, j ≤ zs.length ∧ i = .int .i64 j ∧ wr.ownsRow w.heap.size 2 1 (.slice (some ⟨w.heap.size, 0, none⟩) zs.length zs.length) zs.length ((zs.take j ++ List.replicate (zs.length - j) 0).map (Value.int .i64)) ∧ Keep w wr) (fun i _ => zs.length - (intOf i).toNat)
  case atStart => exact ⟨0, Nat.zero_le _, rfl, by simpa using hown, hk1⟩
  case round =>
    obtain ⟨j, hj, rfl, ho, hK⟩ := hrel
    by_cases hlt : j < zs.length
    · rcases h with h | ⟨b, o, rfl, hb, hc⟩
      · exfalso; rw [h] at hlt; simp at hlt
      have d0 := (hK.cell hb).trans (hc j hlt)
      have d1 := World.ownsRow.cellAt ho j (by omega)
      have d2 := World.ownsRow.frozenAt ho j
      have hs := World.ownsRow.stored ho j (.int .i64 (zs.getD j 0))
      rw [set_copied zs j hlt] at hs
      obtain ⟨u, hu⟩ : ∃ u, ((zs.take j ++ List.replicate (zs.length - j) 0).map (Value.int .i64))[j]? = some u := ⟨_, List.getElem?_eq_getElem (by rw [List.length_map, copied_len zs j hj]; exact hlt)⟩
      rw [hu] at d1
      obtain ⟨p, hp⟩ : ∃ p, p = zs.getD j 0 := ⟨_, rfl⟩
      rw [← hp] at d0 hs
      clear hu hc hp hown hk1
      go_wp2
      go_roundw
      case rel => exact ⟨j + 1, by omega, by go_num, hs.1, hK.grown hs.2 (by simp)⟩
      case measure => simp [intOf]; omega
    · have : j = zs.length := by omega
      subst this
      go_wp2
      go_ret
      refine ⟨_, rfl, ?_, hK⟩
      unfold Own
      simpa using ho
theorem toII_own (w : World) (v : Value) (xss : List (List Int)) (h : RdL w v xss) (hn : xss.length ≤ 1048576) (hm : ∀ i, i < xss.length → (xss.getD i []).length ≤ 1048576) :
    Calls Try.prog 6 #[v] w fun e w' => ∃ v' hs, e = .returned v' ∧ OwnLL 23 ivR w' w.heap.size v' hs xss ∧ Keep w w' := by
  obtain ⟨a, c, rfl, h⟩ := h
  obtain ⟨i0, hi, hz0, hz1, hz2⟩ := info_parts Try.infoIl
  go_enter Try.func6, Try.ntmps6
  go_wp2_with (at_make; refine wpList_make_full _ rfl _ _ 22 rfl w.heap.size 23 i0 (.slice none 0 0) 1 Try.underlying22 hi hz0 hz1 .i64 .i64 _ _ xss.length rfl rfl rfl rfl (by rw [hz2]; omega) (by unfold maxLen; omega) (Nat.le_refl _) ?_; intro w1 hown hgrow)
  have hk1 : Keep w w1 := (Keep.refl w).grown hgrow (by simp)
  rw [Nat.mul_one, show (Value.slice none 0 0).cells = #[.slice none 0 0] from rfl, toList_madeCells_one] at hown
  have B1 : LLP 23 ivR w1 w.heap.size (.slice (some ⟨w.heap.size, 0, none⟩) xss.length xss.length) (List.replicate xss.length nilS) xss 0 := LLP.new (by show w1.ownsRow _ _ _ _ _ _; simpa using hown) (fun _ _ => rfl)
  clear hown hgrow hi hz0 hz1 hz2
  go_loopw [4] (fun i wr => ∃ (j : Nat) (hs : List Value), j ≤ xss.length ∧ i = .int .i64 j ∧ LLP 23 ivR wr w.heap.size (.slice (some ⟨w.heap.size, 0, none⟩) xss.length xss.length) hs xss j ∧ Keep w wr) (fun i _ => xss.length - (intOf i).toNat)
  case atStart => exact ⟨0, _, Nat.zero_le _, rfl, B1, hk1⟩
  case round =>
    obtain ⟨j, hs, hj, rfl, hB, hK⟩ := hrel
    clear B1 hk1
    by_cases hlt : j < xss.length
    · rcases h with h | ⟨b, o, rfl, hb, hc⟩
      · exfalso; rw [h] at hlt; simp at hlt
      obtain ⟨u, e0, r0⟩ := hc j hlt
      have e1 := (hK.cell hb).trans e0
      have r1 := r0.keep hK
      have hbs : b < wr.heap.size := Nat.lt_of_lt_of_le hb hK.size
      have hmj := hm j hlt
      have hsz := hK.size
      clear hc e0 r0
      go_wp2_with fail
      refine (to_any _ _ _ r1 hmj).mono ?_
      rintro e w2 ⟨v', rfl, o2, k2⟩
      have o3 : (ivR (xss.getD j []) v').own w2 w.heap.size := own_base o2 hsz
      obtain ⟨Q1, Q2, Q3, Q4, Q5⟩ := hB.step hlt k2 o3 (fun q hq => (World.ownsRow.lt o2 q hq).1) (g := w.heap.size) (cap := xss.length) (by rw [hB.len])
      have K3 := (hK.trans k2).grown Q4 (fun q hq => by have := Option.some.inj hq; omega)
      have HQ := Lib.hid Q1
      have HK := Lib.hid K3
      obtain ⟨a', c', hv'⟩ : ∃ a' c', v' = .slice a' (xss.getD j []).length c' := by
        rcases o2.2 with ⟨e, hn'⟩ | ⟨g, cap, cur, e, _⟩
        · exact ⟨none, 0, by rw [show (xss.getD j []).length = 0 from hn']; exact e⟩
        · exact ⟨_, _, e⟩
      generalize hlen' : (xss.getD j []).length = len' at hv'
      clear hlen' Q1 K3 o3 o2
      subst hv'
      go_wp2
      go_roundw
      case rel => exact ⟨j + 1, _, by omega, by go_num, HQ.out, HK.out⟩
      case measure => simp [intOf]; omega
    · obtain rfl : j = xss.length := by omega
      have HB := Lib.hid hB.all
      clear hB
      go_wp2
      go_ret
      exact ⟨_, _, rfl, HB.out, hK⟩
theorem szI_any (w : World) (v : Value) (ds : List Int) (h : Rd w v ds) (left : Int) (h0 : 0 ≤ left) (h1 : left ≤ 1048576) (hn : ds.length ≤ maxLen) :
    Calls Try.prog 11 #[v, .int .i64 left] w fun e w' => e = .returned (.int .i64 (if (ds.length : Int) ≤ left then left - ds.length else -1)) ∧ w' = w := by
  obtain ⟨a, cap, rfl, _⟩ := h
  have hm : maxLen = 9223372036854775807 := rfl
  by_cases hl : (ds.length : Int) ≤ left
  · rw [if_pos hl]
    go_enter Try.func11, Try.ntmps11
    go_wp2
    go_ret
    exact ⟨rfl, rfl⟩
  · rw [if_neg hl]
    go_enter Try.func11, Try.ntmps11
    go_wp2
    go_ret
    exact ⟨rfl, rfl⟩
theorem szII_top (w : World) (v : Value) (dss : List (List Int)) (h : RdL w v dss) (left : Int) (h0 : 0 ≤ left) (h1 : left ≤ 1048576) (hn : dss.length ≤ maxLen) (hm : ∀ i, i < dss.length → (dss.getD i []).length ≤ maxLen) :
    Calls Try.prog 4 #[v, .int .i64 left] w fun e w' => ∃ r : Int, e = .returned (.int .i64 r) ∧ w' = w ∧ (r < 0 ∨ ((dss.length + lenG dss : Int) ≤ left ∧ r ≤ left)) := by
  have hM : maxLen = 9223372036854775807 := rfl
  obtain ⟨a, c, rfl, h⟩ := h
  by_cases hl : (dss.length : Int) ≤ left
  · go_enter Try.func4, Try.ntmps4
    go_wp2
    go_loop [1, 5] (fun l i => ∃ (k : Nat) (x : Int), k ≤ dss.length ∧ i = .int .i64 k ∧ l = .int .i64 x ∧ 0 ≤ x ∧ x = left - dss.length - lenG (dss.take k)) (fun _ i => dss.length - (intOf i).toNat)
    case atStart => exact ⟨0, _, Nat.zero_le _, rfl, rfl, by omega, by simp [lenG]⟩
    case round =>
      obtain ⟨k, x, hk, rfl, rfl, x0, hx⟩ := hrel
      by_cases hlt : k < dss.length
      · rcases h with h | ⟨b, o, rfl, hb, hc⟩
        · exfalso; rw [h] at hlt; simp at hlt
        obtain ⟨u, e0, r0⟩ := hc k hlt
        have HS := Lib.hid (lenG_take dss k hlt)
        have HX := Lib.hid hx
        have hmk := hm k hlt
        have hxl : x ≤ 1048576 := by omega
        clear hc hx
        by_cases hf : ((dss.getD k []).length : Int) ≤ x
        · go_wp2_with fail
          refine (szI_any _ _ _ r0 x x0 hxl hmk).mono ?_
          rw [if_pos hf]
          rintro e w' ⟨rfl, rfl⟩
          generalize hq : x - ((dss.getD k []).length : Int) = q
          have HQ := Lib.hid hq
          have hq0 : 0 ≤ q := by omega
          clear hq
          go_wp2
          go_round
          case rel => exact ⟨k + 1, q, by omega, by go_num, rfl, hq0, by have := HS.out; have := HX.out; have := HQ.out; omega⟩
          case measure => simp [intOf]; omega
        · go_wp2_with fail
          refine (szI_any _ _ _ r0 x x0 hxl hmk).mono ?_
          rw [if_neg (by omega)]
          rintro e w' ⟨rfl, rfl⟩
          go_wp2
          go_ret
          exact ⟨_, rfl, rfl, .inl (by omega)⟩
      · obtain rfl : k = dss.length := by omega
        have HX := Lib.hid hx
        clear hx
        go_wp2
        go_ret
        refine ⟨_, rfl, rfl, .inr ?_⟩
        have := HX.out
        rw [List.take_length] at this
        exact ⟨by omega, by omega⟩
  · go_enter Try.func4, Try.ntmps4
    go_wp2
    go_ret
    exact ⟨_, rfl, rfl, .inl (by omega)⟩
theorem take_eq_step {xs ys : List Int} {k : Nat} (hx : k < xs.length) (hy : k < ys.length) (h : xs.take k = ys.take k) (e : xs.getD k 0 = ys.getD k 0) : xs.take (k + 1) = ys.take (k + 1) := by
  rw [take_snoc xs k hx, take_snoc ys k hy, h, e]
theorem ne_of_getD {xs ys : List Int} {k : Nat} (h : xs.getD k 0 ≠ ys.getD k 0) : xs ≠ ys := by
  intro e; subst e; exact h rfl
theorem eq_any (w : World) (v1 v2 : Value) (xs ys : List Int) (h1 : Rd w v1 xs) (h2 : Rd w v2 ys) (hx : xs.length ≤ 1048576) :
    Calls Try.prog 10 #[v1, v2] w fun e w' => e = .returned (.bool (decide (xs = ys))) ∧ Keep w w' := by
  obtain ⟨a1, c1, rfl, h1⟩ := h1
  obtain ⟨a2, c2, rfl, h2⟩ := h2
  by_cases hl : xs.length = ys.length
  · have hlb : ((xs.length : Int) != (ys.length : Int)) = false := by simp [hl]
    have hl1 : xs.length ≤ ys.length := by omega
    have hl2 : ys.length ≤ xs.length := by omega
    clear hl
    go_enter Try.func10, Try.ntmps10
    go_wp2
    go_loopw [5] (fun i wr => ∃ k : Nat, k ≤ xs.length ∧ i = .int .i64 k ∧ xs.take k = ys.take k ∧ Keep w wr) (fun i _ => xs.length - (intOf i).toNat)
    case atStart => exact ⟨0, Nat.zero_le _, rfl, by simp, Keep.refl _⟩
    case round =>
      obtain ⟨k, hk, rfl, ht, hK⟩ := hrel
      by_cases hlt : k < xs.length
      · rcases h1 with h | ⟨b1, o1, rfl, hb1, hc1⟩
        · subst h; simp at hlt
        rcases h2 with h | ⟨b2, o2, rfl, hb2, hc2⟩
        · exfalso; rw [h] at hl1; simp only [List.length_nil] at hl1; omega
        have hy2 : k < ys.length := by omega
        have d1 := (hK.cell hb1).trans (hc1 k hlt)
        have d2 := (hK.cell hb2).trans (hc2 k hy2)
        clear hc1 hc2
        obtain ⟨p, hp⟩ : ∃ p, p = xs.getD k 0 := ⟨_, rfl⟩
        obtain ⟨q, hq⟩ : ∃ q, q = ys.getD k 0 := ⟨_, rfl⟩
        rw [← hp] at d1
        rw [← hq] at d2
        have HP : Hid (p = xs.getD k 0) := hp
        have HQ : Hid (q = ys.getD k 0) := hq
        have HT : Hid (xs.take k = ys.take k) := ht
        clear hp hq ht
        by_cases he : p = q
        · have hne : (p != q) = false := by simp [he]
          have HE : Hid (p = q) := he
          clear he
          go_wp2
          go_quiet (fail)
          go_wp2
          go_roundw
          case rel => exact ⟨k + 1, by omega, by go_num, take_eq_step hlt hy2 HT.out (by rw [← HP.out, ← HQ.out]; exact HE.out), hK.drewN _⟩
          case measure => simp [intOf]; omega
        · have hne : (p != q) = true := by simp [he]
          have HE : Hid (p ≠ q) := he
          clear he
          go_wp2
          go_quiet (fail)
          go_wp2
          go_ret
          refine ⟨ret_bool ?_, ?_⟩
          · have := ne_of_getD (xs := xs) (ys := ys) (k := k) (by rw [← HP.out, ← HQ.out]; exact HE.out)
            simp [this]
          · exact hK.drewN _
      · go_wp2
        go_ret
        refine ⟨ret_bool ?_, hK⟩
        rw [List.take_of_length_le (by omega), List.take_of_length_le (by omega)] at ht
        simp [ht]
  · have hlb : ((xs.length : Int) != (ys.length : Int)) = true := by simp; omega
    have HL : Hid (¬ xs.length = ys.length) := hl
    clear hl
    go_enter Try.func10, Try.ntmps10
    go_wp2
    go_ret
    refine ⟨ret_bool ?_, Keep.refl _⟩
    have : xs ≠ ys := fun e => HL.out (by rw [e])
    simp [this]
theorem eqI_same (w : World) (v1 v2 : Value) (xs : List Int) (h1 : Rd w v1 xs) (h2 : Rd w v2 xs) (hx : xs.length ≤ 1048576) :
    Calls Try.prog 10 #[v1, v2] w fun e w' => e = .returned (.bool true) ∧ Keep w w' := by
  have h := eq_any w v1 v2 xs xs h1 h2 hx
  rw [show decide (xs = xs) = true by simp] at h
  exact h
theorem eqII_same (w : World) (v1 v2 : Value) (xs : List (List Int)) (h1 : RdL w v1 xs) (h2 : RdL w v2 xs) (hx : xs.length ≤ 1048576) (hm : ∀ i, i < xs.length → (xs.getD i []).length ≤ 1048576) :
    Calls Try.prog 9 #[v1, v2] w fun e w' => e = .returned (.bool true) ∧ Keep w w' := by
  obtain ⟨a1, c1, rfl, h1⟩ := h1
  obtain ⟨a2, c2, rfl, h2⟩ := h2
  go_enter Try.func9, Try.ntmps9
  go_wp2
  go_loopw [5] (fun i wr => ∃ k : Nat, k ≤ xs.length ∧ i = .int .i64 k ∧ Keep w wr) (fun i _ => xs.length - (intOf i).toNat)
  case atStart => exact ⟨0, Nat.zero_le _, rfl, Keep.refl _⟩
  case round =>
    obtain ⟨k, hk, rfl, hK⟩ := hrel
    by_cases hlt : k < xs.length
    · rcases h1 with h | ⟨b1, o1, rfl, hb1, hc1⟩
      · exfalso; rw [h] at hlt; simp at hlt
      rcases h2 with h | ⟨b2, o2, rfl, hb2, hc2⟩
      · exfalso; rw [h] at hlt; simp at hlt
      obtain ⟨u1, e1, r1⟩ := hc1 k hlt
      obtain ⟨u2, e2, r2⟩ := hc2 k hlt
      have d1 := (hK.cell hb1).trans e1
      have d2 := (hK.cell hb2).trans e2
      have r1 := r1.keep hK
      have r2 := r2.keep hK
      have hmk := hm k hlt
      clear hc1 hc2 e1 e2
      generalize xs.getD k [] = p at r1 r2 hmk
      have i1 : (0 : Int) ≤ (k : Int) := Int.natCast_nonneg _
      have i2 : (k : Int) < (xs.length : Int) := by omega
      have z1 : b1 < wr.drew.heap.size := Nat.lt_of_lt_of_le hb1 hK.size
      have z2 : b2 < wr.drew.heap.size := Nat.lt_of_lt_of_le hb2 hK.size
      go_wp2_with fail
      go_region_held3 (fun w' => w'.cell? ⟨b1, o1 + k, none⟩ = some u1 ∧ w'.cell? ⟨b2, o2 + k, none⟩ = some u2)
        (first | go_keep | (go_split_ands; refine ⟨?_, ?_⟩ <;> (rw [kk.cell (by assumption)]; assumption)))
        ((go_at_call 10; refine (eqI_same _ _ _ p (r1.keep ((Keep.refl wr).drew)) (r2.keep ((Keep.refl wr).drew)) hmk).mono ?_; rintro e wz ⟨rfl, kk⟩))
      all_goals
        go_wp2
        go_roundw
        case rel => exact ⟨k + 1, by omega, by go_num, hK.drew.trans kk⟩
        case measure => simp [intOf]; omega
    · obtain rfl : k = xs.length := by omega
      go_wp2
      go_ret
      exact ⟨rfl, hK⟩
end Go.Proofs.Ytnmelakgmgenjaa
