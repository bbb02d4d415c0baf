/- Gathered texts. -/
import Derived.Test.YtnmelakgmgenjaaMA
import Derived.BigQuiet
import Derived.Outline
import Derived.Lib.Hide
set_option maxRecDepth 100000
set_option maxHeartbeats 8000000
namespace Go.Proofs.Ytnmelakgmgenjaa
open Go.ChangeShapes Go.WideShapes Go.ChangeAt Go.RowKit
theorem eq_hit {xs ys : List Int} (hl : xs.length = ys.length) (h : ∀ q, q < xs.length → xs.getD q 0 = ys.getD q 0) : xs = ys := by
  apply List.ext_getElem hl
  intro i h1 h2
  have := h i h1
  rw [List.getD_eq_getElem?_getD, List.getD_eq_getElem?_getD, List.getElem?_eq_getElem h1, List.getElem?_eq_getElem h2] at this
  exact this
theorem eqI_any (w : World) (v1 v2 : Value) (xs ys : List Int) (h1 : Rd w v1 xs) (h2 : Rd w v2 ys) (l1 : xs.length ≤ 1048576) : Calls Try.prog 15 #[v1, v2] w fun e w' => e = .returned (.bool (decide (xs = ys))) ∧ Keep w w' := by
  obtain ⟨a1, c1, rfl, h1⟩ := h1
  obtain ⟨a2, c2, rfl, h2⟩ := h2
  have X1 := Lib.hid h1
  have X2 := Lib.hid h2
  clear h1 h2
  by_cases hl : xs.length = ys.length
  · have XL := Lib.hid hl
    have hle : (xs.length : Int) = (ys.length : Int) := by omega
    rw [← hl]
    clear hl hle
    go_enter Try.func15, Try.ntmps15
    go_wp2
    go_loopw [5, 13] (fun _ i wr => ∃ k : Nat, k ≤ xs.length ∧ i = .int .i64 k ∧ Hid (∀ q, q < k → xs.getD q 0 = ys.getD q 0) ∧ Keep w wr) (fun _ i _ => xs.length - (intOf i).toNat)
    case atStart => exact ⟨0, Nat.zero_le _, rfl, Lib.hid (fun q hq => absurd hq (Nat.not_lt_zero _)), Keep.refl _⟩
    case round =>
      obtain ⟨k, hk, rfl, hq, hK⟩ := hrel
      by_cases hlt : k < xs.length
      · have hlt2 : k < ys.length := by have := XL.out; omega
        rcases X1.out with q | ⟨b1, o1, rfl, hb1, d1⟩
        · exfalso; rw [q] at hlt; simp at hlt
        rcases X2.out with q | ⟨b2, o2, rfl, hb2, d2⟩
        · exfalso; rw [q] at hlt2; simp at hlt2
        have e1 := (hK.cell hb1).trans (d1 k hlt)
        have e2 := (hK.cell hb2).trans (d2 k hlt2)
        have i1 : (0 : Int) ≤ (k : Int) := Int.natCast_nonneg _
        have i2 : (k : Int) < (xs.length : Int) := by omega
        have XK := Lib.hid hK
        clear d1 d2 hlt2 hK
        obtain ⟨x, hx⟩ : ∃ x, x = xs.getD k 0 := ⟨_, rfl⟩
        obtain ⟨y, hy⟩ : ∃ y, y = ys.getD k 0 := ⟨_, rfl⟩
        rw [← hx] at e1
        rw [← hy] at e2
        have XX := Lib.hid hx
        have XY := Lib.hid hy
        clear hx hy
        by_cases e : x = y
        · subst e
          go_wp2
          go_quiet (fail)
          go_wp2
          go_roundw
          case rel =>
            refine ⟨k + 1, by omega, by go_num, Lib.hid (fun q hq' => ?_), XK.out.trans ((Keep.refl wr).drewN _)⟩
            by_cases e : q = k
            · rw [e, ← XX.out, ← XY.out]
            · exact hq.out q (by omega)
          case measure => simp [intOf]; omega
        · have XN : Hid (decide (xs = ys) = false) := Lib.hid (by
            rw [decide_eq_false_iff_not]
            intro h
            apply e
            rw [XX.out, XY.out, h])
          go_wp2
          go_quiet (fail)
          go_wp2
          go_ret
          exact ⟨by rw [XN.out]; rfl, XK.out.trans ((Keep.refl wr).drewN _)⟩
      · obtain rfl : k = xs.length := by omega
        have XN : Hid (decide (xs = ys) = true) := Lib.hid (by rw [decide_eq_true_eq]; exact eq_hit XL.out hq.out)
        go_wp2
        go_ret
        exact ⟨by rw [XN.out]; rfl, hK⟩
  · have XN : Hid (decide (xs = ys) = false) := Lib.hid (by
      rw [decide_eq_false_iff_not]
      intro h
      apply hl
      rw [h])
    have hne : ¬ (xs.length : Int) = (ys.length : Int) := by omega
    go_enter Try.func15, Try.ntmps15
    go_wp2
    go_ret
    exact ⟨by rw [XN.out]; rfl, Keep.refl _⟩
theorem isOne_any (w : World) (v vo : Value) (xs x : List Int) (h : Rd w v xs) (ho : Rd w vo x) (l : xs.length ≤ 1048576) (B : Nat) (hB : w.cell? ⟨B, 0, none⟩ = some vo) : Calls Try.prog 14 #[v, .pointer (some ⟨B, 0, none⟩)] w fun e w' => e = .returned (.bool (decide (xs = x))) ∧ Keep w w' := by
  have C := eqI_any w v vo xs x h ho l
  obtain ⟨a1, c1, rfl, -⟩ := h
  obtain ⟨a2, c2, rfl, -⟩ := ho
  generalize decide (xs = x) = t at C
  go_enter Try.func14, Try.ntmps14
  go_wp2_with fail
  refine C.mono ?_
  rintro e w1 ⟨rfl, k⟩
  clear C
  go_wp2
  go_ret
  exact ⟨rfl, k⟩
theorem idxOne_any (w : World) (v vo : Value) (zss : List (List Int)) (x : List Int) (h : RdL w v zss) (hx : Rd w vo x) (hl : zss.length ≤ 1099511627776) (hm : ∀ i, i < zss.length → (zss.getD i []).length ≤ 1048576) (B : Nat) (hBl : B < w.heap.size) (hB : w.cell? ⟨B, 0, none⟩ = some vo) :
    Calls Try.prog 16 #[v, .func (Fn.func 14) #[] #[.pointer (some ⟨B, 0, none⟩)]] w fun e w' => (∃ n : Int, e = .returned (.int .i64 n) ∧ decide (0 ≤ n) = inLL zss x) ∧ Keep w w' := by
  obtain ⟨a, c, rfl, h⟩ := h
  have XM := Lib.hid hm
  have XX := Lib.hid hx
  have XB := Lib.hid hB
  clear hm hx hB
  go_enter Try.func16, Try.ntmps16
  go_wp2
  go_loopw [5, 8] (fun _ i wr => ∃ k : Nat, k ≤ zss.length ∧ i = .int .i64 k ∧ Hid (∀ q, q < k → zss.getD q [] ≠ x) ∧ Keep w wr) (fun _ i _ => zss.length - (intOf i).toNat)
  case atStart => exact ⟨0, Nat.zero_le _, rfl, Lib.hid (fun q hq => absurd hq (Nat.not_lt_zero _)), Keep.refl _⟩
  case round =>
    obtain ⟨k, hk, rfl, hno, hK⟩ := hrel
    have i1 : (0 : Int) ≤ (k : Int) := Int.natCast_nonneg _
    by_cases hlt : k < zss.length
    · rcases h with h | ⟨b, o, rfl, hb, hc⟩
      · exfalso; rw [h] at hlt; simp at hlt
      obtain ⟨vi, d1, rd⟩ := hc k hlt
      have d1 := (hK.cell hb).trans d1
      have CS := isOne_any wr vi vo _ x (rd.keep hK) (XX.out.keep hK) (XM.out k hlt) B ((hK.cell hBl).trans XB.out)
      have i2 : (k : Int) < (zss.length : Int) := by omega
      obtain ⟨ai, ci, rfl, -⟩ := id rd
      have XK := Lib.hid hK
      clear hc rd hK
      by_cases he : zss.getD k [] = x
      · have HE := Lib.hid (inLL_hit hlt he)
        rw [decide_eq_true he] at CS
        generalize (zss.getD k []).length = m at d1 CS
        clear he
        go_wp2_with fail
        refine CS.mono ?_
        rintro e wz ⟨rfl, kk⟩
        clear CS
        go_wp2
        go_ret
        exact ⟨⟨(k : Int), rfl, by rw [HE.out]; exact decide_eq_true i1⟩, XK.out.trans kk⟩
      · have HE := Lib.hid he
        rw [decide_eq_false he] at CS
        generalize (zss.getD k []).length = m at d1 CS
        clear he
        go_wp2_with fail
        refine CS.mono ?_
        rintro e wz ⟨rfl, kk⟩
        clear CS
        go_wp2
        go_roundw
        case rel =>
          refine ⟨k + 1, by omega, by go_num, Lib.hid (fun q hq => ?_), XK.out.trans kk⟩
          by_cases e : q = k
          · rw [e]; exact HE.out
          · exact hno.out q (by omega)
        case measure => simp [intOf]; omega
    · obtain rfl : k = zss.length := by omega
      have HE := Lib.hid (inLL_none hno.out)
      go_wp2
      go_ret
      exact ⟨⟨-1, rfl, by rw [HE.out]; rfl⟩, hK⟩
theorem hasOne_any (w : World) (v vo : Value) (zss : List (List Int)) (x : List Int) (h : RdL w v zss) (hx : Rd w vo x) (hl : zss.length ≤ 1099511627776) (hm : ∀ i, i < zss.length → (zss.getD i []).length ≤ 1048576) (B : Nat) (hBl : B < w.heap.size) (hB : w.cell? ⟨B, 0, none⟩ = some vo) :
    Calls Try.prog 13 #[v, .func (Fn.func 14) #[] #[.pointer (some ⟨B, 0, none⟩)]] w fun e w' => e = .returned (.bool (inLL zss x)) ∧ Keep w w' := by
  have C := idxOne_any w v vo zss x h hx hl hm B hBl hB
  obtain ⟨a, c, rfl, -⟩ := h
  clear hm hx hB
  generalize inLL zss x = t at C
  go_enter Try.func13, Try.ntmps13
  go_wp2_with fail
  refine C.mono ?_
  rintro e w1 ⟨⟨n, rfl, hn⟩, k⟩
  have XN := Lib.hid hn
  clear C hn
  go_wp2
  go_ret
  exact ⟨by rw [← XN.out]; rfl, k⟩
theorem implInEnds_any (w : World) (v vo : Value) (zss : List (List Int)) (x : List Int) (h : RdL w v zss) (hx : Rd w vo x) (hl : zss.length ≤ 1099511627776) (hm : ∀ i, i < zss.length → (zss.getD i []).length ≤ 1048576) :
    Calls Try.prog 8 #[v, vo] w fun e w' => e = .returned (.bool (inLL zss x)) ∧ Keep w w' := by
  have hmf : ∀ (fn : Fn) (first cap : Array Value) (w : World), (Instr.makeFunc fn first cap).run Try.prog w = .ok (.func fn first cap) w := fun _ _ _ _ => rfl
  have K1 : Keep w (w.alloc (.cells #[vo] 23)) := (Keep.refl w).alloc _
  have C := hasOne_any (w.alloc (.cells #[vo] 23)) v vo zss x (h.keep K1) (hx.keep K1) hl hm w.heap.size (by rw [heap_size]; omega) (by rw [cell_of_row _ _ 0 _ _ _ (heap_alloc_new w _)]; rfl)
  obtain ⟨a, c, rfl, -⟩ := h
  obtain ⟨ao, co, rfl, -⟩ := hx
  clear hm
  generalize inLL zss x = t at C
  go_enter Try.func8, Try.ntmps8
  go_wp2_with fail
  refine C.mono ?_
  rintro e w1 ⟨rfl, k⟩
  have XK := Lib.hid (K1.trans k)
  clear C K1 k
  go_wp2
  go_ret
  exact ⟨rfl, XK.out⟩
end Go.Proofs.Ytnmelakgmgenjaa
