/- Contract of the specification's l9At: the n-th rows. -/
import Derived.Test.YtkbkdlaknmgjpaaGreatOrdS
import Derived.Test.YtkbkdlaknmgjpaaGreatMA
import Derived.Test.YtkbkdlaknmgjpaaGreatRCntS
namespace Go.Proofs.YtkbkdlaknmgjpaaGreat
open Go.ChangeShapes Go.WideShapes Go.ChangeAt Go.RowKit

/-- What is left of the number once k places (from the last one on) are told. -/
def nK (es : List Ev) (n : Int) : Nat → Int
  | 0 => n
  | k + 1 => nK es n k / fac ((plcW es (2 - k)).length - 1)
/-- The k-th place (from the last one on): its part. -/
def pK (es : List Ev) (n : Int) (k : Nat) : List Int := partL (plcW es (2 - k)) (nK es n k % fac ((plcW es (2 - k)).length - 1))
theorem ratL_pK (es : List Ev) (n : Int) : ratL es n = pK es n 2 ++ pK es n 1 ++ pK es n 0 := rfl
theorem nK_in (es : List Ev) {n M : Int} (h0 : 0 ≤ n) (h1 : n ≤ M) : ∀ k : Nat, 0 ≤ nK es n k ∧ nK es n k ≤ M
  | 0 => ⟨h0, h1⟩
  | k + 1 => by
    obtain ⟨g0, g1⟩ := nK_in es h0 h1 k
    rw [nK]
    exact ⟨Int.ediv_nonneg g0 (by have := fac_pos ((plcW es (2 - k)).length - 1); omega), Int.le_trans (Int.ediv_le_self _ g0) g1⟩
/-- The block of the three parts. -/
def Parts (w : World) (G : Nat) (c : Nat → Value) : Prop := w.heap[G]? = some (.cells #[c 0, c 1, c 2] 25 (0, 0))
theorem Parts.lt {w : World} {G : Nat} {c : Nat → Value} (h : Parts w G c) : G < w.heap.size := (Array.getElem?_eq_some_iff.1 h).1
theorem Parts.cell {w : World} {G : Nat} {c : Nat → Value} (h : Parts w G c) {j : Nat} (hj : j < 3) : w.cell? ⟨G, j, none⟩ = some (c j) := by
  rw [cell_of_row w G j _ _ _ h]
  have : j = 0 ∨ j = 1 ∨ j = 2 := by omega
  rcases this with rfl | rfl | rfl <;> rfl
theorem Parts.free {w : World} {G : Nat} {c : Nat → Value} (h : Parts w G c) (j : Nat) : w.frozen? ⟨G, j, none⟩ = false := frozen_of_row w G j _ _ h
theorem Parts.kept {w w' : World} {G : Nat} {c : Nat → Value} {row : Option Nat} (h : Parts w G c) (hg : w.grownBy w' row) (hne : row ≠ some G) : Parts w' G c := by
  unfold Parts
  rw [hg.block G h.lt (fun e => hne e.symm)]
  exact h
theorem Parts.set {w : World} {G : Nat} {c : Nat → Value} (h : Parts w G c) {j : Nat} (hj : j < 3) (v : Value) : Parts (w.setCell ⟨G, j, none⟩ v) G (fun i => if i = j then v else c i) := by
  unfold Parts
  rw [heap_setCell_same w G j _ _ _ h]
  have : j = 0 ∨ j = 1 ∨ j = 2 := by omega
  rcases this with rfl | rfl | rfl <;> rfl
/-- A part that lies ready: apart from the block of the parts, and never nil. -/
structure PartOk (w : World) (G : Nat) (u : Value) (L : List Int) : Prop where
  rd : Rd w u L
  ne : u.ownBlock ≠ some G
  lt : ∀ k, u.ownBlock = some k → k < w.heap.size
  at' : ∃ g c, u = .slice (some ⟨g, 0, none⟩) L.length c
theorem PartOk.kept {w w' : World} {G : Nat} {u : Value} {L : List Int} {row : Option Nat} (h : PartOk w G u L) (hg : w.grownBy w' row) (hne : u.ownBlock ≠ row) : PartOk w' G u L :=
  ⟨h.rd.keptR hg (.inr hne), h.ne, fun k hk => Nat.lt_of_lt_of_le (h.lt k hk) hg.size, h.at'⟩
theorem PartOk.keep {w w' : World} {G : Nat} {u : Value} {L : List Int} (h : PartOk w G u L) (k : Keep w w') : PartOk w' G u L :=
  ⟨h.rd.keep k, h.ne, fun j hj => Nat.lt_of_lt_of_le (h.lt j hj) k.size, h.at'⟩
theorem part_cells {w : World} {G g n c : Nat} {L : List Int} (h : PartOk w G (.slice (some ⟨g, 0, none⟩) n c) L) : ∀ j u, (L.map (Value.int .i64))[j]? = some u → w.cell? ((⟨g, 0, none⟩ : Addr).add j) = some u := by
  obtain ⟨a, c', e, hr⟩ := h.rd
  simp only [Value.slice.injEq] at e
  obtain ⟨rfl, _, _⟩ := e
  rcases hr with h0 | ⟨b, off, e, hb, hc⟩
  · intro j u hj; rw [h0] at hj; simp at hj
  · simp only [Option.some.injEq, Addr.mk.injEq] at e
    obtain ⟨rfl, rfl, _⟩ := e
    exact rd_cells hc
theorem Own.one (w : World) (z : Int) : Own (w.alloc (.cells #[.int .i64 z] 2)) w.heap.size (.slice (some ⟨w.heap.size, 0, none⟩) 1 1) [z] := World.ownsRow_lit w #[.int .i64 z] 1 (Nat.le_refl _) (by decide) rfl
theorem Own.cellsOf {w : World} {base g c : Nat} {zs : List Int} {n : Nat} (h : Own w base (.slice (some ⟨g, 0, none⟩) n c) zs) : ∀ j u, (zs.map (Value.int .i64))[j]? = some u → w.cell? ((⟨g, 0, none⟩ : Addr).add j) = some u := by
  have hR := h.rowAt
  exact rd_cells (fun i hi => by rw [Nat.zero_add]; exact hR.cell hi)
set_option maxRecDepth 100000 in
set_option maxHeartbeats 8000000 in
theorem l9At_any (w : World) (v : Value) (es : List Ev) (n : Int) (h : RdE w v es) (hx : es.length ≤ 9) (hp : ∀ p, p < 3 → 0 < (plcW es p).length) (h0 : 0 ≤ n) (h1 : n ≤ 65548320768000) :
    Calls Tryz.prog 181 #[v, .int .i64 n] w fun e w' => ∃ v', e = .returned v' ∧ Own w' w.heap.size v' (ratL es n) ∧ Keep w w' := by
  obtain ⟨i0, hi, hz0, hz1, hz2⟩ := info_parts Tryz.infoI
  go_enter Tryz.func181, Tryz.ntmps181
  go_wp2_with fail
  refine (l9Places_cap _ _ _ h (by omega)).mono ?_
  rintro e w1 ⟨v1, rfl, r1, k1⟩
  obtain ⟨a, c, rfl, r1⟩ := r1
  rcases r1 with e0 | ⟨b, o, rfl, hb, hc⟩
  · exfalso; have := plcK_len es 3; rw [e0] at this; simp at this
  rw [plcK_len] at hc ⊢
  have HC := Lib.hid hc
  have HP := Lib.hid hp
  clear hc hp h
  go_wp2
  have hP : Parts ((((w1.alloc (.cells #[] 2)).alloc (.cells #[] 2)).alloc (.cells #[] 2)).alloc (.cells #[.slice (some ⟨w1.heap.size, 0, none⟩) 0 0, .slice (some ⟨w1.heap.size + 1, 0, none⟩) 0 0, .slice (some ⟨w1.heap.size + 1 + 1, 0, none⟩) 0 0] 25)) (w1.heap.size + 1 + 1 + 1) (fun i => .slice (some ⟨w1.heap.size + i, 0, none⟩) 0 0) := by
    unfold Parts
    have e1 : w1.heap.size + 1 + 1 + 1 = (((w1.alloc (.cells #[] 2)).alloc (.cells #[] 2)).alloc (.cells #[] 2)).heap.size := by rw [heap_size, heap_size, heap_size]
    rw [e1, heap_at, if_pos rfl]
    rfl
  have k2 : Keep w1 ((((w1.alloc (.cells #[] 2)).alloc (.cells #[] 2)).alloc (.cells #[] 2)).alloc (.cells #[.slice (some ⟨w1.heap.size, 0, none⟩) 0 0, .slice (some ⟨w1.heap.size + 1, 0, none⟩) 0 0, .slice (some ⟨w1.heap.size + 1 + 1, 0, none⟩) 0 0] 25)) := ((((Keep.refl w1).alloc _).alloc _).alloc _).alloc _
  obtain ⟨G, hG⟩ : ∃ G, G = w1.heap.size + 1 + 1 + 1 := ⟨_, rfl⟩
  rw [← hG] at hP ⊢
  have hG1 : w1.heap.size ≤ G := by omega
  clear hG
  go_loopw [1, 7] (fun x i wr => ∃ (k : Nat) (cc : Nat → Value), k ≤ 3 ∧ x = .int .i64 (nK es n k) ∧ i = .int .i64 (2 - (k : Int)) ∧ Parts wr G cc ∧ Hid (∀ j, j < k → PartOk wr G (cc (2 - j)) (pK es n j)) ∧ Keep w1 wr) (fun _ i _ => (intOf i + 1).toNat)
  case atStart => exact ⟨0, _, Nat.zero_le _, rfl, rfl, hP, Lib.hid (fun j hj => by omega), k2⟩
  case round =>
    obtain ⟨k, cc, hk, rfl, rfl, hPt, HQ, hK⟩ := hrel
    clear hP k2
    by_cases hlt : k < 3
    · obtain ⟨j, hj⟩ : ∃ j : Nat, j = 2 - k := ⟨_, rfl⟩
      have ej : (2 : Int) - (k : Int) = (j : Int) := by omega
      have hj3 : j < 3 := by omega
      obtain ⟨vi, e1, r2, cz⟩ := HC.out j hj3
      rw [plcK_get es j hj3] at r2 cz
      have d1 := (hK.cell hb).trans e1
      have r3 := r2.keep hK
      have hpj := HP.out j hj3
      have hl9 := plcW_len9 hx j
      obtain ⟨x0, x1⟩ := nK_in es h0 h1 k
      have HN : Hid (nK es n (k + 1) = nK es n k / fac ((plcW es j).length - 1)) := Lib.hid (by rw [hj]; rfl)
      have HPK : Hid (pK es n k = partL (plcW es j) (nK es n k % fac ((plcW es j).length - 1))) := Lib.hid (by unfold pK; rw [hj])
      have HJ := Lib.hid hj
      rw [ej]
      clear e1 r2 hj ej HC
      generalize nK es n k = x at *
      obtain ⟨p, hpe⟩ : ∃ p, p = plcW es j := ⟨_, rfl⟩
      rw [← hpe] at r3 hpj hl9 HN HPK cz
      clear hpe
      obtain ⟨ap, cp, rfl, r3⟩ := r3
      rcases r3 with e0 | ⟨bp, op, rfl, hbp, hcp⟩
      · exfalso; rw [e0] at hpj; simp at hpj
      simp only [capZ] at cz
      obtain ⟨m, hm⟩ : ∃ m, p.length = m + 1 := ⟨p.length - 1, by omega⟩
      have HM := Lib.hid hm
      have hz := hcp 0 (by omega)
      rw [Nat.add_zero] at hz
      have hct : ∀ i, i < (p.drop 1).length → wr.cell? ⟨bp, op + 1 + i, none⟩ = some (.int .i64 ((p.drop 1).getD i 0)) := fun i hi => by
        rw [List.length_drop] at hi
        rw [show op + 1 + i = op + (1 + i) by omega, hcp (1 + i) (by omega), List.getD_eq_getElem?_getD, List.getD_eq_getElem?_getD, List.getElem?_drop]
      have HPart : Hid (∀ r, partL p r = p.getD 0 0 :: ordL m (p.drop 1) r) := Lib.hid (fun r => by rw [partL, hm, Nat.add_sub_cancel])
      have hdl : (p.drop 1).length = m := by rw [List.length_drop, hm]; omega
      rw [hm] at d1 hl9 cz HN HPK
      rw [Nat.add_sub_cancel] at HN HPK
      clear hcp hm hpj
      have fp := fac_pos m
      have ft := fac_top (n := m) (by omega)
      have C := fun (W : World) => l9Factorial_any W m (by omega)
      have CO := fun (W : World) (u : Value) (r : Int) (hu : Rd W u (p.drop 1)) (r0 : 0 ≤ r) (r1 : r < fac m) => l9Order_any W u (p.drop 1) r hu (by omega) r0 (by rw [hdl]; exact r1)
      rw [hdl] at CO
      have HD := Lib.hid hdl
      generalize fac m = F at C CO fp ft HN HPK
      generalize p.getD 0 0 = z at hz HPart
      have e1 : x.tmod F = x % F := Int.tmod_eq_emod_of_nonneg x0
      have e2 : x.tdiv F = x / F := Int.tdiv_eq_ediv_of_nonneg x0
      have r0 : 0 ≤ x % F := Int.emod_nonneg _ (by omega)
      have r1 : x % F < F := Int.emod_lt_of_pos _ fp
      have y0 : 0 ≤ x / F := Int.ediv_nonneg x0 (by omega)
      have y1 : x / F ≤ x := Int.ediv_le_self _ x0
      obtain ⟨r, hr⟩ : ∃ r, r = x % F := ⟨_, rfl⟩
      rw [← hr] at e1 r0 r1 HPK
      obtain ⟨y, hy⟩ : ∃ y, y = x / F := ⟨_, rfl⟩
      rw [← hy] at e2 y0 y1 HN
      clear hr hy hdl
      have i1 : (0 : Int) ≤ (j : Int) := Int.natCast_nonneg _
      have i2 : (j : Int) < 3 := by omega
      have i3 : (m : Int) ≤ 8 := by omega
      have i4 : (0 : Int) ≤ (m : Int) := Int.natCast_nonneg _
      have i5 : (1 : Int) ≤ (m : Int) + 1 := by omega
      have fne : ¬ (F = 0) := by omega
      have hbw : b < wr.heap.size := Nat.lt_of_lt_of_le hb hK.size
      have hGw := hPt.lt
      have gj := hPt.cell hj3
      have gf := hPt.free j
      go_wp2_with fail
      refine (C _).mono ?_
      rintro e w2 ⟨rfl, rfl⟩
      have KA : Keep w2 (w2.alloc (.cells #[.int .i64 z] 2)).drew := ((Keep.refl w2).alloc _).drew
      have KB : Keep w2 w2.drew := (Keep.refl w2).drew
      have OA0 : Own (w2.alloc (.cells #[.int .i64 z] 2)).drew w2.heap.size (.slice (some ⟨w2.heap.size, 0, none⟩) 1 1) [z] := (Own.one w2 z).keep (Keep.refl _).drew
      by_cases hc1 : cp = 1
      · subst hc1
        have m0 : m = 0 := by omega
        have RT : ∀ W : World, Keep w2 W → Rd W (.slice (some ⟨bp, op, none⟩) 0 0) (p.drop 1) := fun W _ => ⟨_, 0, by rw [HD.out, m0], .inl (List.eq_nil_of_length_eq_zero (by rw [HD.out, m0]))⟩
        subst m0
        go_wp2
        go_region_law ((first
          | (refine step_append_at rfl (.tmp 34) (.tmp 43) 25 rfl w2.heap.size 2 i0 (.int .i64 0) 1 8 Tryz.underlying25 hi hz0 hz1 hz2 rfl (by decide) (.slice (some ⟨w2.heap.size, 0, none⟩) 1 1) 1 [.int .i64 z] rfl OA ⟨go, 0, none⟩ 0 co ((ordL 0 (p.drop 1) r).map (Value.int .i64)) rfl (by rw [List.length_map, ordL_len, Nat.mul_one]) OO.cellsOf (ints_one _) (by unfold maxLen; omega) (by omega) (by have := KW.size; omega) ?_
             intro v' w8 hown' hgrow hblk
             have O8 : Own w8 w2.heap.size v' (partL p r) := by
               rw [HPart.out]
               refine Own.base_le (base := w2.heap.size) ?_ (Nat.le_refl _)
               unfold Own
               rw [List.length_cons, ordL_len, Nat.add_comm]
               exact hown'
             have Kw8 : Keep w2 w8 := KW.grown hgrow (fun k hk => by have := OA.ge k hk; omega)
             have nn : ∃ d, v'.ownBlock = some d := by
               rcases hblk with e | e
               · exact ⟨_, e⟩
               · exact ⟨_, e⟩
             obtain ⟨g5, c5, hv5⟩ : ∃ g c, v' = .slice (some ⟨g, 0, none⟩) (partL p r).length c := by
               obtain ⟨dd, hdd⟩ := nn
               rcases O8.2 with ⟨e, _⟩ | ⟨g, cap, cur, e, _⟩
               · rw [e] at hdd; cases hdd
               · exact ⟨g, cap, e⟩
             obtain ⟨N8, hN8⟩ : ∃ N, N = (partL p r).length := ⟨_, rfl⟩
             have HN8 := Lib.hid hN8
             rw [← hN8] at hv5
             subst hv5
             clear hN8 nn
             have P8 : Parts w8 G cc := hPt.kept Kw8.grownBy (by simp)
             have d8 := P8.cell hj3
             have f8 := P8.free j
             have hg8 := P8.lt
             clear hown' hgrow hblk)
          | (refine step_append_at rfl (.tmp 34) (.tmp 43) 25 rfl w6.heap.size 2 i0 (.int .i64 0) 1 8 Tryz.underlying25 hi hz0 hz1 hz2 rfl (by decide) (.slice (some ⟨w6.heap.size, 0, none⟩) 1 1) 1 [.int .i64 z] rfl OB ⟨go, 0, none⟩ 0 co ((ordL 0 (p.drop 1) r).map (Value.int .i64)) rfl (by rw [List.length_map, ordL_len, Nat.mul_one]) OO.cellsOf (ints_one _) (by unfold maxLen; omega) (by omega) (by rw [heap_size]; omega) ?_
             intro v' w8 hown' hgrow hblk
             have O8 : Own w8 w2.heap.size v' (partL p r) := by
               rw [HPart.out]
               refine Own.base_le (base := w6.heap.size) ?_ sz6
               unfold Own
               rw [List.length_cons, ordL_len, Nat.add_comm]
               exact hown'
             have Kw8 : Keep w2 w8 := KW.grown hgrow (fun k hk => by have := OB.ge k hk; have := sz6; omega)
             have nn : ∃ d, v'.ownBlock = some d := by
               rcases hblk with e | e
               · exact ⟨_, e⟩
               · exact ⟨_, e⟩
             obtain ⟨g5, c5, hv5⟩ : ∃ g c, v' = .slice (some ⟨g, 0, none⟩) (partL p r).length c := by
               obtain ⟨dd, hdd⟩ := nn
               rcases O8.2 with ⟨e, _⟩ | ⟨g, cap, cur, e, _⟩
               · rw [e] at hdd; cases hdd
               · exact ⟨g, cap, e⟩
             obtain ⟨N8, hN8⟩ : ∃ N, N = (partL p r).length := ⟨_, rfl⟩
             have HN8 := Lib.hid hN8
             rw [← hN8] at hv5
             subst hv5
             clear hN8 nn
             have P8 : Parts w8 G cc := hPt.kept Kw8.grownBy (by simp)
             have d8 := P8.cell hj3
             have f8 := P8.free j
             have hg8 := P8.lt
             clear hown' hgrow hblk)
          | (go_simp
             refine (CO _ _ r (RT _ KA) r0 r1).mono ?_
             rintro e w6 ⟨go, co, rfl, OO, ko⟩
             have OA := OA0.keep ko
             have KW := KA.trans ko)
          | (go_simp
             refine (CO _ _ r (RT _ KB) r0 r1).mono ?_
             rintro e w6 ⟨go, co, rfl, OO1, ko⟩
             have OB := Own.one w6 z
             have sz6 := (KB.trans ko).size
             have d16 := ((KB.trans ko).cell hbw).trans d1
             have hz6 := ((KB.trans ko).cell hbp).trans hz
             have hbw6 : b < w6.heap.size := Nat.lt_of_lt_of_le hbw sz6
             have hbp6 : bp < w6.heap.size := Nat.lt_of_lt_of_le hbp sz6
             have OO := OO1.keep ((Keep.refl w6).alloc (.cells #[.int .i64 z] 2))
             have KW := (KB.trans ko).alloc (.cells #[.int .i64 z] 2))))
        all_goals
          have v8g : (Value.slice (some ⟨g5, 0, none⟩) N8 c5).ownBlock ≠ some G := fun e => by have := O8.ge G e; omega
          have K18 := hK.trans Kw8
          have KS : Keep w1 (w8.setCell ⟨G, j, none⟩ (Value.slice (some ⟨g5, 0, none⟩) N8 c5)) := K18.grown (grown_set w8 G j (Value.slice (some ⟨g5, 0, none⟩) N8 c5)) (fun k hk => by simp at hk; omega)
          have P9 := P8.set hj3 (Value.slice (some ⟨g5, 0, none⟩) N8 c5)
          have HQ9 : Hid (∀ i, i < k + 1 → PartOk (w8.setCell ⟨G, j, none⟩ (Value.slice (some ⟨g5, 0, none⟩) N8 c5)) G ((fun i => if i = j then (Value.slice (some ⟨g5, 0, none⟩) N8 c5) else cc i) (2 - i)) (pK es n i)) := Lib.hid (fun i hi => by
            by_cases ei : i = k
            · subst ei
              have : 2 - i = j := by rw [HJ.out]
              simp only [this, if_true]
              rw [HPK.out]
              have Q : PartOk w8 G (Value.slice (some ⟨g5, 0, none⟩) N8 c5) (partL p r) := ⟨O8.rd, v8g, fun q hq => (World.ownsRow.lt O8 q hq).2, ⟨g5, c5, by rw [HN8.out]⟩⟩
              exact Q.kept (grown_set w8 G j (Value.slice (some ⟨g5, 0, none⟩) N8 c5)) v8g
            · have hne : ¬ (2 - i = j) := by have := HJ.out; omega
              simp only [hne, if_false]
              have Q := (HQ.out i (by omega)).keep Kw8
              exact Q.kept (grown_set w8 G j (Value.slice (some ⟨g5, 0, none⟩) N8 c5)) Q.ne)
          clear HQ P8 Kw8
          go_wp2
          go_roundw
          case rel => exact ⟨k + 1, fun i => if i = j then (Value.slice (some ⟨g5, 0, none⟩) N8 c5) else cc i, by omega, by rw [HN.out], by have := HJ.out; congr 1; omega, P9, HQ9, KS⟩
          case measure => simp [intOf]
      · have RT : ∀ W : World, Keep w2 W → Rd W (.slice (some ⟨bp, op + 1, none⟩) m (cp - 1)) (p.drop 1) := fun W kW => ⟨_, cp - 1, by rw [HD.out], .inr ⟨bp, op + 1, rfl, Nat.lt_of_lt_of_le hbp kW.size, fun i hi => (kW.cell hbp).trans (hct i hi)⟩⟩
        go_wp2
        go_region_law ((first
          | (refine step_append_at rfl (.tmp 34) (.tmp 43) 25 rfl w2.heap.size 2 i0 (.int .i64 0) 1 8 Tryz.underlying25 hi hz0 hz1 hz2 rfl (by decide) (.slice (some ⟨w2.heap.size, 0, none⟩) 1 1) 1 [.int .i64 z] rfl OA ⟨go, 0, none⟩ m co ((ordL m (p.drop 1) r).map (Value.int .i64)) rfl (by rw [List.length_map, ordL_len, Nat.mul_one]) OO.cellsOf (ints_one _) (by unfold maxLen; omega) (by omega) (by have := KW.size; omega) ?_
             intro v' w8 hown' hgrow hblk
             have O8 : Own w8 w2.heap.size v' (partL p r) := by
               rw [HPart.out]
               refine Own.base_le (base := w2.heap.size) ?_ (Nat.le_refl _)
               unfold Own
               rw [List.length_cons, ordL_len, Nat.add_comm]
               exact hown'
             have Kw8 : Keep w2 w8 := KW.grown hgrow (fun k hk => by have := OA.ge k hk; omega)
             have nn : ∃ d, v'.ownBlock = some d := by
               rcases hblk with e | e
               · exact ⟨_, e⟩
               · exact ⟨_, e⟩
             obtain ⟨g5, c5, hv5⟩ : ∃ g c, v' = .slice (some ⟨g, 0, none⟩) (partL p r).length c := by
               obtain ⟨dd, hdd⟩ := nn
               rcases O8.2 with ⟨e, _⟩ | ⟨g, cap, cur, e, _⟩
               · rw [e] at hdd; cases hdd
               · exact ⟨g, cap, e⟩
             obtain ⟨N8, hN8⟩ : ∃ N, N = (partL p r).length := ⟨_, rfl⟩
             have HN8 := Lib.hid hN8
             rw [← hN8] at hv5
             subst hv5
             clear hN8 nn
             have P8 : Parts w8 G cc := hPt.kept Kw8.grownBy (by simp)
             have d8 := P8.cell hj3
             have f8 := P8.free j
             have hg8 := P8.lt
             clear hown' hgrow hblk)
          | (refine step_append_at rfl (.tmp 34) (.tmp 43) 25 rfl w6.heap.size 2 i0 (.int .i64 0) 1 8 Tryz.underlying25 hi hz0 hz1 hz2 rfl (by decide) (.slice (some ⟨w6.heap.size, 0, none⟩) 1 1) 1 [.int .i64 z] rfl OB ⟨go, 0, none⟩ m co ((ordL m (p.drop 1) r).map (Value.int .i64)) rfl (by rw [List.length_map, ordL_len, Nat.mul_one]) OO.cellsOf (ints_one _) (by unfold maxLen; omega) (by omega) (by rw [heap_size]; omega) ?_
             intro v' w8 hown' hgrow hblk
             have O8 : Own w8 w2.heap.size v' (partL p r) := by
               rw [HPart.out]
               refine Own.base_le (base := w6.heap.size) ?_ sz6
               unfold Own
               rw [List.length_cons, ordL_len, Nat.add_comm]
               exact hown'
             have Kw8 : Keep w2 w8 := KW.grown hgrow (fun k hk => by have := OB.ge k hk; have := sz6; omega)
             have nn : ∃ d, v'.ownBlock = some d := by
               rcases hblk with e | e
               · exact ⟨_, e⟩
               · exact ⟨_, e⟩
             obtain ⟨g5, c5, hv5⟩ : ∃ g c, v' = .slice (some ⟨g, 0, none⟩) (partL p r).length c := by
               obtain ⟨dd, hdd⟩ := nn
               rcases O8.2 with ⟨e, _⟩ | ⟨g, cap, cur, e, _⟩
               · rw [e] at hdd; cases hdd
               · exact ⟨g, cap, e⟩
             obtain ⟨N8, hN8⟩ : ∃ N, N = (partL p r).length := ⟨_, rfl⟩
             have HN8 := Lib.hid hN8
             rw [← hN8] at hv5
             subst hv5
             clear hN8 nn
             have P8 : Parts w8 G cc := hPt.kept Kw8.grownBy (by simp)
             have d8 := P8.cell hj3
             have f8 := P8.free j
             have hg8 := P8.lt
             clear hown' hgrow hblk)
          | (go_simp
             refine (CO _ _ r (RT _ KA) r0 r1).mono ?_
             rintro e w6 ⟨go, co, rfl, OO, ko⟩
             have OA := OA0.keep ko
             have KW := KA.trans ko)
          | (go_simp
             refine (CO _ _ r (RT _ KB) r0 r1).mono ?_
             rintro e w6 ⟨go, co, rfl, OO1, ko⟩
             have OB := Own.one w6 z
             have sz6 := (KB.trans ko).size
             have d16 := ((KB.trans ko).cell hbw).trans d1
             have hz6 := ((KB.trans ko).cell hbp).trans hz
             have hbw6 : b < w6.heap.size := Nat.lt_of_lt_of_le hbw sz6
             have hbp6 : bp < w6.heap.size := Nat.lt_of_lt_of_le hbp sz6
             have OO := OO1.keep ((Keep.refl w6).alloc (.cells #[.int .i64 z] 2))
             have KW := (KB.trans ko).alloc (.cells #[.int .i64 z] 2))))
        all_goals
          have v8g : (Value.slice (some ⟨g5, 0, none⟩) N8 c5).ownBlock ≠ some G := fun e => by have := O8.ge G e; omega
          have K18 := hK.trans Kw8
          have KS : Keep w1 (w8.setCell ⟨G, j, none⟩ (Value.slice (some ⟨g5, 0, none⟩) N8 c5)) := K18.grown (grown_set w8 G j (Value.slice (some ⟨g5, 0, none⟩) N8 c5)) (fun k hk => by simp at hk; omega)
          have P9 := P8.set hj3 (Value.slice (some ⟨g5, 0, none⟩) N8 c5)
          have HQ9 : Hid (∀ i, i < k + 1 → PartOk (w8.setCell ⟨G, j, none⟩ (Value.slice (some ⟨g5, 0, none⟩) N8 c5)) G ((fun i => if i = j then (Value.slice (some ⟨g5, 0, none⟩) N8 c5) else cc i) (2 - i)) (pK es n i)) := Lib.hid (fun i hi => by
            by_cases ei : i = k
            · subst ei
              have : 2 - i = j := by rw [HJ.out]
              simp only [this, if_true]
              rw [HPK.out]
              have Q : PartOk w8 G (Value.slice (some ⟨g5, 0, none⟩) N8 c5) (partL p r) := ⟨O8.rd, v8g, fun q hq => (World.ownsRow.lt O8 q hq).2, ⟨g5, c5, by rw [HN8.out]⟩⟩
              exact Q.kept (grown_set w8 G j (Value.slice (some ⟨g5, 0, none⟩) N8 c5)) v8g
            · have hne : ¬ (2 - i = j) := by have := HJ.out; omega
              simp only [hne, if_false]
              have Q := (HQ.out i (by omega)).keep Kw8
              exact Q.kept (grown_set w8 G j (Value.slice (some ⟨g5, 0, none⟩) N8 c5)) Q.ne)
          clear HQ P8 Kw8
          go_wp2
          go_roundw
          case rel => exact ⟨k + 1, fun i => if i = j then (Value.slice (some ⟨g5, 0, none⟩) N8 c5) else cc i, by omega, by rw [HN.out], by have := HJ.out; congr 1; omega, P9, HQ9, KS⟩
          case measure => simp [intOf]
    · obtain rfl : k = 3 := by omega
      have Q0 : PartOk wr G (cc 0) (pK es n 2) := HQ.out 2 (by omega)
      have Q1 : PartOk wr G (cc 1) (pK es n 1) := HQ.out 1 (by omega)
      have Q2 : PartOk wr G (cc 2) (pK es n 0) := HQ.out 0 (by omega)
      have HR : Hid (ratL es n = pK es n 2 ++ pK es n 1 ++ pK es n 0) := Lib.hid (ratL_pK es n)
      have b0 : (pK es n 2).length ≤ 9 := by unfold pK; rw [part_len (HP.out _ (by omega))]; exact plcW_len9 hx _
      have b1 : (pK es n 1).length ≤ 9 := by unfold pK; rw [part_len (HP.out _ (by omega))]; exact plcW_len9 hx _
      have b2 : (pK es n 0).length ≤ 9 := by unfold pK; rw [part_len (HP.out _ (by omega))]; exact plcW_len9 hx _
      have d0 := hPt.cell (j := 0) (by omega)
      have d1 := hPt.cell (j := 1) (by omega)
      have d2 := hPt.cell (j := 2) (by omega)
      have hGw := hPt.lt
      clear HQ HC HP
      generalize pK es n 2 = L0 at Q0 HR b0
      generalize pK es n 1 = L1 at Q1 HR b1
      generalize pK es n 0 = L2 at Q2 HR b2
      obtain ⟨g0, c0, hc0⟩ := Q0.at'
      obtain ⟨g1, c1, hc1⟩ := Q1.at'
      obtain ⟨g2, c2, hc2⟩ := Q2.at'
      rw [hc0] at d0 Q0
      rw [hc1] at d1 Q1
      rw [hc2] at d2 Q2
      have sK := hK.size
      have sk1 := k1.size
      have KE : Keep wr (wr.alloc (.cells #[] 2)).drew := ((Keep.refl wr).alloc _).drew
      have OE0 : Own (wr.alloc (.cells #[] 2)) wr.heap.size (.slice (some ⟨wr.heap.size, 0, none⟩) 0 0) [] := World.ownsRow_lit wr #[] 0 (Nat.le_refl _) (by decide) rfl
      have OE := OE0.keep (Keep.refl (wr.alloc (.cells #[] 2))).drew
      clear OE0
      clear hc0 hc1 hc2 hPt
      go_wp2
      go_region_law ((first
        | (refine step_append_at rfl (.tmp 57) (.tmp 60) 25 rfl wr.heap.size 2 i0 (.int .i64 0) 1 8 Tryz.underlying25 hi hz0 hz1 hz2 rfl (by decide) vb (L0 ++ L1).length ((L0 ++ L1).map (Value.int .i64)) rfl OB ⟨g2, 0, none⟩ L2.length c2 (L2.map (Value.int .i64)) rfl (by rw [List.length_map, Nat.mul_one]) (part_cells (Q2.keep Kb)) (ints_one _) (by rw [List.length_append]; unfold maxLen; omega) (by rw [List.length_append]; omega) Kb.size ?_
           intro vd wd hown' hgrow hblk
           have OD : Own wd wr.heap.size vd (L0 ++ L1 ++ L2) := by unfold Own; rw [List.length_append, List.map_append]; exact hown'
           have Kd : Keep wr wd := Kb.grown hgrow OB.ge
           clear hown' hgrow hblk)
        | (refine step_append_at rfl (.tmp 53) (.tmp 56) 25 rfl wr.heap.size 2 i0 (.int .i64 0) 1 8 Tryz.underlying25 hi hz0 hz1 hz2 rfl (by decide) va L0.length (L0.map (Value.int .i64)) rfl OA ⟨g1, 0, none⟩ L1.length c1 (L1.map (Value.int .i64)) rfl (by rw [List.length_map, Nat.mul_one]) (part_cells (Q1.keep Ka)) (ints_one _) (by unfold maxLen; omega) (by omega) Ka.size ?_
           intro vb wb hown' hgrow hblk
           have OB : Own wb wr.heap.size vb (L0 ++ L1) := by unfold Own; rw [List.length_append, List.map_append]; exact hown'
           have Kb : Keep wr wb := Ka.grown hgrow OA.ge
           have db2 := (Kb.cell hGw).trans d2
           have hGb : G < wb.heap.size := Nat.lt_of_lt_of_le hGw Kb.size
           clear hown' hgrow hblk)
        | (refine step_append_at rfl (.tmp 49) (.tmp 52) 25 rfl wr.heap.size 2 i0 (.int .i64 0) 1 8 Tryz.underlying25 hi hz0 hz1 hz2 rfl (by decide) (.slice (some ⟨wr.heap.size, 0, none⟩) 0 0) 0 [] rfl OE ⟨g0, 0, none⟩ L0.length c0 (L0.map (Value.int .i64)) rfl (by rw [List.length_map, Nat.mul_one]) (part_cells (Q0.keep KE)) (ints_one _) (by unfold maxLen; omega) (by omega) KE.size ?_
           intro va wa hown' hgrow hblk
           have OA : Own wa wr.heap.size va L0 := by unfold Own; simpa using hown'
           have Ka : Keep wr wa := KE.grown hgrow OE.ge
           have da1 := (Ka.cell hGw).trans d1
           have da2 := (Ka.cell hGw).trans d2
           have hGa : G < wa.heap.size := Nat.lt_of_lt_of_le hGw Ka.size
           clear hown' hgrow hblk)))
      all_goals
        go_wp2
        go_ret
        exact ⟨_, rfl, by rw [HR.out]; exact OD.base_le (by omega), (k1.trans hK).trans Kd⟩
end Go.Proofs.YtkbkdlaknmgjpaaGreat
