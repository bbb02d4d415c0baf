/- Contract of the specification's l9Order: the n-th order of a list. -/
import Derived.Test.YtkbkdlaknmgjpaaGreatCopyS
import Derived.Test.YtkbkdlaknmgjpaaGreatFacS
import Derived.Test.YtkbkdlaknmgjpaaGreatOwnSet
import Derived.Test.YtkbkdlaknmgjpaaGreatMG
import Derived.Outline
import Derived.BigRegion
import Derived.Deep.RegionLaw
namespace Go.Proofs.YtkbkdlaknmgjpaaGreat
open Go.ChangeShapes Go.WideShapes Go.ChangeAt Go.RowKit

def lenZ : Value → Nat
  | .slice _ n _ => n
  | _ => 0
theorem Own.at {w : World} {base : Nat} {v : Value} {zs : List Int} (h : Own w base v zs) (h0 : 0 < zs.length) : ∃ g cap, v = .slice (some ⟨g, 0, none⟩) zs.length cap ∧ zs.length ≤ cap ∧ base ≤ g ∧ g < w.heap.size := by
  have hlt := World.ownsRow.lt h
  rcases h.2 with ⟨_, hz⟩ | ⟨g, cap, cur, rfl, hb, hg, hc, _⟩
  · omega
  · exact ⟨g, cap, rfl, hc, hb, (hlt g rfl).2⟩
theorem Own.shp {w : World} {base : Nat} {v : Value} {zs : List Int} (h : Own w base v zs) : ∃ a cap, v = .slice a zs.length cap := by
  obtain ⟨a, c, e, _⟩ := h.rd
  exact ⟨a, c, e⟩
theorem apart_le {u v : Value} {m : Nat} (h1 : ∀ k, u.ownBlock = some k → k < m) (h2 : ∀ k, v.ownBlock = some k → m ≤ k) : u.ownBlock = none ∨ u.ownBlock ≠ v.ownBlock := by
  cases hu : u.ownBlock with
  | none => exact .inl rfl
  | some k => exact .inr (fun e => by have := h1 k hu; have := h2 k e.symm; omega)
theorem apart_ge {u v : Value} {m : Nat} (h1 : ∀ k, u.ownBlock = some k → k < m) (h2 : ∀ k, v.ownBlock = some k → m ≤ k) : v.ownBlock = none ∨ v.ownBlock ≠ u.ownBlock := by
  cases hv : v.ownBlock with
  | none => exact .inl rfl
  | some k => exact .inr (fun e => by have := h1 k e.symm; have := h2 k hv; omega)
theorem erase_split (l : List Int) (q : Nat) : l.eraseIdx q = l.take q ++ l.drop (q + 1) := List.eraseIdx_eq_take_drop_succ l q
set_option maxRecDepth 100000 in
set_option maxHeartbeats 4000000 in
theorem l9Order_any (w : World) (v : Value) (l : List Int) (n : Int) (h : Rd w v l) (hl : l.length ≤ 12) (h0 : 0 ≤ n) (h1 : n < fac l.length) :
    Calls Tryz.prog 184 #[v, .int .i64 n] w fun e w' => ∃ g c, e = .returned (.slice (some ⟨g, 0, none⟩) l.length c) ∧ Own w' w.heap.size (.slice (some ⟨g, 0, none⟩) l.length c) (ordL l.length l n) ∧ Keep w w' := by
  obtain ⟨i0, hi, hz0, hz1, hz2⟩ := info_parts Tryz.infoI
  go_enter Tryz.func184, Tryz.ntmps184
  go_wp2_with fail
  refine (l1Copy_rd _ _ _ h (by omega)).mono ?_
  rintro e w1 ⟨vl, rfl, ol, k1⟩
  have s1 := k1.size
  have O0 : Own (w1.alloc (.cells #[] 2)) w.heap.size (.slice (some ⟨w1.heap.size, 0, none⟩) 0 0) [] := World.ownsRow_lit w1 #[] 0 s1 (by decide) rfl
  have ol1 := ol.keep ((Keep.refl w1).alloc (.cells #[] 2))
  have ne1 : vl.ownBlock = none ∨ vl.ownBlock ≠ some w1.heap.size := by
    cases hv : vl.ownBlock with
    | none => exact .inl rfl
    | some k => exact .inr (fun e => by have := (World.ownsRow.lt ol k hv).2; have := Option.some.inj e; omega)
  clear h
  go_wp2
  go_loopw [1, 5, 6] (fun x xl xo wr => ∃ (l' o' : List Int) (x' : Int), x = .int .i64 x' ∧ 0 ≤ x' ∧ x' < fac l'.length ∧ l'.length + o'.length = l.length ∧ Hid (o' ++ ordL l'.length l' x' = ordL l.length l n) ∧ Own wr w.heap.size xl l' ∧ Own wr w.heap.size xo o' ∧ (xl.ownBlock = none ∨ xl.ownBlock ≠ xo.ownBlock) ∧ (∃ d, xo.ownBlock = some d) ∧ Keep w wr) (fun _ xl _ _ => lenZ xl)
  case atStart => exact ⟨l, [], n, rfl, h0, h1, by simp, Lib.hid rfl, ol1, O0, ne1, ⟨_, rfl⟩, k1.alloc _⟩
  case round =>
    clear ol ol1 O0 ne1
    obtain ⟨l', o', x', rfl, x0, x1, hlen, HO, hL, hO, hne, ⟨bo, hbo⟩, hK⟩ := hrel
    cases hm : l'.length with
    | zero =>
      have e0 : l' = [] := List.eq_nil_of_length_eq_zero hm
      subst e0
      have HE : Hid (o' = ordL l.length l n) := Lib.hid (by have := HO.out; simpa [ordL] using this)
      obtain ⟨al, cl, rfl⟩ := hL.shp
      have hol : o'.length = l.length := by simpa using hlen
      obtain ⟨go, co, hvo⟩ : ∃ g c, u6 = .slice (some ⟨g, 0, none⟩) l.length c := by
        rcases hO.2 with ⟨e, _⟩ | ⟨g, cap, cur, e, _⟩
        · rw [e] at hbo; cases hbo
        · exact ⟨g, cap, by rw [e, hol]⟩
      subst hvo
      clear hol
      go_wp2
      go_ret
      exact ⟨go, co, rfl, by rw [← HE.out]; exact hO, hK⟩
    | succ m =>
      have HBO := Lib.hid hbo
      clear hbo
      obtain ⟨g, cap, rfl, hcap, hgb, hgl⟩ := hL.at (by omega)
      rw [hm] at x1 hlen HO hcap
      obtain ⟨q0, q1, y0, y1⟩ := ord_next x0 x1
      obtain ⟨q, hq⟩ := Int.eq_ofNat_of_zero_le q0
      have hql : q < m + 1 := by omega
      have HO2 : Hid ((o' ++ [l'.getD q 0]) ++ ordL m (l'.eraseIdx q) (x' % fac m) = ordL l.length l n) := Lib.hid (by
        have := HO.out
        rw [ordL, hq, Int.toNat_natCast] at this
        rw [← this, List.append_assoc]
        rfl)
      have hR := hL.rowAt
      have c1 := hR.cell (j := q) (by omega)
      have hel := erase_len hm hql
      have fp := fac_pos m
      have ft := fac_top (n := m) (by omega)
      have e1 : x'.tdiv (fac m) = (q : Int) := by rw [Int.tdiv_eq_ediv_of_nonneg x0]; exact hq
      have e2 : x'.tmod (fac m) = x' % fac m := Int.tmod_eq_emod_of_nonneg x0
      have HEQ : Hid (l'.eraseIdx q = l'.take q ++ l'.drop (q + 1)) := Lib.hid (erase_split l' q)
      have HQ := Lib.hid hq
      have HM := Lib.hid hm
      have HY : Hid (0 ≤ x' % fac m ∧ x' % fac m < fac m) := Lib.hid ⟨y0, y1⟩
      have hcq : q < cap := by omega
      generalize l'.getD q 0 = z at c1 HO2
      have C := fun (W : World) => l9Factorial_any W m (by omega)
      have HF : Hid (∀ y, 0 ≤ y ∧ y < fac m → 0 ≤ y ∧ y < fac (l'.eraseIdx q).length) := Lib.hid (fun y hy => by rw [hel]; exact hy)
      obtain ⟨F, hF⟩ : ∃ F, F = fac m := ⟨_, rfl⟩
      have HFF : Hid (fac m = F) := Lib.hid hF.symm
      rw [← hF] at C fp ft e1 e2 HY HO2
      clear hF
      obtain ⟨r, hr⟩ : ∃ r, r = x' % F := ⟨_, rfl⟩
      rw [← hr] at e2 HY HO2
      clear hq q0 q1 y0 y1 hr hR HO x1 HF
      have i1 : (0 : Int) ≤ (q : Int) := Int.natCast_nonneg _
      have i2 : (q : Int) < (m : Int) + 1 := by omega
      have i3 : (m : Int) ≤ 11 := by omega
      rw [hm]
      clear hm
      go_wp2_with fail
      refine (C _).mono ?_
      rintro e w2 ⟨rfl, rfl⟩
      have hOs := hK.size
      go_wp2_with (at_builtin; refine wpList_append_own_at _ rfl _ _ 25 rfl w.heap.size 2 i0 (.int .i64 0) 1 8 Tryz.underlying25 hi hz0 hz1 hz2 rfl (by decide) _ _ _ rfl (World.ownsRow.alloc hO _) ⟨_, 0, none⟩ 1 1 [.int .i64 z] rfl rfl ?c1 ?c2 ?c3 ?c4 ?c5 ?_)
      case c1 =>
        intro j u hj
        match j, hj with
        | 0, hj => simp at hj; subst hj; simp [Addr.add]
      case c2 => intro u hu; simp at hu; subst hu; rfl
      case c3 => unfold maxLen; omega
      case c4 => omega
      case c5 => rw [heap_size]; omega
      intro vo w3 hown' hgrow _ hblk
      have O3 : Own w3 w.heap.size vo (o' ++ [z]) := own_hit hown'
      have L3 := (hL.keep ((Keep.refl w2).alloc (.cells #[.int .i64 z] 2))).kept hgrow hne
      have K3 : Keep w w3 := (hK.alloc _).grown hgrow hO.ge
      have hg3 : g < w3.heap.size := Nat.lt_of_lt_of_le (by rw [heap_size]; omega) hgrow.size
      have ov : ∀ k, vo.ownBlock = some k → k < w3.heap.size := fun k hk => (World.ownsRow.lt O3 k hk).2
      have vob : ∃ d, vo.ownBlock = some d := by
        rcases hblk with e | e
        · exact ⟨bo, by rw [e]; exact HBO.out⟩
        · exact ⟨_, e⟩
      clear hown' hgrow hblk hL hO hne hK hgl c1 C
      have R3 := L3.rowAt
      have RC : Rd w3.drew (.slice (some ⟨g, 0, none⟩) q cap) (l'.take q) := by
        have hlt : (l'.take q).length = q := by rw [List.length_take, HM.out]; omega
        refine ⟨_, cap, by rw [hlt], .inr ⟨g, 0, rfl, hg3, fun j hj => ?_⟩⟩
        rw [hlt] at hj
        have := R3.cell (j := j) (by rw [HM.out]; omega)
        rw [Nat.zero_add, List.getD_eq_getElem?_getD, List.getElem?_take, if_pos hj, ← List.getD_eq_getElem?_getD]
        exact this
      have CT : ∀ W : World, Keep w3.drew W → ∀ j u, ((l'.drop (q + 1)).map (Value.int .i64))[j]? = some u → W.cell? ((⟨g, q + 1, none⟩ : Addr).add j) = some u := fun W kW => rd_cells (fun j hj => by
        rw [List.length_drop, HM.out] at hj
        have := R3.cell (j := q + 1 + j) (by rw [HM.out]; omega)
        rw [kW.cell (b := g) hg3, List.getD_eq_getElem?_getD, List.getElem?_drop, ← List.getD_eq_getElem?_getD]
        exact this)
      have DL : (l'.drop (q + 1)).length = m - q := by rw [List.length_drop, HM.out]; omega
      have lt12 : (l'.take q).length ≤ 1048576 := by rw [List.length_take]; omega
      have ltq : (l'.take q).length = q := by rw [List.length_take, HM.out]; omega
      clear R3 L3
      have j1 : (q : Int) ≤ (cap : Int) := by omega
      have j2 : (q : Int) ≤ (m : Int) := by omega
      have j4 : (q : Int) ≤ (q : Int) + 1 := by omega
      have j5 : IntKind.i64.wrap ((q : Int) + 1) = (q : Int) + 1 := by rw [IntKind.wrap_i64]; omega
      have j6 : (m : Int) + 1 ≤ (m : Int) + 1 := Int.le_refl _
      have j7 : 0 ≤ (q : Int) + 1 := by omega
      have j3 : (m : Int) + 1 ≤ (cap : Int) := by omega
      by_cases hc : cap = q + 1
      · subst hc
        go_wp2
        go_region_law ((first
          | (refine step_append_at rfl (.tmp 35) (.tmp 39) 25 rfl w3.heap.size 2 i0 (.int .i64 0) 1 8 Tryz.underlying25 hi hz0 hz1 hz2 rfl (by decide) vc (l'.take q).length ((l'.take q).map (Value.int .i64)) rfl OC ⟨g, 0, none⟩ 0 0 [] rfl rfl (fun j u hj => by simp at hj) (fun u hu => by simp at hu) (by unfold maxLen; omega) (by omega) (by have := kc.size; exact this) ?_
             intro v' w5 hown' hgrow hblk)
          | (go_simp
             refine (l1Copy_rd _ _ _ RC lt12).mono ?_
             rintro e w4 ⟨vc, rfl, OC, kc⟩)))
        all_goals
          have O5 : Own w5 w3.heap.size v' (l'.eraseIdx q) := by
            rw [HEQ.out]
            unfold Own
            have dn : l'.drop (q + 1) = [] := List.eq_nil_of_length_eq_zero (by rw [DL]; omega)
            rw [dn, List.append_nil]
            simpa using hown'
          have kc3 : Keep w3 w4 := (Keep.refl w3).drew.trans kc
          have O4 := (O3.keep kc3).kept hgrow (apart_le (fun k hk => ov k hk) (fun k hk => OC.ge k hk))
          have K5 : Keep w w5 := (K3.trans kc3).grown hgrow (fun k hk => Nat.le_trans K3.size (OC.ge k hk))
          have ne5 : v'.ownBlock = none ∨ v'.ownBlock ≠ vo.ownBlock := apart_ge (fun k hk => ov k hk) (fun k hk => O5.ge k hk)
          have w35 := K3.size
          obtain ⟨a5, c5, hv5⟩ := O5.shp
          rw [hel] at hv5
          subst hv5
          clear hown' hgrow hblk
          go_wp2_with fail
          refine And.intro ⟨_, _, _, _, _, _, _, _, _, _, _, _, _, _, _, _, _, _, _, _, _, _, _, _, _, _, _, _, _, _, _, _, _, _, ?rel, rfl⟩ ?measure
          case rel => exact ⟨l'.eraseIdx q, o' ++ [z], r, rfl, HY.out.1, by rw [hel, HFF.out]; exact HY.out.2, by rw [hel, List.length_append]; simp; omega, by rw [hel]; exact HO2, O5.base_le w35, O4, ne5, vob, K5⟩
          case measure => exact Nat.lt_succ_self m
      · go_wp2
        go_region_law ((first
          | (refine step_append_at rfl (.tmp 35) (.tmp 39) 25 rfl w3.heap.size 2 i0 (.int .i64 0) 1 8 Tryz.underlying25 hi hz0 hz1 hz2 rfl (by decide) vc (l'.take q).length ((l'.take q).map (Value.int .i64)) rfl OC ⟨g, q + 1, none⟩ (m - q) (cap - (q + 1)) ((l'.drop (q + 1)).map (Value.int .i64)) rfl (by rw [List.length_map, DL, Nat.mul_one]) (CT _ kc) (ints_one _) (by unfold maxLen; omega) (by omega) (by have := kc.size; exact this) ?_
             intro v' w5 hown' hgrow hblk)
          | (go_simp
             refine (l1Copy_rd _ _ _ RC lt12).mono ?_
             rintro e w4 ⟨vc, rfl, OC, kc⟩)))
        all_goals
          have O5 : Own w5 w3.heap.size v' (l'.eraseIdx q) := by
            rw [HEQ.out]
            unfold Own
            rw [List.length_append, List.map_append, DL]
            exact hown'
          have kc3 : Keep w3 w4 := (Keep.refl w3).drew.trans kc
          have O4 := (O3.keep kc3).kept hgrow (apart_le (fun k hk => ov k hk) (fun k hk => OC.ge k hk))
          have K5 : Keep w w5 := (K3.trans kc3).grown hgrow (fun k hk => Nat.le_trans K3.size (OC.ge k hk))
          have ne5 : v'.ownBlock = none ∨ v'.ownBlock ≠ vo.ownBlock := apart_ge (fun k hk => ov k hk) (fun k hk => O5.ge k hk)
          have w35 := K3.size
          obtain ⟨a5, c5, hv5⟩ := O5.shp
          rw [hel] at hv5
          subst hv5
          clear hown' hgrow hblk
          go_wp2_with fail
          refine And.intro ⟨_, _, _, _, _, _, _, _, _, _, _, _, _, _, _, _, _, _, _, _, _, _, _, _, _, _, _, _, _, _, _, _, _, _, ?rel, rfl⟩ ?measure
          case rel => exact ⟨l'.eraseIdx q, o' ++ [z], r, rfl, HY.out.1, by rw [hel, HFF.out]; exact HY.out.2, by rw [hel, List.length_append]; simp; omega, by rw [hel]; exact HO2, O5.base_le w35, O4, ne5, vob, K5⟩
          case measure => exact Nat.lt_succ_self m
end Go.Proofs.YtkbkdlaknmgjpaaGreat
