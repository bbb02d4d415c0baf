/- Contract of the specification's l6Events: the events of a right work, in order. -/
import Derived.Test.YtkbkdlaknmgjpaaEvSt
import Derived.Test.YtkbkdlaknmgjpaaWorkEvS
import Derived.BigRegion
import Derived.Deep.CutRange
import Derived.Lib.Hide
namespace Go.Proofs.Ytkbkdlaknmgjpaa
open Go.ChangeShapes Go.WideShapes Go.ChangeAt Go.RowKit
theorem fstE_len (g : Int) (n : Nat) (f : List Int) : (fstE g n f).length = f.length := by unfold fstE; split <;> simp
set_option maxRecDepth 100000 in
set_option maxHeartbeats 4000000 in
theorem l6Events_any (w : World) (v : Value) (dss : List (List Dd)) (h : RdW w v dss) (hx : dss.length ≤ 3) (hok : ∀ i, i < dss.length → okL (dss.getD i []) = true) :
  Calls Try.prog 17 #[v] w fun e w' => ∃ v', e = .returned v' ∧ AppE w' w.heap.size v' (evsW dss dss.length) ∧ Keep w w' := by
 obtain ⟨a, c, rfl, h⟩ := h
 obtain ⟨i0, hi, hz0, hz1, hz2⟩ := info_parts Try.infoI
 obtain ⟨j0, hj, hy0, hy1, hy2⟩ := info_parts Try.infoE
 have A0 : AppE (w.alloc (.cells #[] 49)) w.heap.size (.slice (some ⟨w.heap.size, 0, none⟩) 0 0) [] := appT_empty w
 go_enter Try.func17, Try.ntmps17
 go_wp2
 go_loopw [3, 4] (fun v i wr => ∃ k : Nat, ∃ m : Int, ∃ es : List Ev, k ≤ 3 ∧ i = .int .i64 m ∧ m = (k : Int) ∧ Hid (es = evBeg.take k) ∧ es.length ≤ k ∧ AppE wr w.heap.size v es ∧ Keep w wr) (fun _ i _ => 3 - (intOf i).toNat)
 case atStart => exact ⟨0, 0, [], Nat.zero_le _, rfl, rfl, Lib.hid rfl, Nat.le_refl _, A0, (Keep.refl _).alloc _⟩
 case round =>
  obtain ⟨k, m, es, hk, rfl, hm, hE, hel, ho, hK⟩ := hrel
  clear A0
  have hsz := hK.size
  by_cases hlt : k < 3
  ·
   subst hm
   have HM : Hid (es ++ [((-1 : Int), (-1 : Int), false, (k : Int), 0, (k : Int))] = evBeg.take (k + 1)) := Lib.hid (by
    rw [hE.out]
    have : k = 0 ∨ k = 1 ∨ k = 2 := by omega
    rcases this with rfl | rfl | rfl <;> rfl)
   clear hE
   go_wp2_with (at_builtin; refine wpList_append_own_at _ rfl _ _ 38 rfl w.heap.size 49 j0 (.agg #[.int .i64 0, .int .i64 0, .bool false, .int .i64 0, .int .i64 0, .int .i64 0]) 6 48 Try.underlying38 hj hy0 hy1 hy2 rfl (by decide) _ _ _ rfl (ho.keep ((Keep.refl _).alloc _)) ⟨_, 0, none⟩ 1 1 (cE ((-1 : Int), (-1 : Int), false, (k : Int), 0, (k : Int))) rfl rfl ?c1 ?c2 ?c3 ?c4 ?c5 ?_)
   case c1 => exact cE_new _ _ _ _ _ _ _
   case c2 => exact cE_one _
   case c3 => unfold maxLen; omega
   case c4 => omega
   case c5 => simp; omega
   intro v' w1 hown' hgrow _ _
   have hK1 : Keep w w1 := (hK.alloc _).grown hgrow ho.ge
   have hA := appT_hit hown'
   clear hgrow hown'
   go_wp2
   go_roundw
   case rel => exact ⟨k + 1, _, _, by omega, rfl, by omega, HM, by simp; omega, hA, hK1⟩
   case measure => simp [intOf]; omega
  obtain rfl : m = 3 := by omega
  have HB : Hid (es = evsW dss 0) := Lib.hid (by rw [hE.out, show k = 3 by omega]; rfl)
  clear hE hm
  go_wp2
  go_loopw [3, 5] (fun v i wr => ∃ k : Nat, ∃ es : List Ev, k ≤ dss.length ∧ i = .int .i64 k ∧ Hid (es = evsW dss k) ∧ es.length ≤ 3 + 10 * k ∧ AppE wr w.heap.size v es ∧ Keep w wr) (fun _ i _ => dss.length - (intOf i).toNat)
  case atStart => exact ⟨0, es, Nat.zero_le _, rfl, HB, by omega, ho, hK⟩
  case round =>
   clear HB hel ho hK hsz hlt hk
   obtain ⟨k, es, hk, rfl, hE, hel, ho, hK⟩ := hrel
   have hsz := hK.size
   by_cases hlt : k < dss.length
   ·
    rcases h with h | ⟨b, o, rfl, hb, hc⟩
    ·
     exfalso; rw [h] at hlt; simp at hlt
    obtain ⟨u, e1, r1⟩ := hc k hlt
    have okk := hok k hlt
    clear hc hok
    obtain ⟨ds, hds⟩ : ∃ ds, ds = dss.getD k [] := ⟨_, rfl⟩
    have HDS := Lib.hid hds
    rw [← hds] at r1 okk
    clear hds
    obtain ⟨ai, ci, rfl, r1⟩ := r1
    have d1 := (hK.cell hb).trans e1
    have i1 : (0 : Int) ≤ (k : Int) := Int.natCast_nonneg _
    have i2 : (k : Int) < (dss.length : Int) := by omega
    have hl5 : ds.length ≤ 5 := by simp [okL] at okk; omega
    obtain ⟨wo, hwo⟩ : ∃ wo : World, wo = wr := ⟨_, rfl⟩
    subst hwo
    go_wp2_with (at_make; refine wpList_make_full _ rfl _ _ 23 rfl wo.heap.size 2 i0 (.int .i64 0) 1 Try.underlying23 hi hz0 hz1 .i64 .i64 _ _ 10 rfl rfl rfl rfl (by rw [hz2]; omega) (by unfold maxLen; omega) (Nat.le_refl _) ?_; intro w1 hown hgrow)
    have k1 : Keep wo w1 := (Keep.refl wo).grown hgrow (by simp)
    have rb : RowAt w1 wo.heap.size (List.replicate 10 0) := by
     have o : Own w1 wo.heap.size (.slice (some ⟨wo.heap.size, 0, none⟩) 10 10) (List.replicate 10 0) := by
      rw [made_ten] at hown; unfold Own; simpa using hown
     rcases o.row with ⟨e, _⟩ | ⟨g, cap, e, _, hr⟩
     ·
      cases e
     ·
      have e1 := congrArg Value.ownBlock e
      simp [Value.ownBlock] at e1
      rw [e1]; exact hr
    clear hgrow hown
    have L0 : InL w w1 wo.heap.size _ es (List.replicate 10 0) := ⟨ho.keep k1, rb, hK.trans k1, hsz, fun e => by have := (ho.lt _ e).2; omega⟩
    go_loopw [3, 7] (fun v i wq => ∃ q : Nat, ∃ evs : List Ev, ∃ f : List Int, q ≤ ds.length ∧ i = .int .i64 q ∧ Hid (clkE k ds es q = (evs, f)) ∧ Hid (f.length = 10) ∧ evs.length ≤ 3 + 10 * k + 2 * q ∧ InL w wq wo.heap.size v evs f) (fun _ i _ => ds.length - (intOf i).toNat)
    case atStart => exact ⟨0, es, _, Nat.zero_le _, rfl, Lib.hid rfl, Lib.hid rfl, by omega, L0⟩
    case round =>
     clear L0 rb k1 w1 d1
     obtain ⟨q, evs, f, hq, rfl, hC, hfl, hev, hI⟩ := hrel
     have d1 := (hI.keep.cell hb).trans e1
     have hbq : b < wr.heap.size := Nat.lt_of_lt_of_le hb hI.keep.size
     by_cases hlq : q < ds.length
     ·
      rcases r1 with h | ⟨b2, o2, rfl, hb2, hc2⟩
      ·
       exfalso; rw [h] at hlq; simp at hlq
      have AT := (hc2 q hlq).keep hb2 hI.keep
      have okq : okD (ds.getD q zD) = true := by
       simp only [okL, Bool.and_eq_true] at okk
       exact all_get zD okk.1 q hlq
      clear hc2 okk
      have hb3 : b2 < wr.heap.size := Nat.lt_of_lt_of_le hb2 hI.keep.size
      have HST : Hid (clkE k ds es (q + 1) = stepE k q (ds.getD q zD) (evs, f)) := Lib.hid (by rw [clkE, hC.out])
      clear hC
      obtain ⟨d, hd⟩ : ∃ d, d = ds.getD q zD := ⟨_, rfl⟩
      rw [← hd] at AT okq HST
      clear hd
      have KD := okD_kindE okq
      have RD := okD_restE okq
      obtain ⟨x0, x1, x2, x3⟩ := d
      obtain ⟨A0, A1, A2, A3⟩ := AT
      simp only at A0 A1 A2 A3 KD RD
      obtain ⟨-, -, r2, r3, r4⟩ := RD
      obtain ⟨g, rfl⟩ := Int.eq_ofNat_of_zero_le r2
      have j1 : (0 : Int) ≤ (q : Int) := Int.natCast_nonneg _
      have j2 : (q : Int) < (ds.length : Int) := by omega
      have j3 : (0 : Int) ≤ (g : Int) := Int.natCast_nonneg _
      have j4 : (g : Int) < 10 := by omega
      have hg9 : g < 10 := by omega
      clear r2 r3 okq
      obtain ⟨av, cv, rfl⟩ := hI.app.shape
      rcases KD with rfl | rfl | rfl | rfl
      ·
       obtain ⟨f', hf'⟩ : ∃ f', f' = fstE (g : Int) evs.length f := ⟨_, rfl⟩
       obtain ⟨cl, hcl⟩ : ∃ cl, cl = clsE (g : Int) evs.length f := ⟨_, rfl⟩
       have HS : Hid (clkE k ds es (q + 1) = (evs ++ [((k : Int), (q : Int), true, x1, 0, cl)], f')) := Lib.hid (by rw [HST.out, hf', hcl]; rfl)
       have hfl' : Hid (f'.length = 10) := Lib.hid (by rw [hf', fstE_len]; exact hfl.out)
       have HF := Lib.hid hf'
       have HC := Lib.hid hcl
       clear HST hf' hcl
       clear r4
       go_upto_if 61 with fail
       have I1 := hI.boxes 1 x1 x2 (g : Int) (k : Int) (q : Int) true x1 0 (evs.length : Int)
       go_cut [] from 29 to 99 (fun wx => InE w wx wo.heap.size wr.heap.size (wr.heap.size + 1) (.slice av evs.length cv) evs f 1 x1 x2 g k q true x1 0 evs.length)
       case first =>
        go_wp2
        go_meet
        case rel => exact I1
       case rest =>
        clear I1 A0 A1 A2 A3 d1
        have IH := hcut
        clear hcut
        obtain ⟨t0, t1, t2, t3⟩ := IH.deed
        obtain ⟨s0, s1, s2, s3, s4, s5⟩ := IH.event
        have F2 := IH.free 2
        have F4 := IH.free 4
        have F5 := IH.free 5
        obtain ⟨z1, z2, z3⟩ := IH.lt
        go_upto_if 67 with fail
        go_cut [] from 29 to 99 (fun wx => InE w wx wo.heap.size wr.heap.size (wr.heap.size + 1) (.slice av evs.length cv) evs f' 1 x1 x2 g k q true x1 0 cl)
        case first =>
         by_cases g0 : g = 0
         ·
          have n0 : (g : Int) ≤ 0 := by omega
          have E1 : Hid (f' = f) := Lib.hid (by rw [HF.out, fstE, if_neg (by omega)])
          have E2 : Hid (cl = (evs.length : Int)) := Lib.hid (by rw [HC.out, clsE, if_neg (by omega)])
          go_wp2
          go_meet
          case rel => rw [E1.out, E2.out]; exact IH
         ·
          have n0 : (0 : Int) < (g : Int) := by omega
          have gg : Hid (f'.getD g 0 = cl) := Lib.hid (by rw [HC.out, HF.out, clsE, if_pos n0, Int.toNat_natCast])
          have hRC := IH.l.row.cell (j := g) (by rw [hfl.out]; exact hg9)
          obtain ⟨y, hy⟩ : ∃ y, y = f.getD g 0 := ⟨_, rfl⟩
          rw [← hy] at hRC
          have HY := Lib.hid hy
          have FG := IH.l.row.free g
          clear hy g0
          go_upto_if 73 with fail
          go_cut [] from 29 to 99 (fun wx => InE w wx wo.heap.size wr.heap.size (wr.heap.size + 1) (.slice av evs.length cv) evs f' 1 x1 x2 g k q true x1 0 evs.length)
          case first =>
           by_cases y0 : y = 0
           ·
            have E1 : Hid (f' = f.set g (evs.length : Int)) := Lib.hid (by rw [HF.out, fstE, Int.toNat_natCast, if_pos ⟨n0, by rw [← HY.out]; exact y0⟩])
            subst y0
            go_wp2
            go_meet
            case rel => rw [E1.out]; exact IH.setF g _
           ·
            have E1 : Hid (f' = f) := Lib.hid (by rw [HF.out, fstE, Int.toNat_natCast, if_neg (fun e => y0 (HY.out.trans e.2))])
            have ey : (y == 0) = false := by simp [y0]
            clear y0
            go_wp2
            go_meet
            case rel => rw [E1.out]; exact IH
          case rest =>
           clear t0 t1 t2 t3 s0 s1 s2 s3 s4 s5 F2 F4 F5 z1 z2 z3
           clear hRC FG IH
           have hRC := hcut.l.row.cell (j := g) (by rw [hfl'.out]; exact hg9)
           rw [gg.out] at hRC
           obtain ⟨t0, t1, t2, t3⟩ := hcut.deed
           obtain ⟨s0, s1, s2, s3, s4, s5⟩ := hcut.event
           have F2 := hcut.free 2
           have F4 := hcut.free 4
           have F5 := hcut.free 5
           obtain ⟨z1, z2, z3⟩ := hcut.lt
           go_wp2
           go_meet
           case rel => exact hcut.set5 _
        case rest =>
         clear t0 t1 t2 t3 s0 s1 s2 s3 s4 s5 F2 F4 F5 z1 z2 z3
         clear IH hI
         obtain ⟨t0, t1, t2, t3⟩ := hcut.deed
         obtain ⟨s0, s1, s2, s3, s4, s5⟩ := hcut.event
         have F2 := hcut.free 2
         have F4 := hcut.free 4
         have F5 := hcut.free 5
         obtain ⟨z1, z2, z3⟩ := hcut.lt
         go_wp2_with (at_builtin; refine wpList_append_own_at _ rfl _ _ 38 rfl w.heap.size 49 j0 (.agg #[.int .i64 0, .int .i64 0, .bool false, .int .i64 0, .int .i64 0, .int .i64 0]) 6 48 Try.underlying38 hj hy0 hy1 hy2 rfl (by decide) _ _ _ rfl (hcut.l.app.keep ((Keep.refl _).alloc _)) ⟨_, 0, none⟩ 1 1 (cE ((k : Int), (q : Int), true, x1, 0, cl)) rfl rfl ?a1 ?a2 ?a3 ?a4 ?a5 ?_)
         case a1 => exact cE_new _ _ _ _ _ _ _
         case a2 => exact cE_one _
         case a3 => unfold maxLen; omega
         case a4 => omega
         case a5 => simp; omega
         intro v' w5 hown' hgrow _ hbl
         have I5 := hcut.hit ((k : Int), (q : Int), true, x1, 0, cl) hown' hgrow hbl
         clear hown' hgrow hbl
         obtain ⟨es1, h1⟩ : ∃ es1, es1 = evs ++ [((k : Int), (q : Int), true, x1, 0, cl)] := ⟨_, rfl⟩
         have l1 : es1.length ≤ evs.length + 1 := by rw [h1]; simp
         rw [← h1] at I5
         clear t0 t1 t2 t3 s0 s1 s2 s3 s4 s5 F2 F4 F5 z1 z2 z3
         clear hcut
         obtain ⟨t0, t1, t2, t3⟩ := I5.deed
         obtain ⟨s0, s1, s2, s3, s4, s5⟩ := I5.event
         have F2 := I5.free 2
         have F4 := I5.free 4
         have F5 := I5.free 5
         obtain ⟨z1, z2, z3⟩ := I5.lt
         have HS1 : Hid (clkE k ds es (q + 1) = (es1, f')) := Lib.hid (by rw [HS.out, h1])
         clear h1 HS
         go_wp2
         go_roundw
         case rel => exact ⟨q + 1, es1, f', by omega, by go_num, HS1, hfl', by omega, I5.l⟩
         case measure => simp [intOf]; omega
      ·
       obtain ⟨f', hf'⟩ : ∃ f', f' = fstE (g : Int) evs.length f := ⟨_, rfl⟩
       obtain ⟨cl, hcl⟩ : ∃ cl, cl = clsE (g : Int) evs.length f := ⟨_, rfl⟩
       have HS : Hid (clkE k ds es (q + 1) = (evs ++ [((k : Int), (q : Int), false, x1, x2, cl)], f')) := Lib.hid (by rw [HST.out, hf', hcl]; rfl)
       have hfl' : Hid (f'.length = 10) := Lib.hid (by rw [hf', fstE_len]; exact hfl.out)
       have HF := Lib.hid hf'
       have HC := Lib.hid hcl
       clear HST hf' hcl
       clear r4
       go_upto_if 61 with fail
       have I1 := hI.boxes 2 x1 x2 (g : Int) (k : Int) (q : Int) false x1 x2 (evs.length : Int)
       go_cut [] from 29 to 99 (fun wx => InE w wx wo.heap.size wr.heap.size (wr.heap.size + 1) (.slice av evs.length cv) evs f 2 x1 x2 g k q false x1 x2 evs.length)
       case first =>
        go_wp2
        go_meet
        case rel => exact I1
       case rest =>
        clear I1 A0 A1 A2 A3 d1
        have IH := hcut
        clear hcut
        obtain ⟨t0, t1, t2, t3⟩ := IH.deed
        obtain ⟨s0, s1, s2, s3, s4, s5⟩ := IH.event
        have F2 := IH.free 2
        have F4 := IH.free 4
        have F5 := IH.free 5
        obtain ⟨z1, z2, z3⟩ := IH.lt
        go_upto_if 67 with fail
        go_cut [] from 29 to 99 (fun wx => InE w wx wo.heap.size wr.heap.size (wr.heap.size + 1) (.slice av evs.length cv) evs f' 2 x1 x2 g k q false x1 x2 cl)
        case first =>
         by_cases g0 : g = 0
         ·
          have n0 : (g : Int) ≤ 0 := by omega
          have E1 : Hid (f' = f) := Lib.hid (by rw [HF.out, fstE, if_neg (by omega)])
          have E2 : Hid (cl = (evs.length : Int)) := Lib.hid (by rw [HC.out, clsE, if_neg (by omega)])
          go_wp2
          go_meet
          case rel => rw [E1.out, E2.out]; exact IH
         ·
          have n0 : (0 : Int) < (g : Int) := by omega
          have gg : Hid (f'.getD g 0 = cl) := Lib.hid (by rw [HC.out, HF.out, clsE, if_pos n0, Int.toNat_natCast])
          have hRC := IH.l.row.cell (j := g) (by rw [hfl.out]; exact hg9)
          obtain ⟨y, hy⟩ : ∃ y, y = f.getD g 0 := ⟨_, rfl⟩
          rw [← hy] at hRC
          have HY := Lib.hid hy
          have FG := IH.l.row.free g
          clear hy g0
          go_upto_if 73 with fail
          go_cut [] from 29 to 99 (fun wx => InE w wx wo.heap.size wr.heap.size (wr.heap.size + 1) (.slice av evs.length cv) evs f' 2 x1 x2 g k q false x1 x2 evs.length)
          case first =>
           by_cases y0 : y = 0
           ·
            have E1 : Hid (f' = f.set g (evs.length : Int)) := Lib.hid (by rw [HF.out, fstE, Int.toNat_natCast, if_pos ⟨n0, by rw [← HY.out]; exact y0⟩])
            subst y0
            go_wp2
            go_meet
            case rel => rw [E1.out]; exact IH.setF g _
           ·
            have E1 : Hid (f' = f) := Lib.hid (by rw [HF.out, fstE, Int.toNat_natCast, if_neg (fun e => y0 (HY.out.trans e.2))])
            have ey : (y == 0) = false := by simp [y0]
            clear y0
            go_wp2
            go_meet
            case rel => rw [E1.out]; exact IH
          case rest =>
           clear t0 t1 t2 t3 s0 s1 s2 s3 s4 s5 F2 F4 F5 z1 z2 z3
           clear hRC FG IH
           have hRC := hcut.l.row.cell (j := g) (by rw [hfl'.out]; exact hg9)
           rw [gg.out] at hRC
           obtain ⟨t0, t1, t2, t3⟩ := hcut.deed
           obtain ⟨s0, s1, s2, s3, s4, s5⟩ := hcut.event
           have F2 := hcut.free 2
           have F4 := hcut.free 4
           have F5 := hcut.free 5
           obtain ⟨z1, z2, z3⟩ := hcut.lt
           go_wp2
           go_meet
           case rel => exact hcut.set5 _
        case rest =>
         clear t0 t1 t2 t3 s0 s1 s2 s3 s4 s5 F2 F4 F5 z1 z2 z3
         clear IH hI
         obtain ⟨t0, t1, t2, t3⟩ := hcut.deed
         obtain ⟨s0, s1, s2, s3, s4, s5⟩ := hcut.event
         have F2 := hcut.free 2
         have F4 := hcut.free 4
         have F5 := hcut.free 5
         obtain ⟨z1, z2, z3⟩ := hcut.lt
         go_wp2_with (at_builtin; refine wpList_append_own_at _ rfl _ _ 38 rfl w.heap.size 49 j0 (.agg #[.int .i64 0, .int .i64 0, .bool false, .int .i64 0, .int .i64 0, .int .i64 0]) 6 48 Try.underlying38 hj hy0 hy1 hy2 rfl (by decide) _ _ _ rfl (hcut.l.app.keep ((Keep.refl _).alloc _)) ⟨_, 0, none⟩ 1 1 (cE ((k : Int), (q : Int), false, x1, x2, cl)) rfl rfl ?a1 ?a2 ?a3 ?a4 ?a5 ?_)
         case a1 => exact cE_new _ _ _ _ _ _ _
         case a2 => exact cE_one _
         case a3 => unfold maxLen; omega
         case a4 => omega
         case a5 => simp; omega
         intro v' w5 hown' hgrow _ hbl
         have I5 := hcut.hit ((k : Int), (q : Int), false, x1, x2, cl) hown' hgrow hbl
         clear hown' hgrow hbl
         obtain ⟨es1, h1⟩ : ∃ es1, es1 = evs ++ [((k : Int), (q : Int), false, x1, x2, cl)] := ⟨_, rfl⟩
         have l1 : es1.length ≤ evs.length + 1 := by rw [h1]; simp
         rw [← h1] at I5
         clear t0 t1 t2 t3 s0 s1 s2 s3 s4 s5 F2 F4 F5 z1 z2 z3
         clear hcut
         obtain ⟨t0, t1, t2, t3⟩ := I5.deed
         obtain ⟨s0, s1, s2, s3, s4, s5⟩ := I5.event
         have F2 := I5.free 2
         have F4 := I5.free 4
         have F5 := I5.free 5
         obtain ⟨z1, z2, z3⟩ := I5.lt
         have HS1 : Hid (clkE k ds es (q + 1) = (es1, f')) := Lib.hid (by rw [HS.out, h1])
         clear h1 HS
         go_wp2
         go_roundw
         case rel => exact ⟨q + 1, es1, f', by omega, by go_num, HS1, hfl', by omega, I5.l⟩
         case measure => simp [intOf]; omega
      ·
       obtain ⟨f', hf'⟩ : ∃ f', f' = fstE (g : Int) evs.length f := ⟨_, rfl⟩
       obtain ⟨cl, hcl⟩ : ∃ cl, cl = clsE (g : Int) evs.length f := ⟨_, rfl⟩
       have HS : Hid (clkE k ds es (q + 1) = (evs ++ [((k : Int), (q : Int), true, x1, 0, cl), ((k : Int), (q : Int), false, x1, x2, cl)], f')) := Lib.hid (by rw [HST.out, hf', hcl]; rfl)
       have hfl' : Hid (f'.length = 10) := Lib.hid (by rw [hf', fstE_len]; exact hfl.out)
       have HF := Lib.hid hf'
       have HC := Lib.hid hcl
       clear HST hf' hcl
       have n0 : (g : Int) ≤ 0 := by have := r4 (by omega); omega
       clear r4
       go_upto_if 61 with fail
       have I1 := hI.boxes 3 x1 x2 (g : Int) (k : Int) (q : Int) true x1 0 (evs.length : Int)
       go_cut [] from 29 to 99 (fun wx => InE w wx wo.heap.size wr.heap.size (wr.heap.size + 1) (.slice av evs.length cv) evs f 3 x1 x2 g k q true x1 0 evs.length)
       case first =>
        go_wp2
        go_meet
        case rel => exact I1
       case rest =>
        clear I1 A0 A1 A2 A3 d1
        have IH := hcut
        clear hcut
        obtain ⟨t0, t1, t2, t3⟩ := IH.deed
        obtain ⟨s0, s1, s2, s3, s4, s5⟩ := IH.event
        have F2 := IH.free 2
        have F4 := IH.free 4
        have F5 := IH.free 5
        obtain ⟨z1, z2, z3⟩ := IH.lt
        go_upto_if 67 with fail
        go_cut [] from 29 to 99 (fun wx => InE w wx wo.heap.size wr.heap.size (wr.heap.size + 1) (.slice av evs.length cv) evs f' 3 x1 x2 g k q true x1 0 cl)
        case first =>
         have E1 : Hid (f' = f) := Lib.hid (by rw [HF.out, fstE, if_neg (by omega)])
         have E2 : Hid (cl = (evs.length : Int)) := Lib.hid (by rw [HC.out, clsE, if_neg (by omega)])
         go_wp2
         go_meet
         case rel => rw [E1.out, E2.out]; exact IH
        case rest =>
         clear t0 t1 t2 t3 s0 s1 s2 s3 s4 s5 F2 F4 F5 z1 z2 z3
         clear IH hI
         obtain ⟨t0, t1, t2, t3⟩ := hcut.deed
         obtain ⟨s0, s1, s2, s3, s4, s5⟩ := hcut.event
         have F2 := hcut.free 2
         have F4 := hcut.free 4
         have F5 := hcut.free 5
         obtain ⟨z1, z2, z3⟩ := hcut.lt
         go_wp2_with (at_builtin; refine wpList_append_own_at _ rfl _ _ 38 rfl w.heap.size 49 j0 (.agg #[.int .i64 0, .int .i64 0, .bool false, .int .i64 0, .int .i64 0, .int .i64 0]) 6 48 Try.underlying38 hj hy0 hy1 hy2 rfl (by decide) _ _ _ rfl (hcut.l.app.keep ((Keep.refl _).alloc _)) ⟨_, 0, none⟩ 1 1 (cE ((k : Int), (q : Int), true, x1, 0, cl)) rfl rfl ?a1 ?a2 ?a3 ?a4 ?a5 ?_)
         case a1 => exact cE_new _ _ _ _ _ _ _
         case a2 => exact cE_one _
         case a3 => unfold maxLen; omega
         case a4 => omega
         case a5 => simp; omega
         intro v' w5 hown' hgrow _ hbl
         have I5 := hcut.hit ((k : Int), (q : Int), true, x1, 0, cl) hown' hgrow hbl
         clear hown' hgrow hbl
         obtain ⟨es1, h1⟩ : ∃ es1, es1 = evs ++ [((k : Int), (q : Int), true, x1, 0, cl)] := ⟨_, rfl⟩
         have l1 : es1.length ≤ evs.length + 1 := by rw [h1]; simp
         rw [← h1] at I5
         clear t0 t1 t2 t3 s0 s1 s2 s3 s4 s5 F2 F4 F5 z1 z2 z3
         clear hcut
         obtain ⟨t0, t1, t2, t3⟩ := I5.deed
         obtain ⟨s0, s1, s2, s3, s4, s5⟩ := I5.event
         have F2 := I5.free 2
         have F4 := I5.free 4
         have F5 := I5.free 5
         obtain ⟨z1, z2, z3⟩ := I5.lt
         have HS1 : Hid (clkE k ds es (q + 1) = (es1 ++ [((k : Int), (q : Int), false, x1, x2, cl)], f')) := Lib.hid (by rw [HS.out, h1, List.append_assoc]; rfl)
         clear h1 HS
         go_upto_region 26 with fail
         have zz : w.heap.size ≤ w5.heap.size := I5.l.keep.size
         have I6 := I5.set2 false
         clear t0 t1 t2 t3 s0 s1 s2 s3 s4 s5 F2 F4 F5 z1 z2 z3
         obtain ⟨t0, t1, t2, t3⟩ := I6.deed
         obtain ⟨s0, s1, s2, s3, s4, s5⟩ := I6.event
         have F2 := I6.free 2
         have F4 := I6.free 4
         have F5 := I6.free 5
         obtain ⟨z1, z2, z3⟩ := I6.lt
         go_upto_region 27 with fail
         have I7 := I6.set4 x2
         clear t0 t1 t2 t3 s0 s1 s2 s3 s4 s5 F2 F4 F5 z1 z2 z3
         obtain ⟨t0, t1, t2, t3⟩ := I7.deed
         obtain ⟨s0, s1, s2, s3, s4, s5⟩ := I7.event
         have F2 := I7.free 2
         have F4 := I7.free 4
         have F5 := I7.free 5
         obtain ⟨z1, z2, z3⟩ := I7.lt
         go_wp2_with (at_builtin; refine wpList_append_own_at _ rfl _ _ 38 rfl w.heap.size 49 j0 (.agg #[.int .i64 0, .int .i64 0, .bool false, .int .i64 0, .int .i64 0, .int .i64 0]) 6 48 Try.underlying38 hj hy0 hy1 hy2 rfl (by decide) _ _ _ rfl (I7.l.app.keep ((Keep.refl _).alloc _)) ⟨_, 0, none⟩ 1 1 (cE ((k : Int), (q : Int), false, x1, x2, cl)) rfl rfl ?b1 ?b2 ?b3 ?b4 ?b5 ?_)
         case b1 => exact cE_newAt _ _ (by simp) _ _ _ _ _ _
         case b2 => exact cE_one _
         case b3 => unfold maxLen; omega
         case b4 => omega
         case b5 => simp; omega
         intro v' w5 hown' hgrow _ hbl
         have I8 := I7.hit ((k : Int), (q : Int), false, x1, x2, cl) hown' hgrow (by simpa using hbl)
         clear hown' hgrow hbl
         clear t0 t1 t2 t3 s0 s1 s2 s3 s4 s5 F2 F4 F5 z1 z2 z3
         clear I5 I6 I7
         go_wp2
         go_roundw
         case rel => exact ⟨q + 1, _, f', by omega, by go_num, HS1, hfl', by simp; omega, I8.l⟩
         case measure => simp [intOf]; omega
      ·
       have HS : Hid (clkE k ds es (q + 1) = (evs, f)) := Lib.hid (by rw [HST.out]; rfl)
       clear HST r4
       go_wp2
       go_roundw
       case rel => exact ⟨q + 1, evs, f, by omega, by go_num, HS, hfl, by omega, hI.more ((Keep.refl _).alloc _)⟩
       case measure => simp [intOf]; omega
     ·
      obtain rfl : q = ds.length := by omega
      go_wp2
      go_roundw
      case rel => exact ⟨k + 1, evs, by omega, by go_num, Lib.hid (by rw [evsW, ← HDS.out, ← hE.out, hC.out]), by omega, hI.app, hI.keep⟩
      case measure => simp [intOf]; omega
   ·
    obtain rfl : k = dss.length := by omega
    go_wp2
    go_ret
    exact ⟨_, rfl, by rw [← hE.out]; exact ho, hK⟩
end Go.Proofs.Ytkbkdlaknmgjpaa
