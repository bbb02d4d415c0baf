/- Gathered texts. -/
import Derived.Deep.Cut
import Derived.Test.YtgakfkjjkobpiaaMK
import Derived.Test.YtgakfkjjkobpiaaMO
import Derived.Maps.AppendAt
import Derived.Defers
import Derived.Recover
import Derived.Lib.Hide
import Derived.Laws.Rows
set_option maxRecDepth 100000
set_option maxHeartbeats 8000000
namespace Go.Proofs.Ytgakfkjjkobpiaa
open Go.ChangeShapes Go.WideShapes Go.ChangeAt Go.RowKit
theorem copiedWork_any (w : World) (v : Value) (dss : List (List Dd)) (h : RdW w v dss) (hx : dss.length ≤ 1048576) (hm : ∀ i, i < dss.length → (dss.getD i []).length ≤ 1048576) :
    Calls Try.prog 86 #[v] w fun e w' => ∃ v' V, e = .returned v' ∧ AppX w' w.heap.size w'.heap.size v' V dss ∧ Keep w w' := by
  obtain ⟨aD, cDd, rfl, h⟩ := h
  obtain ⟨i0, hi, hz0, hz1, hz2⟩ := info_parts Try.infoDd
  obtain ⟨j0, hj, hy0, hy1, hy2⟩ := info_parts Try.infoDl
  have hown0 : AppX (w.alloc (.cells #[] 72)) w.heap.size (w.alloc (.cells #[] 72)).heap.size (.slice (some ⟨w.heap.size, 0, none⟩) 0 0) (fun _ => vZ) (dss.take 0) := by
    rw [List.take_zero]
    exact ⟨World.ownsRow_lit w #[] 0 (Nat.le_refl _) (by decide) rfl, fun k hk => by simp [Value.ownBlock] at hk; subst hk; simp, fun i hi => by simp at hi, fun i hi => by simp at hi, fun i hi => by simp at hi, fun i j _ hj => by simp at hj⟩
  go_enter Try.func86, Try.ntmps86
  go_wp2
  go_loopw [3, 5, 9] (fun v0 _ i wr => ∃ (k : Nat) (v : Value) (V : Nat → Value), v = v0 ∧ k ≤ dss.length ∧ i = .int .i64 k ∧ AppX wr w.heap.size wr.heap.size v V (dss.take k) ∧ Keep w wr) (fun _ _ i _ => dss.length - (intOf i).toNat)
  case atStart => exact ⟨0, _, _, rfl, Nat.zero_le _, rfl, hown0, (Keep.refl _).alloc _⟩
  case round =>
    obtain ⟨k, v, V, rfl, hk, rfl, ho, hK⟩ := hrel
    clear hown0
    by_cases hlt : k < dss.length
    · rcases h with h0 | ⟨b, off, rfl, hb, hc⟩
      · exfalso; rw [h0] at hlt; simp at hlt
      obtain ⟨vi, d1, r1⟩ := hc k hlt
      have d2 := (hK.cell hb).trans d1
      have r2 := r1.keep hK
      have hml := hm k hlt
      have HT : Hid (dss.take (k + 1) = dss.take k ++ [dss.getD k []]) := Lib.hid (by
        rw [List.take_add_one, List.getD_eq_getElem?_getD, List.getElem?_eq_getElem hlt]; rfl)
      have hlen : (dss.take k).length = k := by rw [List.length_take]; omega
      generalize dss.getD k [] = ds at *
      obtain ⟨ai, ci, rfl, r2⟩ := r2
      have i1 : (0 : Int) ≤ (k : Int) := Int.natCast_nonneg _
      have i2 : (k : Int) < (dss.length : Int) := by omega
      have hsz := hK.size
      clear hc d1 r1
      have OE : (wr.alloc (.cells #[] 98)).ownsRow wr.heap.size 98 4 (.slice (some ⟨wr.heap.size, 0, none⟩) 0 0) 0 [] := World.ownsRow_lit wr #[] 0 (Nat.le_refl _) (by decide) rfl
      have d3 : (wr.alloc (.cells #[] 98)).cell? ⟨b, off + k, none⟩ = some (.slice ai ds.length (ds.length + ci)) := (((Keep.refl wr).alloc _).cell (Nat.lt_of_lt_of_le hb hsz)).trans d2
      rcases r2 with h0 | ⟨bd, od, rfl, hbd, hcd⟩
      · subst h0
        cases ai with
        | none =>
          have OD : AppD (wr.alloc (.cells #[] 98)) wr.heap.size (.slice (some ⟨wr.heap.size, 0, none⟩) 0 0) [] := OE
          have k5 : Keep wr (wr.alloc (.cells #[] 98)) := (Keep.refl wr).alloc _
          have HX5 := (ho.keep k5).keep ((Keep.refl (wr.alloc (.cells #[] 98))).alloc (.cells #[.slice (some ⟨wr.heap.size, 0, none⟩) 0 0] 72))
          have HR := HX5.row
          rw [hlen] at HR
          have OD6 := OD.keep ((Keep.refl (wr.alloc (.cells #[] 98))).alloc (.cells #[.slice (some ⟨wr.heap.size, 0, none⟩) 0 0] 72))
          have s5 := k5.size
          go_wp2_with (at_builtin; refine wpList_append_own_at _ rfl _ _ 24 rfl w.heap.size 72 j0 (.slice none 0 0) 1 24 Try.underlying24 hj hy0 hy1 hy2 rfl (by decide) _ _ _ rfl HR ⟨_, 0, none⟩ 1 1 [.slice (some ⟨wr.heap.size, 0, none⟩) 0 0] rfl rfl ?e1 ?e2 ?e3 ?e4 ?e5 ?_)
          case e1 =>
            intro j u hj
            match j, hj with
            | 0, hj => simp at hj; subst hj; simp [Addr.add]
          case e2 => intro u hu; simp at hu; subst hu; rfl
          case e3 => unfold maxLen; omega
          case e4 => omega
          case e5 => simp; omega
          intro v' w7 hown7 hgrow7 _ hblk7
          have HP := HX5.push OD6 hsz (by rw [hlen]; exact hown7) hgrow7 (by rw [heap_size, heap_size]; exact hblk7) (by simp; omega)
          have K7 : Keep w w7 := ((hK.trans k5).alloc _).grown hgrow7 (fun k hk => (World.ownsRow.lt HR k hk).1)
          clear hown7 hgrow7 hblk7 HR HX5 OD6
          go_wp2
          go_roundw
          case rel => exact ⟨k + 1, _, _, rfl, by omega, by go_num, by rw [HT.out]; exact HP, K7⟩
          case measure => simp [intOf]; omega
        | some x =>
          go_wp2_with (at_builtin; refine wpList_append_own _ rfl _ _ 72 rfl wr.heap.size 98 i0 (.agg #[.int .i64 0, .int .i64 0, .int .i64 0, .int .i64 0]) 4 32 Try.underlying72 hi hz0 hz1 hz2 rfl (by decide) _ _ _ rfl OE x 0 ci [] rfl rfl ?c1 ?c2 ?c3 ?c4 ?c5 ?_)
          case c1 => intro j u hj; simp at hj
          case c2 => intro u hu; simp at hu
          case c3 => simp
          case c4 => simp
          case c5 => simp
          intro u w5 hown5 hgrow5 _
          have OD : AppD w5 wr.heap.size u [] := by unfold AppD; simpa using hown5
          have k5 : Keep wr w5 := ((Keep.refl wr).alloc (.cells #[] 98)).grown hgrow5 (fun k hk => (World.ownsRow.lt OE k hk).1)
          clear hown5 hgrow5
          obtain ⟨au, cu, hu⟩ : ∃ a c, u = .slice a 0 c := OD.shape
          subst hu
          have HX5 := (ho.keep k5).keep ((Keep.refl w5).alloc (.cells #[.slice au 0 cu] 72))
          have HR := HX5.row
          rw [hlen] at HR
          have OD6 := OD.keep ((Keep.refl w5).alloc (.cells #[.slice au 0 cu] 72))
          have s5 := k5.size
          go_wp2_with (at_builtin; refine wpList_append_own_at _ rfl _ _ 24 rfl w.heap.size 72 j0 (.slice none 0 0) 1 24 Try.underlying24 hj hy0 hy1 hy2 rfl (by decide) _ _ _ rfl HR ⟨_, 0, none⟩ 1 1 [.slice au 0 cu] rfl rfl ?e1 ?e2 ?e3 ?e4 ?e5 ?_)
          case e1 =>
            intro j u hj
            match j, hj with
            | 0, hj => simp at hj; subst hj; simp [Addr.add]
          case e2 => intro u hu; simp at hu; subst hu; rfl
          case e3 => unfold maxLen; omega
          case e4 => omega
          case e5 => simp; omega
          intro v' w7 hown7 hgrow7 _ hblk7
          have HP := HX5.push OD6 hsz (by rw [hlen]; exact hown7) hgrow7 (by rw [heap_size]; exact hblk7) (by simp; omega)
          have K7 : Keep w w7 := ((hK.trans k5).alloc _).grown hgrow7 (fun k hk => (World.ownsRow.lt HR k hk).1)
          clear hown7 hgrow7 hblk7 HR HX5 OD6
          go_wp2
          go_roundw
          case rel => exact ⟨k + 1, _, _, rfl, by omega, by go_num, by rw [HT.out]; exact HP, K7⟩
          case measure => simp [intOf]; omega
      · have NC := dds_cells (w := wr.alloc (.cells #[] 98)) (b := bd) (off := od) (ds := ds) (fun i hi => (hcd i hi).keep hbd ((Keep.refl wr).alloc _))
        go_wp2_with (at_builtin; refine wpList_append_own _ rfl _ _ 72 rfl wr.heap.size 98 i0 (.agg #[.int .i64 0, .int .i64 0, .int .i64 0, .int .i64 0]) 4 32 Try.underlying72 hi hz0 hz1 hz2 rfl (by decide) _ _ _ rfl OE ⟨bd, od, none⟩ ds.length (ds.length + ci) (ds.flatMap cD) rfl (dds_len ds) ?c1 ?c2 ?c3 ?c4 ?c5 ?_)
        case c1 => exact NC
        case c2 => exact dds_one ds
        case c3 => unfold maxLen; omega
        case c4 => omega
        case c5 => simp
        intro u w5 hown5 hgrow5 _
        have OD : AppD w5 wr.heap.size u ds := by unfold AppD; simpa using hown5
        have k5 : Keep wr w5 := ((Keep.refl wr).alloc (.cells #[] 98)).grown hgrow5 (fun k hk => (World.ownsRow.lt OE k hk).1)
        clear hown5 hgrow5
        obtain ⟨au, cu, hu⟩ := OD.shape
        subst hu
        have HX5 := (ho.keep k5).keep ((Keep.refl w5).alloc (.cells #[.slice au ds.length cu] 72))
        have HR := HX5.row
        rw [hlen] at HR
        have OD6 := OD.keep ((Keep.refl w5).alloc (.cells #[.slice au ds.length cu] 72))
        have s5 := k5.size
        go_wp2_with (at_builtin; refine wpList_append_own_at _ rfl _ _ 24 rfl w.heap.size 72 j0 (.slice none 0 0) 1 24 Try.underlying24 hj hy0 hy1 hy2 rfl (by decide) _ _ _ rfl HR ⟨_, 0, none⟩ 1 1 [.slice au ds.length cu] rfl rfl ?e1 ?e2 ?e3 ?e4 ?e5 ?_)
        case e1 =>
          intro j u hj
          match j, hj with
          | 0, hj => simp at hj; subst hj; simp [Addr.add]
        case e2 => intro u hu; simp at hu; subst hu; rfl
        case e3 => unfold maxLen; omega
        case e4 => omega
        case e5 => simp; omega
        intro v' w7 hown7 hgrow7 _ hblk7
        have HP := HX5.push OD6 hsz (by rw [hlen]; exact hown7) hgrow7 (by rw [heap_size]; exact hblk7) (by simp; omega)
        have K7 : Keep w w7 := ((hK.trans k5).alloc _).grown hgrow7 (fun k hk => (World.ownsRow.lt HR k hk).1)
        clear hown7 hgrow7 hblk7 HR HX5 OD6
        go_wp2
        go_roundw
        case rel => exact ⟨k + 1, _, _, rfl, by omega, by go_num, by rw [HT.out]; exact HP, K7⟩
        case measure => simp [intOf]; omega
    · obtain rfl : k = dss.length := by omega
      rw [List.take_length] at ho
      go_wp2
      go_ret
      exact ⟨_, _, rfl, ho, hK⟩
def nbA (k : Nat) : Bd := ⟨List.replicate k 0, (List.range k).map (fun (i : Nat) => (i : Int)), [], [], [], [], (List.range k).map (fun (i : Nat) => [(i : Int)])⟩
def nbB (k : Nat) : Bd := ⟨[0, 0, 0], [0, 1, 2], List.replicate k [], List.replicate k 0, [], [], [[0], [1], [2]]⟩
def nbC (n k : Nat) : Bd := ⟨[0, 0, 0], [0, 1, 2], List.replicate n [], List.replicate n 0, List.replicate k (-1), List.replicate k (-1), [[0], [1], [2]]⟩
theorem nbA_more (k : Nat) : nbA (k + 1) = { { { nbA k with plc := (nbA k).plc ++ [0] } with lst := (nbA k).lst ++ [(k : Int)] } with rws := (nbA k).rws ++ [[(k : Int)]] } := by
  unfold nbA
  simp only [List.range_succ, List.map_append, List.map_cons, List.map_nil, List.replicate_succ']
theorem nbB_more (k : Nat) : nbB (k + 1) = { { nbB k with nts := (nbB k).nts ++ [[]] } with nxt := (nbB k).nxt ++ [0] } := by
  unfold nbB
  simp only [List.replicate_succ']
theorem nbC_more (n k : Nat) : nbC n (k + 1) = { { nbC n k with sn := (nbC n k).sn ++ [-1] } with fr := (nbC n k).fr ++ [-1] } := by
  unfold nbC
  simp only [List.replicate_succ']
theorem rd_one (w : World) (x : Int) : Rd (w.alloc (.cells #[.int .i64 x] 2)) (.slice (some ⟨w.heap.size, 0, none⟩) 1 1) [x] :=
  ⟨_, 1, rfl, .inr ⟨w.heap.size, 0, rfl, by rw [heap_size]; omega, fun i hi => by
    obtain rfl : i = 0 := by simpa using hi
    rw [cell_of_row _ _ _ _ _ _ (heap_alloc_new w _)]; rfl⟩⟩
theorem newBoard_yes (w : World) (v : Value) (dss : List (List Dd)) (h : RdW w v dss) (hb : workB dss = true) (hx : dss.length ≤ 1048576) (hm : ∀ i, i < dss.length → (dss.getD i []).length ≤ 1048576) :
    Calls Try.prog 53 #[v] w fun e w' => ∃ bv nv rv wv, e = .returned (BV.agg bv) ∧ OwnA w' w.heap.size bv nv rv wv dss (newM dss) ∧ Keep w w' := by
  have CW := fun (W : World) (kW : Keep w W) => implWorkOk_any W _ dss (h.keep kW) hx hm
  have CC := fun (W : World) (kW : Keep w W) => copiedWork_any W _ dss (h.keep kW) hx hm
  have CE := fun (W : World) (kW : Keep w W) => implEventsOf_any W _ dss (h.keep kW) hx hm
  rw [hb] at CW
  have u1 := (workB_useR hb).1
  obtain ⟨aD, cDd, rfl, -⟩ := id h
  clear h hm hb
  obtain ⟨ng0, ngi, ngz0, ngz1, ngz2⟩ := info_parts Try.infoNl
  obtain ⟨ig0, igi, igz0, igz1, igz2⟩ := info_parts Try.infoIl
  obtain ⟨w1, hw1⟩ : ∃ W : World, W = w.alloc (.cells #[nilS, nilS, nilS, nilS, nilS, nilS, nilS, nilS] 29) := ⟨_, rfl⟩
  have K1 : Keep w w1 := by rw [hw1]; exact (Keep.refl w).alloc _
  have s1 : w1.heap.size = w.heap.size + 1 := by rw [hw1, heap_size]
  have hR1 : w1.heap[w.heap.size]? = some (.cells #[nilS, nilS, nilS, nilS, nilS, nilS, nilS, nilS] 29 (0, 0)) := by rw [hw1]; exact heap_alloc_new _ _
  go_enter Try.func53, Try.ntmps53
  go_upto_region 1 with fail
  rw [← hw1]
  clear hw1
  go_wp2_with fail
  refine (CW _ K1).mono ?_
  rintro e w2 ⟨rfl, k2⟩
  go_wp2_with fail
  refine (must_yes _).mono ?_
  rintro e w2 ⟨rfl, rfl⟩
  have K2 := K1.trans k2
  go_wp2_with fail
  refine (CC _ K2).mono ?_
  rintro e w3 ⟨v3, V, rfl, X3, k3⟩
  have s2 := k2.size
  have s3 := k3.size
  have LW3 := X3.ownLW
  have O3 := (ownVal_zero X3.rdX.upto (Nat.le_refl _) w1.heap.size).box (by omega)
  obtain ⟨a3, c3, hv3, -⟩ := id X3.rdW
  subst hv3
  obtain ⟨w4, hw4⟩ : ∃ W : World, W = w3.alloc (.cells #[.slice a3 dss.length c3, nilS, nilS, nilS, nilS, nilS, nilS, nilS] 29) := ⟨_, rfl⟩
  have k4 : Keep w3 w4 := by rw [hw4]; exact (Keep.refl w3).alloc _
  have s4 : w4.heap.size = w3.heap.size + 1 := by rw [hw4, heap_size]
  replace O3 : OwnBd w4 w1.heap.size w3.heap.size ⟨.slice a3 dss.length c3, nilS, nilS, nilS, nilS, nilS, nilS, nilS⟩ [] [] w2.heap.size w3.heap.size dss ⟨[], [], [], [], [], [], []⟩ := by rw [hw4]; exact O3
  clear X3
  go_upto_region 3 with fail
  rw [← hw4]
  clear hw4
  go_wp2_with fail
  refine (beginnings_any w4).mono ?_
  rintro e w5 ⟨v5, rfl, A5, k5⟩
  have s5 := k5.size
  have N5 := NB.start (O3.keep k5)
  have LW5 := Lib.hid (LW3.keep (k4.trans k5))
  have hR5 := Lib.hid ((Below.block ((k2.trans k3).trans (k4.trans k5)) w.heap.size (by omega)).trans hR1)
  have K5 := K2.trans (k3.trans (k4.trans k5))
  have hD : w1.heap.size ≤ w3.heap.size ∧ w3.heap.size < w4.heap.size := by omega
  have hbs : w1.heap.size ≤ w2.heap.size := s2
  have hD5 : w3.heap.size < w5.heap.size := by omega
  obtain ⟨ae, ce, hv5, -⟩ := id A5.rd
  rw [show evBeg.length = 3 from rfl] at hv5
  subst hv5
  clear LW3 O3 CW CC hR1 k2 k3 k4 k5 K1 K2
  have hmw : w.heap.size < w1.heap.size := by omega
  clear s1 s4 s3 s2 s5
  generalize w1.heap.size = m at *
  generalize w2.heap.size = bs at *
  generalize w3.heap.size = D at *
  go_wp2
  go_loopw [4, 14] (fun _ i wr => ∃ (k : Nat) (bv : BV) (rv : List Value), k ≤ 3 ∧ i = .int .i64 k ∧ Hid (bv.W = .slice a3 dss.length c3) ∧ NB w5 wr m D bv [] rv bs D dss (nbA k)) (fun _ i _ => 3 - (intOf i).toNat)
  case atStart => exact ⟨0, _, [], Nat.zero_le _, rfl, Lib.hid rfl, N5⟩
  case round =>
    obtain ⟨k, bv, rv, hk, rfl, hW, NR⟩ := hrel
    by_cases hlt : k < 3
    · have A5r : AppE wr w4.heap.size (.slice ae 3 (3 + ce)) evBeg := World.ownsRow.kept A5 NR.sm (ne_of_ge (fun q hq => (World.ownsRow.lt A5 q hq).1) hD.2)
      obtain ⟨a', c', he', hE⟩ := A5r.rd
      rw [show evBeg.length = 3 from rfl] at he'
      simp only [Value.slice.injEq, true_and] at he'
      obtain ⟨rfl, hce⟩ := he'
      rcases hE with h0 | ⟨bq, oq, rfl, hbq, hcq⟩
      · exact absurd h0 (by simp [evBeg])
      have hev : evBeg[k]? = some ((-1 : Int), (-1 : Int), false, (k : Int), (0 : Int), (k : Int)) := by
        have : k = 0 ∨ k = 1 ∨ k = 2 := by omega
        rcases this with rfl | rfl | rfl <;> rfl
      obtain ⟨q0, q1, q2, q3, q4, q5⟩ := atE (hcq k _ hev)
      have i1 : (0 : Int) ≤ (k : Int) := Int.natCast_nonneg _
      have i2 : (k : Int) < 3 := by omega
      obtain ⟨w6, hw6⟩ : ∃ W : World, W = wr.alloc (eO (-1) (-1) false k 0 k) := ⟨_, rfl⟩
      have k6 : Keep wr w6 := by rw [hw6]; exact (Keep.refl wr).alloc _
      have f4 : w6.cell? ⟨wr.heap.size, 4, none⟩ = some (.int .i64 0) := by rw [hw6, cell_of_row _ _ 4 _ _ _ (heap_alloc_new wr _)]; rfl
      have N6 := NR.keep k6
      clear hcq A5r NR hev hce k6
      go_upto_region 6 with fail
      rw [← hw6]
      clear hw6 q0 q1 q2 q3 q4 q5
      have Aa := N6.keep ((Keep.refl w6).alloc (.cells #[.int .i64 (0 : Int)] 2))
      obtain ⟨za0, za1, za2, za3, za4, za5, za6, za7⟩ := N6.ob.cells
      go_wp2_with (at_builtin; refine wpList_append_rd rfl _ _ rfl m _ _ rfl Aa.ob.oP _ rfl [(0 : Int)] (rd_one w6 (0 : Int)) (by unfold nbA; simp; omega) (by simp) (Nat.le_of_lt (Nat.lt_of_le_of_lt Aa.ob.base.1 Aa.ob.base.2)) ?_)
      intro ua xa Oa Ga Ba
      obtain ⟨la, HZa⟩ : ∃ l, Hid (l = (nbA k).plc ++ [(0 : Int)]) := ⟨_, Lib.hid rfl⟩
      replace Oa : Own xa m ua ((nbA k).plc ++ [(0 : Int)]) := Oa
      rw [← HZa.out] at Oa
      obtain ⟨Na, Ca, Fa⟩ := Aa.growP Ga (by rw [heap_size]; exact Ba) Oa
      obtain ⟨aua, cua, hua, -⟩ := id Oa.rd
      subst hua
      clear za0 za1 za2 za3 za4 za5 za6 za7 Aa N6 Oa Ga Ba
      go_upto_region 7 with fail
      generalize xa.setCell ⟨D, 1, none⟩ (.slice aua la.length cua) = ya at *
      clear Ca Fa
      have Ab := Na.keep ((Keep.refl ya).alloc (.cells #[.int .i64 (k : Int)] 2))
      obtain ⟨zb0, zb1, zb2, zb3, zb4, zb5, zb6, zb7⟩ := Na.ob.cells
      go_wp2_with (at_builtin; refine wpList_append_rd rfl _ _ rfl m _ _ rfl Ab.ob.oL _ rfl [(k : Int)] (rd_one ya (k : Int)) (by unfold nbA; simp; omega) (by simp) (Nat.le_of_lt (Nat.lt_of_le_of_lt Ab.ob.base.1 Ab.ob.base.2)) ?_)
      intro ub xb Ob Gb Bb
      obtain ⟨lb, HZb⟩ : ∃ l, Hid (l = (nbA k).lst ++ [(k : Int)]) := ⟨_, Lib.hid rfl⟩
      replace Ob : Own xb m ub ((nbA k).lst ++ [(k : Int)]) := Ob
      rw [← HZb.out] at Ob
      obtain ⟨Nb, Cb, Fb⟩ := Ab.growL Gb (by rw [heap_size]; exact Bb) Ob
      obtain ⟨aub, cub, hub, -⟩ := id Ob.rd
      subst hub
      clear zb0 zb1 zb2 zb3 zb4 zb5 zb6 zb7 Ab Na Ob Gb Bb
      go_upto_region 8 with fail
      generalize xb.setCell ⟨D, 2, none⟩ (.slice aub lb.length cub) = yb at *
      clear Cb Fb
      obtain ⟨zc0, zc1, zc2, zc3, zc4, zc5, zc6, zc7⟩ := Nb.ob.cells
      have kca : Keep yb (yb.alloc (.cells #[.int .i64 (k : Int)] 2)) := (Keep.refl yb).alloc _
      have kcb : Keep (yb.alloc (.cells #[.int .i64 (k : Int)] 2)) ((yb.alloc (.cells #[.int .i64 (k : Int)] 2)).alloc (.cells #[(Value.slice (some ⟨yb.heap.size, 0, none⟩) 1 1)] 25)) := (Keep.refl _).alloc _
      have kc := kca.trans kcb
      have hmc : m ≤ yb.heap.size := Nat.le_of_lt (Nat.lt_of_le_of_lt Nb.ob.base.1 Nb.ob.base.2)
      have oca : Own (yb.alloc (.cells #[.int .i64 (k : Int)] 2)) m (.slice (some ⟨yb.heap.size, 0, none⟩) 1 1) [(k : Int)] := World.ownsRow_lit yb #[.int .i64 (k : Int)] 1 hmc (by decide) rfl
      have oc := World.ownsRow.kept oca kcb.grownBy (by cases (Value.ownBlock (Value.slice (some ⟨yb.heap.size, 0, none⟩) 1 1)) <;> simp)
      have Rc : World.ownsRow _ m 25 1 bv.R rv.length rv := (Nb.keep kc).ob.fam.own .rws trivial
      have hnc : rv.length ≤ 3 := by rw [(Nb.ob).lr]; unfold nbA; simp; omega
      go_wp2_with (at_builtin; refine wpList_append_own_at _ rfl _ _ 27 rfl m 25 ig0 (.slice none 0 0) 1 24 Try.underlying27 igi igz0 igz1 igz2 rfl (by decide) _ _ _ rfl Rc ⟨_, 0, none⟩ 1 1 [(Value.slice (some ⟨yb.heap.size, 0, none⟩) 1 1)] rfl rfl (by intro j q hj; match j, hj with | 0, hj => (simp at hj; subst hj; simp [Addr.add])) (by intro q hq; simp at hq; subst hq; rfl) (by unfold maxLen; omega) (by omega) (by simp; omega) ?_)
      intro uc xc Pc Gc _ Bc
      obtain ⟨hc, HZc⟩ : ∃ l, Hid (l = rv ++ [(Value.slice (some ⟨yb.heap.size, 0, none⟩) 1 1)]) := ⟨_, Lib.hid rfl⟩
      have Qc : (hdR 25 (rv ++ [(Value.slice (some ⟨yb.heap.size, 0, none⟩) 1 1)]) uc).own xc m := by
        show xc.ownsRow m 25 1 uc (rv ++ [(Value.slice (some ⟨yb.heap.size, 0, none⟩) 1 1)]).length (rv ++ [(Value.slice (some ⟨yb.heap.size, 0, none⟩) 1 1)])
        rw [List.length_append]; exact Pc
      obtain ⟨Nc, Cc, Fc⟩ := Nb.pushR (u := (Value.slice (some ⟨yb.heap.size, 0, none⟩) 1 1)) kc (fun q hq => Nat.le_of_eq (Option.some.inj hq)) oc Gc (by rw [heap_size, heap_size]; exact Bc) Qc
      rw [← HZc.out] at Nc Qc
      obtain ⟨auc, cuc, huc, -⟩ := own_head Qc
      subst huc
      clear zc0 zc1 zc2 zc3 zc4 zc5 zc6 zc7 Nb Rc Pc Qc Gc Bc oc oca kc kca kcb hnc hmc
      go_upto_region 9 with fail
      generalize xc.setCell ⟨D, 7, none⟩ (.slice auc hc.length cuc) = yc at *
      clear Cc Fc
      obtain ⟨bz, hZ, NZ⟩ : ∃ bz : BV, Hid (bz.W = .slice a3 dss.length c3) ∧ NB w5 yc m D bz [] hc bs D dss (nbA (k + 1)) := by
        rw [nbA_more, ← HZa.out, ← HZb.out]
        refine ⟨_, ?_, Nc⟩
        exact hW
      clear Nc HZa HZb HZc
      go_wp2
      go_roundw
      case rel => exact ⟨k + 1, bz, hc, by omega, by go_num, hZ, NZ⟩
      case measure => simp [intOf]; omega
    obtain rfl : k = 3 := by omega
    have N7 : NB w5 wr m D bv [] rv bs D dss (nbB 0) := NR
    clear NR A5 hlt hk
    rw [show ((3 : Nat) : Int) = 3 from rfl]
    go_wp2
    obtain ⟨wo, rfl⟩ : ∃ wo : World, wo = wr := ⟨_, rfl⟩
    go_loopw [42] (fun i wr => ∃ (k : Nat) (bv : BV) (nv : List Value), k ≤ dss.length ∧ i = .int .i64 k ∧ Hid (bv.W = .slice a3 dss.length c3) ∧ NB w5 wr m D bv nv rv bs D dss (nbB k)) (fun i _ => dss.length - (intOf i).toNat)
    case atStart => exact ⟨0, bv, [], Nat.zero_le _, rfl, hW, N7⟩
    case round =>
      clear N7 hW
      obtain ⟨k, bv, nv, hk, rfl, hW, NR⟩ := hrel
      by_cases hlt : k < dss.length
      · have i1 : (0 : Int) ≤ (k : Int) := Int.natCast_nonneg _
        have i2 : (k : Int) < (dss.length : Int) := by omega
        obtain ⟨za0, za1, za2, za3, za4, za5, za6, za7⟩ := NR.ob.cells
        have kaa : Keep wr (wr.alloc (.cells #[] 66)) := (Keep.refl wr).alloc _
        have kab : Keep (wr.alloc (.cells #[] 66)) ((wr.alloc (.cells #[] 66)).alloc (.cells #[(Value.slice (some ⟨wr.heap.size, 0, none⟩) 0 0)] 36)) := (Keep.refl _).alloc _
        have ka := kaa.trans kab
        have hma : m ≤ wr.heap.size := Nat.le_of_lt (Nat.lt_of_le_of_lt NR.ob.base.1 NR.ob.base.2)
        have oaa : AppT cN 66 3 (wr.alloc (.cells #[] 66)) m (.slice (some ⟨wr.heap.size, 0, none⟩) 0 0) [] := World.ownsRow_lit wr #[] 0 hma (by decide) rfl
        have oa := World.ownsRow.kept oaa kab.grownBy (by cases (Value.ownBlock (Value.slice (some ⟨wr.heap.size, 0, none⟩) 0 0)) <;> simp)
        have Ra : World.ownsRow _ m 36 1 bv.N nv.length nv := (NR.keep ka).ob.fam.own .nts trivial
        have hna : nv.length ≤ 3 := by rw [(NR.ob).ln]; unfold nbB; simp; omega
        go_wp2_with (at_builtin; refine wpList_append_own_at _ rfl _ _ 26 rfl m 36 ng0 (.slice none 0 0) 1 24 Try.underlying26 ngi ngz0 ngz1 ngz2 rfl (by decide) _ _ _ rfl Ra ⟨_, 0, none⟩ 1 1 [(Value.slice (some ⟨wr.heap.size, 0, none⟩) 0 0)] rfl rfl (by intro j q hj; match j, hj with | 0, hj => (simp at hj; subst hj; simp [Addr.add])) (by intro q hq; simp at hq; subst hq; rfl) (by unfold maxLen; omega) (by omega) (by simp; omega) ?_)
        intro ua xa Pa Ga _ Ba
        obtain ⟨ha, HZa⟩ : ∃ l, Hid (l = nv ++ [(Value.slice (some ⟨wr.heap.size, 0, none⟩) 0 0)]) := ⟨_, Lib.hid rfl⟩
        have Qa : (hdR 36 (nv ++ [(Value.slice (some ⟨wr.heap.size, 0, none⟩) 0 0)]) ua).own xa m := by
          show xa.ownsRow m 36 1 ua (nv ++ [(Value.slice (some ⟨wr.heap.size, 0, none⟩) 0 0)]).length (nv ++ [(Value.slice (some ⟨wr.heap.size, 0, none⟩) 0 0)])
          rw [List.length_append]; exact Pa
        obtain ⟨Na, Ca, Fa⟩ := NR.pushN (u := (Value.slice (some ⟨wr.heap.size, 0, none⟩) 0 0)) ka (fun q hq => Nat.le_of_eq (Option.some.inj hq)) oa Ga (by rw [heap_size, heap_size]; exact Ba) Qa
        rw [← HZa.out] at Na Qa
        obtain ⟨aua, cua, hua, -⟩ := own_head Qa
        subst hua
        clear za0 za1 za2 za3 za4 za5 za6 za7 NR Ra Pa Qa Ga Ba oa oaa ka kaa kab hna hma
        go_upto_region 13 with fail
        generalize xa.setCell ⟨D, 3, none⟩ (.slice aua ha.length cua) = ya at *
        clear Ca Fa
        have Ab := Na.keep ((Keep.refl ya).alloc (.cells #[.int .i64 (0 : Int)] 2))
        obtain ⟨zb0, zb1, zb2, zb3, zb4, zb5, zb6, zb7⟩ := Na.ob.cells
        go_wp2_with (at_builtin; refine wpList_append_rd rfl _ _ rfl m _ _ rfl Ab.ob.oX _ rfl [(0 : Int)] (rd_one ya (0 : Int)) (by unfold nbB; simp; omega) (by simp) (Nat.le_of_lt (Nat.lt_of_le_of_lt Ab.ob.base.1 Ab.ob.base.2)) ?_)
        intro ub xb Ob Gb Bb
        obtain ⟨lb, HZb⟩ : ∃ l, Hid (l = (nbB k).nxt ++ [(0 : Int)]) := ⟨_, Lib.hid rfl⟩
        replace Ob : Own xb m ub ((nbB k).nxt ++ [(0 : Int)]) := Ob
        rw [← HZb.out] at Ob
        obtain ⟨Nb, Cb, Fb⟩ := Ab.growX Gb (by rw [heap_size]; exact Bb) Ob
        obtain ⟨aub, cub, hub, -⟩ := id Ob.rd
        subst hub
        clear zb0 zb1 zb2 zb3 zb4 zb5 zb6 zb7 Ab Na Ob Gb Bb
        go_upto_region 14 with fail
        generalize xb.setCell ⟨D, 4, none⟩ (.slice aub lb.length cub) = yb at *
        clear Cb Fb
        obtain ⟨bz, hZ, NZ⟩ : ∃ bz : BV, Hid (bz.W = .slice a3 dss.length c3) ∧ NB w5 yb m D bz ha rv bs D dss (nbB (k + 1)) := by
          rw [nbB_more, ← HZb.out]
          refine ⟨_, ?_, Nb⟩
          exact hW
        clear Nb HZa HZb
        go_wp2
        go_roundw
        case rel => exact ⟨k + 1, bz, ha, by omega, by go_num, hZ, NZ⟩
        case measure => simp [intOf]; omega
      have N8 : NB w5 wr m D bv nv rv bs D dss (nbC dss.length 0) := by
        rw [show k = dss.length by omega] at NR; exact NR
      have K8 : Keep w wr := K5.grown NR.sm (fun q hq => by have := Option.some.inj hq; omega)
      obtain rfl : k = dss.length := by omega
      clear NR hlt hk
      go_wp2_with fail
      refine (CE _ K8).mono ?_
      rintro e w9 ⟨v9, rfl, A9, k9⟩
      have N9 := N8.keep k9
      have CR := implReadsOf_any w9 _ _ A9.rd (by have := eventsB_len9 dss; omega)
      obtain ⟨a9, c9, hv9, -⟩ := id A9.rd
      subst hv9
      clear A9 N8
      go_wp2_with fail
      refine CR.mono ?_
      rintro e w10 ⟨v10, rfl, O10, k10⟩
      have N10 := N9.keep k10
      have HN : Hid (newM dss = nbC dss.length (idxB rdE (eventsB dss)).length) := Lib.hid rfl
      have ln := idxB_len rdE (eventsB dss)
      obtain ⟨a10, c10, hv10, -⟩ := id O10.rd
      subst hv10
      clear O10 N9 CR CE
      generalize (idxB rdE (eventsB dss)).length = R at *
      go_wp2
      go_loopw [60] (fun i wr => ∃ (k : Nat) (bv : BV), k ≤ R ∧ i = .int .i64 k ∧ Hid (bv.W = .slice a3 dss.length c3) ∧ NB w5 wr m D bv nv rv bs D dss (nbC dss.length k)) (fun i _ => R - (intOf i).toNat)
      case atStart => exact ⟨0, bv, Nat.zero_le _, rfl, hW, N10⟩
      case round =>
        clear N10 hW
        obtain ⟨k, bv, hk, rfl, hW, NR⟩ := hrel
        by_cases hlt : k < R
        · have i1 : (0 : Int) ≤ (k : Int) := Int.natCast_nonneg _
          have i2 : (k : Int) < (R : Int) := by omega
          have Aa := NR.keep ((Keep.refl wr).alloc (.cells #[.int .i64 (-1 : Int)] 2))
          obtain ⟨za0, za1, za2, za3, za4, za5, za6, za7⟩ := NR.ob.cells
          go_wp2_with (at_builtin; refine wpList_append_rd rfl _ _ rfl m _ _ rfl Aa.ob.oS _ rfl [(-1 : Int)] (rd_one wr (-1 : Int)) (by unfold nbC; simp; omega) (by simp) (Nat.le_of_lt (Nat.lt_of_le_of_lt Aa.ob.base.1 Aa.ob.base.2)) ?_)
          intro ua xa Oa Ga Ba
          obtain ⟨la, HZa⟩ : ∃ l, Hid (l = (nbC dss.length k).sn ++ [(-1 : Int)]) := ⟨_, Lib.hid rfl⟩
          replace Oa : Own xa m ua ((nbC dss.length k).sn ++ [(-1 : Int)]) := Oa
          rw [← HZa.out] at Oa
          obtain ⟨Na, Ca, Fa⟩ := Aa.growS Ga (by rw [heap_size]; exact Ba) Oa
          obtain ⟨aua, cua, hua, -⟩ := id Oa.rd
          subst hua
          clear za0 za1 za2 za3 za4 za5 za6 za7 Aa NR Oa Ga Ba
          go_upto_region 18 with fail
          generalize xa.setCell ⟨D, 5, none⟩ (.slice aua la.length cua) = ya at *
          clear Ca Fa
          have Ab := Na.keep ((Keep.refl ya).alloc (.cells #[.int .i64 (-1 : Int)] 2))
          obtain ⟨zb0, zb1, zb2, zb3, zb4, zb5, zb6, zb7⟩ := Na.ob.cells
          go_wp2_with (at_builtin; refine wpList_append_rd rfl _ _ rfl m _ _ rfl Ab.ob.oF _ rfl [(-1 : Int)] (rd_one ya (-1 : Int)) (by unfold nbC; simp; omega) (by simp) (Nat.le_of_lt (Nat.lt_of_le_of_lt Ab.ob.base.1 Ab.ob.base.2)) ?_)
          intro ub xb Ob Gb Bb
          obtain ⟨lb, HZb⟩ : ∃ l, Hid (l = (nbC dss.length k).fr ++ [(-1 : Int)]) := ⟨_, Lib.hid rfl⟩
          replace Ob : Own xb m ub ((nbC dss.length k).fr ++ [(-1 : Int)]) := Ob
          rw [← HZb.out] at Ob
          obtain ⟨Nb, Cb, Fb⟩ := Ab.growF Gb (by rw [heap_size]; exact Bb) Ob
          obtain ⟨aub, cub, hub, -⟩ := id Ob.rd
          subst hub
          clear zb0 zb1 zb2 zb3 zb4 zb5 zb6 zb7 Ab Na Ob Gb Bb
          go_upto_region 19 with fail
          generalize xb.setCell ⟨D, 6, none⟩ (.slice aub lb.length cub) = yb at *
          clear Cb Fb
          obtain ⟨bz, hZ, NZ⟩ : ∃ bz : BV, Hid (bz.W = .slice a3 dss.length c3) ∧ NB w5 yb m D bz nv rv bs D dss (nbC dss.length (k + 1)) := by
            rw [nbC_more, ← HZa.out, ← HZb.out]
            refine ⟨_, ?_, Nb⟩
            exact hW
          clear Nb HZa HZb
          go_wp2
          go_roundw
          case rel => exact ⟨k + 1, bz, by omega, by go_num, hZ, NZ⟩
          case measure => simp [intOf]; omega
        obtain rfl : k = R := by omega
        have KZ : Keep w wr := K5.grown NR.sm (fun q hq => by have := Option.some.inj hq; omega)
        have LZ := LW5.out.kept NR.sm NR.ob.nD
        rw [← hW.out] at LZ
        have OA := NR.ob.all LZ hbs
        have hRw := (NR.sm.block w.heap.size (by have := K5.size; omega) (fun e => by have := Option.some.inj e; omega)).trans hR5.out
        have hDw := NR.ob.heapD
        rw [← HN.out] at OA
        clear NR LZ
        obtain ⟨nb, hnb⟩ : ∃ nb, nb = newM dss := ⟨_, rfl⟩
        rw [← hnb] at OA
        have HNB := Lib.hid hnb
        clear hnb
        obtain ⟨vW, vP, vL, vN, vX, vS, vF, vR⟩ := bv
        obtain ⟨bW, bP, bL, bN, bX, bS, bF, bR, dW, dP, dL, dN, dX, dS, dF, dR, hsh⟩ := OA.rd.shapes
        injection hsh with e1 e2 e3 e4 e5 e6 e7 e8
        subst e1 e2 e3 e4 e5 e6 e7 e8
        have HG := Lib.hid (grown_row3 wr w.heap.size #[.slice bW dss.length dW, .slice bP nb.plc.length dP, .slice bL nb.lst.length dL, .slice bN nb.nts.length dN, .slice bX nb.nxt.length dX, .slice bS nb.sn.length dS, .slice bF nb.fr.length dF, .slice bR nb.rws.length dR])
        have HZ := Lib.hid (setRow_heap wr w.heap.size _ #[.slice bW dss.length dW, .slice bP nb.plc.length dP, .slice bL nb.lst.length dL, .slice bN nb.nts.length dN, .slice bX nb.nxt.length dX, .slice bS nb.sn.length dS, .slice bF nb.fr.length dF, .slice bR nb.rws.length dR] _ _ hRw)
        have HO := Lib.hid (OA.far HG.out hmw)
        have HK := Lib.hid (KZ.grown HG.out (fun q hq => Nat.le_of_eq (Option.some.inj hq)))
        simp only [BV.arr] at hDw
        clear OA KZ hD hD5 hbs LW5 hW hlt hk
        go_wp2_with (first | refine wpList_load_row rfl 29 _ rfl D rfl 29 _ (0, 0) _ hDw Try.underlying29 rfl board_info ?_ | refine wpList_store_row rfl 29 _ _ rfl w.heap.size _ rfl rfl 29 _ hRw board_info rfl (by simp [Value.oneCell']) ?_ | fail)
        refine bodyPost_ret (results_row (by rfl) _ _ w.heap.size _ _ (0, 0) _ rfl HZ.out Try.underlying29 rfl board_info) rfl ?_
        exact ⟨⟨.slice bW dss.length dW, .slice bP nb.plc.length dP, .slice bL nb.lst.length dL, .slice bN nb.nts.length dN, .slice bX nb.nxt.length dX, .slice bS nb.sn.length dS, .slice bF nb.fr.length dF, .slice bR nb.rws.length dR⟩, nv, rv, _, rfl, by rw [← HNB.out]; exact ⟨HO.out.fam.base_le2 (Nat.le_of_lt hmw), HO.out.ln, HO.out.lr, HO.out.lw⟩, HK.out⟩
theorem newBoard_no (w : World) (v : Value) (dss : List (List Dd)) (h : RdW w v dss) (hb : workB dss = false) (hx : dss.length ≤ 1048576) (hm : ∀ i, i < dss.length → (dss.getD i []).length ≤ 1048576) :
    Calls Try.prog 53 #[v] w fun e w' => e = PN ∧ Keep w w' := by
  have CW := fun (W : World) (kW : Keep w W) => implWorkOk_any W _ dss (h.keep kW) hx hm
  rw [hb] at CW
  obtain ⟨aD, cDd, rfl, -⟩ := id h
  clear h hm hb
  go_enter Try.func53, Try.ntmps53
  go_wp2_with fail
  refine (CW _ ((Keep.refl w).alloc _)).mono ?_
  rintro e w2 ⟨rfl, k2⟩
  go_wp2_with fail
  refine (must_no _).mono ?_
  rintro e w3 ⟨rfl, rfl⟩
  go_wp2
  exact ⟨rfl, rfl, ((Keep.refl w).alloc _).trans k2⟩
theorem nwb_idle (p0 p1 : Addr) (w : World) : CallsD Try.prog 52 #[.pointer (some p0), .pointer (some p1)] .returning w fun e u' w' => e = .returned (.tuple #[]) ∧ u' = .returning ∧ w' = w := by
  refine callsD_of_wpS Try.func52 rfl fun c₀ cs hu => ?_
  apply wpS_seq
  apply wpS_region
  have hn : ∀ w : World, (binOp BinOp.neq 20 .nilIface .nilIface).run Try.prog w = .ok (.bool false) w := fun _ => by kernel_rfl
  simp [wpOpsS, go_sem, recoverD, hu, Try.ntmps52, Exit.thenS, hn]
  refine wpS_cond (t := false) (by simp [Act.eval, Array.replicate]) ?_
  simp only [Bool.false_eq_true, if_false]
  refine wpS_of_wp (wp_skip ?_)
  cases c₀
  simp_all [bodyPostS, results, Try.results52]
theorem nwb_hit (g g' : Nat) (hne : g' ≠ g) (w : World) (old : Array Value) (ho : old.size = 8) (x' : Value) (hg : w.heap[g]? = some (.cells old 29 (0, 0))) (hg' : w.heap[g']? = some (.cells #[x'] 4 (0, 0))) :
    CallsD Try.prog 52 #[.pointer (some ⟨g, 0, none⟩), .pointer (some ⟨g', 0, none⟩)] (.panicking [{ v := pnV, recovered := false }]) w fun e u' w' => e = .returned (.tuple #[]) ∧ u' = .panicking [{ v := pnV, recovered := true }] ∧ w' = (w.setRow g #[nilS, nilS, nilS, nilS, nilS, nilS, nilS, nilS]).setCell ⟨g', 0, none⟩ (.bool false) := by
  have hg2 : (w.setRow g #[nilS, nilS, nilS, nilS, nilS, nilS, nilS, nilS]).heap[g']? = some (.cells #[x'] 4 (0, 0)) := ((grown_row3 w g #[nilS, nilS, nilS, nilS, nilS, nilS, nilS, nilS]).block g' (Array.getElem?_eq_some_iff.1 hg').1 (fun e => hne (Option.some.inj e))).trans hg'
  have hc2 : (w.setRow g #[nilS, nilS, nilS, nilS, nilS, nilS, nilS, nilS]).cell? ⟨g', 0, none⟩ = some x' := by rw [cell_of_row _ g' 0 _ _ _ hg2]; rfl
  have hf2 : (w.setRow g #[nilS, nilS, nilS, nilS, nilS, nilS, nilS, nilS]).frozen? ⟨g', 0, none⟩ = false := frozen_of_row _ g' 0 _ _ hg2
  have hv : ∀ w : World, (binOp BinOp.neq 20 pnV .nilIface).run Try.prog w = .ok (.bool true) w := fun _ => by kernel_rfl
  refine callsD_of_wpS Try.func52 rfl fun c₀ cs hu => ?_
  apply wpS_seq
  apply wpS_region
  simp [wpOpsS, go_sem, recoverD, hu, Try.ntmps52, Exit.thenS, hv]
  refine wpS_cond (t := true) (by simp [Act.eval, Array.replicate]) ?_
  simp only [if_true]
  refine wpS_of_wp ?_
  go_wp2_with (first | refine wpList_store_row rfl 29 _ _ rfl g _ rfl rfl 29 _ hg board_info ho (by simp [Value.oneCell']) ?_ | fail)
  cases c₀
  simp_all [bodyPostS, results, Try.results52]
theorem results_row_one {P : Program} {fn : Func} {p q : Tmp} {ty ty' : TypeId} (h : fn.results = #[.cell p ty, .cell q ty']) (tmps : Array Value) (w : World) (g g' : Nat) (t : TypeId) (cs : Array Value) (fr : Nat × Nat) (d : TypeDesc) {x : Value}
    (hp : tmps.getD p undef = .pointer (some ⟨g, 0, none⟩)) (hg : w.heap[g]? = some (.cells cs t fr)) (hq : tmps.getD q undef = .pointer (some ⟨g', 0, none⟩)) (hc : w.cell? ⟨g', 0, none⟩ = some x)
    (hu : P.underlying ty = some d) (hd : (match d with | .struct _ | .array _ _ => true | _ => false) = true) (hi : (P.info? ty).map (·.size) = some cs.size) (hagg : (isAgg ty').run P w = .ok false w) :
    (results fn tmps).run P w = .ok (.tuple #[.agg cs, x]) w := by
  have hp' : tmps[p]?.getD undef = .pointer (some ⟨g, 0, none⟩) := by simpa using hp
  have hq' : tmps[q]?.getD undef = .pointer (some ⟨g', 0, none⟩) := by simpa using hq
  have hl : (loadVar ty' ⟨g', 0, none⟩).run P w = .ok x w := by
    simp [Sem.run_bind, Result.andThen, loadVar, load, hagg]
    simp [Sem.run, hc]
  simp [results, h, hp', hq', asAddr, run_loadVar_row w g t ty cs fr d hg hu hd hi, hl]
theorem ownA_zero (w : World) (m : Nat) : OwnA w m bd0 [] [] [] [] zBd := by
  have hv : ∀ i, liveA [] [] [] i → (famA bd0 [] [] [] [] zBd i).v.ownBlock = none := fun i hi => by
    cases i with
    | wk => rfl
    | wd c => exact absurd (show c < 0 from hi) (by omega)
    | b i =>
      cases i with
      | bd => exact absurd rfl hi.2
      | nt c => exact absurd (show c < 0 from hi.1) (by omega)
      | rw c => exact absurd (show c < 0 from hi.1) (by omega)
      | _ => rfl
  refine ⟨⟨fun i hi => ?_, fun i j hi _ _ => .inl (hv i hi)⟩, rfl, rfl, rfl⟩
  cases i with
  | wk => exact ⟨rfl, .inl ⟨rfl, rfl⟩⟩
  | wd c => exact absurd (show c < 0 from hi) (by omega)
  | b i =>
    cases i with
    | bd => exact absurd rfl hi.2
    | nt c => exact absurd (show c < 0 from hi.1) (by omega)
    | rw c => exact absurd (show c < 0 from hi.1) (by omega)
    | _ => exact ⟨rfl, .inl ⟨rfl, rfl⟩⟩
theorem implNewBoard_any (w : World) (v : Value) (dss : List (List Dd)) (h : RdW w v dss) (hx : dss.length ≤ 1048576) (hm : ∀ i, i < dss.length → (dss.getD i []).length ≤ 1048576) :
    Calls Try.prog 16 #[v] w fun e w' => ∃ bv : BV, e = .returned (.tuple #[bv.agg, .bool (workB dss)]) ∧ FreeBd w' w.heap.size w'.heap.size bv (newD dss) (newB dss) ∧ Keep w w' := by
  have CN := fun (W : World) (kW : Keep w W) (e : workB dss = false) => newBoard_no W _ dss (h.keep kW) e hx hm
  have CY := fun (W : World) (kW : Keep w W) (e : workB dss = true) => newBoard_yes W _ dss (h.keep kW) e hx hm
  have HD : Hid (newD dss = if workB dss = true then dss else []) := Lib.hid rfl
  have HB : Hid (newB dss = if workB dss = true then newM dss else zBd) := Lib.hid rfl
  obtain ⟨aD, cDd, rfl, -⟩ := id h
  clear h hm
  have hmf : ∀ (fn : Fn) (first cap : Array Value) (w : World), (Instr.makeFunc fn first cap).run Try.prog w = .ok (.func fn first cap) w := fun _ _ _ _ => rfl
  obtain ⟨w1, hw1⟩ : ∃ W : World, W = ((w.alloc (.cells #[nilS, nilS, nilS, nilS, nilS, nilS, nilS, nilS] 29)).alloc (.cells #[.bool false] 4)) := ⟨_, rfl⟩
  have K1 : Keep w w1 := by rw [hw1]; exact ((Keep.refl w).alloc _).alloc _
  have s1 : w1.heap.size = w.heap.size + 2 := by rw [hw1, heap_size, heap_size]
  have hV1 : w1.heap[w.heap.size + 1]? = some (.cells #[.bool false] 4 (0, 0)) := by
    rw [hw1, heap_at, if_pos (by rw [heap_size])]
  have hR1 : w1.heap[w.heap.size]? = some (.cells #[nilS, nilS, nilS, nilS, nilS, nilS, nilS, nilS] 29 (0, 0)) := by rw [hw1]; exact (Below.block ((Keep.refl _).alloc _) _ (by rw [heap_size]; omega)).trans (heap_alloc_new _ _)
  go_enter_defers Try.func16, Try.ntmps16
  go_upto_region 2 with fail
  rw [← hw1]
  clear hw1
  cases hb : workB dss
  · have C := CN _ K1 hb
    have HDz : Hid (newD dss = []) := Lib.hid (by rw [HD.out, hb]; rfl)
    have HBz : Hid (newB dss = zBd) := Lib.hid (by rw [HB.out, hb]; rfl)
    clear CN CY HD HB
    go_wp2_with fail
    refine C.mono ?_
    rintro e w2 ⟨rfl, k2⟩
    have K2 := K1.trans k2
    have z2 := k2.size
    have hR2 := (Below.block k2 w.heap.size (by omega)).trans hR1
    have hV2 := (Below.block k2 (w.heap.size + 1) (by omega)).trans hV1
    have g3 := grown_row3 w2 w.heap.size #[nilS, nilS, nilS, nilS, nilS, nilS, nilS, nilS]
    have h3 := setRow_heap w2 w.heap.size _ #[nilS, nilS, nilS, nilS, nilS, nilS, nilS, nilS] _ _ hR2
    have v3 := (g3.block (w.heap.size + 1) (by omega) (fun e => by have := Option.some.inj e; omega)).trans hV2
    have v4 := heap_setCell_same _ (w.heap.size + 1) 0 _ _ (.bool false) v3
    have h4 := (heap_setCell_other (w2.setRow w.heap.size #[nilS, nilS, nilS, nilS, nilS, nilS, nilS, nilS]) ⟨w.heap.size + 1, 0, none⟩ w.heap.size (.bool false) (by show w.heap.size ≠ w.heap.size + 1; omega)).trans h3
    have g4 := grown_set (w2.setRow w.heap.size #[nilS, nilS, nilS, nilS, nilS, nilS, nilS, nilS]) (w.heap.size + 1) 0 (.bool false)
    have HR3 := Lib.hid h4
    have HC3 : Hid (((w2.setRow w.heap.size #[nilS, nilS, nilS, nilS, nilS, nilS, nilS, nilS]).setCell ⟨w.heap.size + 1, 0, none⟩ (.bool false)).cell? ⟨w.heap.size + 1, 0, none⟩ = some (.bool false)) := Lib.hid (by rw [cell_of_row _ _ 0 _ _ _ v4]; rfl)
    have KZ := Lib.hid ((K2.grown g3 (fun k hk => by have := Option.some.inj hk; omega)).grown g4 (fun k hk => by have := Option.some.inj hk; omega))
    have c3 : (w2.setRow w.heap.size #[nilS, nilS, nilS, nilS, nilS, nilS, nilS, nilS]).cell? ⟨w.heap.size + 1, 0, none⟩ = some (.bool false) := by rw [cell_of_row _ _ 0 _ _ _ v3]; rfl
    have f3 := frozen_of_row (w2.setRow w.heap.size #[nilS, nilS, nilS, nilS, nilS, nilS, nilS, nilS]) (w.heap.size + 1) 0 _ _ v3
    clear g3 h3 v3 v4 h4 g4 c3 f3 hR1 hV1
    go_wp2
    refine leaves_cons (f := 52) (args := #[.pointer (some ⟨w.heap.size, 0, none⟩), .pointer (some ⟨w.heap.size + 1, 0, none⟩)]) (by simp) (by simp [go_sem]) ?_
    refine (nwb_hit _ _ (by omega) _ _ rfl _ hR2 hV2).mono ?_
    rintro e u' w9 ⟨rfl, rfl, rfl⟩
    have hres := fun (tmps : Array Value) (h0 : tmps.getD 2 undef = .pointer (some ⟨w.heap.size, 0, none⟩)) (h1 : tmps.getD 3 undef = .pointer (some ⟨w.heap.size + 1, 0, none⟩)) => results_row_one (P := Try.prog) (fn := Try.f16) (by rfl) tmps _ w.heap.size (w.heap.size + 1) 29 _ (0, 0) _ h0 HR3.out h1 HC3.out Try.underlying29 rfl board_info (by kernel_rfl)
    show ∃ v, (results _ _).run Try.prog _ = .ok v _ ∧ _
    refine ⟨_, hres _ rfl rfl, ?_⟩
    exact ⟨bd0, by rw [hb], by rw [HDz.out, HBz.out]; exact (ownA_zero _ _).free, KZ.out⟩
  · have C := CY _ K1 hb
    have HDz : Hid (newD dss = dss) := Lib.hid (by rw [HD.out, hb]; rfl)
    have HBz : Hid (newB dss = newM dss) := Lib.hid (by rw [HB.out, hb]; rfl)
    clear CN CY HD HB
    go_wp2_with fail
    refine C.mono ?_
    rintro e w2 ⟨bv, nv, rv, wv, rfl, OA, k2⟩
    have K2 := K1.trans k2
    have z2 := k2.size
    have hR2 := (Below.block k2 w.heap.size (by omega)).trans hR1
    have hV2 := (Below.block k2 (w.heap.size + 1) (by omega)).trans hV1
    obtain ⟨nb, hnb⟩ : ∃ nb, nb = newM dss := ⟨_, rfl⟩
    rw [← hnb] at OA HBz
    clear hnb C
    obtain ⟨vW, vP, vL, vN, vX, vS, vF, vR⟩ := bv
    obtain ⟨bW, bP, bL, bN, bX, bS, bF, bR, dW, dP, dL, dN, dX, dS, dF, dR, hsh⟩ := OA.rd.shapes
    injection hsh with e1 e2 e3 e4 e5 e6 e7 e8
    subst e1 e2 e3 e4 e5 e6 e7 e8
    have g3 := grown_row3 w2 w.heap.size #[.slice bW dss.length dW, .slice bP nb.plc.length dP, .slice bL nb.lst.length dL, .slice bN nb.nts.length dN, .slice bX nb.nxt.length dX, .slice bS nb.sn.length dS, .slice bF nb.fr.length dF, .slice bR nb.rws.length dR]
    have h3 := setRow_heap w2 w.heap.size _ #[.slice bW dss.length dW, .slice bP nb.plc.length dP, .slice bL nb.lst.length dL, .slice bN nb.nts.length dN, .slice bX nb.nxt.length dX, .slice bS nb.sn.length dS, .slice bF nb.fr.length dF, .slice bR nb.rws.length dR] _ _ hR2
    have v3 := (g3.block (w.heap.size + 1) (by omega) (fun e => by have := Option.some.inj e; omega)).trans hV2
    have v4 := heap_setCell_same _ (w.heap.size + 1) 0 _ _ (.bool true) v3
    have h4 := (heap_setCell_other (w2.setRow w.heap.size #[.slice bW dss.length dW, .slice bP nb.plc.length dP, .slice bL nb.lst.length dL, .slice bN nb.nts.length dN, .slice bX nb.nxt.length dX, .slice bS nb.sn.length dS, .slice bF nb.fr.length dF, .slice bR nb.rws.length dR]) ⟨w.heap.size + 1, 0, none⟩ w.heap.size (.bool true) (by show w.heap.size ≠ w.heap.size + 1; omega)).trans h3
    have g4 := grown_set (w2.setRow w.heap.size #[.slice bW dss.length dW, .slice bP nb.plc.length dP, .slice bL nb.lst.length dL, .slice bN nb.nts.length dN, .slice bX nb.nxt.length dX, .slice bS nb.sn.length dS, .slice bF nb.fr.length dF, .slice bR nb.rws.length dR]) (w.heap.size + 1) 0 (.bool true)
    have HR3 := Lib.hid h4
    have HC3 : Hid (((w2.setRow w.heap.size #[.slice bW dss.length dW, .slice bP nb.plc.length dP, .slice bL nb.lst.length dL, .slice bN nb.nts.length dN, .slice bX nb.nxt.length dX, .slice bS nb.sn.length dS, .slice bF nb.fr.length dF, .slice bR nb.rws.length dR]).setCell ⟨w.heap.size + 1, 0, none⟩ (.bool true)).cell? ⟨w.heap.size + 1, 0, none⟩ = some (.bool true)) := Lib.hid (by rw [cell_of_row _ _ 0 _ _ _ v4]; rfl)
    have KZ := Lib.hid ((K2.grown g3 (fun k hk => by have := Option.some.inj hk; omega)).grown g4 (fun k hk => by have := Option.some.inj hk; omega))
    have c3 : (w2.setRow w.heap.size #[.slice bW dss.length dW, .slice bP nb.plc.length dP, .slice bL nb.lst.length dL, .slice bN nb.nts.length dN, .slice bX nb.nxt.length dX, .slice bS nb.sn.length dS, .slice bF nb.fr.length dF, .slice bR nb.rws.length dR]).cell? ⟨w.heap.size + 1, 0, none⟩ = some (.bool false) := by rw [cell_of_row _ _ 0 _ _ _ v3]; rfl
    have f3 := frozen_of_row (w2.setRow w.heap.size #[.slice bW dss.length dW, .slice bP nb.plc.length dP, .slice bL nb.lst.length dL, .slice bN nb.nts.length dN, .slice bX nb.nxt.length dX, .slice bS nb.sn.length dS, .slice bF nb.fr.length dF, .slice bR nb.rws.length dR]) (w.heap.size + 1) 0 _ _ v3
    have O4 := Lib.hid ((OA.far g3 (by omega)).far g4 (by omega))
    clear g3 h3 v3 v4 h4 g4 hR1 hV1 OA
    go_wp2_with (first | refine wpList_store_row rfl 29 _ _ rfl w.heap.size _ rfl rfl 29 _ hR2 board_info rfl (by simp [Value.oneCell']) ?_ | fail)
    refine leaves_cons (f := 52) (args := #[.pointer (some ⟨w.heap.size, 0, none⟩), .pointer (some ⟨w.heap.size + 1, 0, none⟩)]) (by simp) (by simp [go_sem]) ?_
    refine (nwb_idle _ _ _).mono ?_
    rintro e u' w9 ⟨rfl, rfl, rfl⟩
    have hres := fun (tmps : Array Value) (h0 : tmps.getD 2 undef = .pointer (some ⟨w.heap.size, 0, none⟩)) (h1 : tmps.getD 3 undef = .pointer (some ⟨w.heap.size + 1, 0, none⟩)) => results_row_one (P := Try.prog) (fn := Try.f16) (by rfl) tmps _ w.heap.size (w.heap.size + 1) 29 _ (0, 0) _ h0 HR3.out h1 HC3.out Try.underlying29 rfl board_info (by kernel_rfl)
    show ∃ v, (results _ _).run Try.prog _ = .ok v _ ∧ _
    refine ⟨_, hres _ rfl rfl, ?_⟩
    exact ⟨⟨_, _, _, _, _, _, _, _⟩, by rw [hb], by rw [HDz.out, HBz.out]; exact OwnA.free ⟨O4.out.fam.base_le2 (by omega), O4.out.ln, O4.out.lr, O4.out.lw⟩, KZ.out⟩
end Go.Proofs.Ytgakfkjjkobpiaa
