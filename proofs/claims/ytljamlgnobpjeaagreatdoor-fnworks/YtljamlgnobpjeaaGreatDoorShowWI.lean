/- Contracts of the program's text (of one clerk) and ShowWork: the text of a work. -/
import Derived.Test.YtljamlgnobpjeaaGreatDoorWorkOkI
import Derived.Test.YtljamlgnobpjeaaGreatDoorMA
import Derived.Test.YtljamlgnobpjeaaGreatDoorMB
import Derived.Test.YtljamlgnobpjeaaGreatDoorShowI
import Derived.Test.YtljamlgnobpjeaaGreatDoorWorkOwn
import Derived.Maps.AppendAt
namespace Go.Proofs.YtljamlgnobpjeaaGreatDoor
open Go.ChangeShapes Go.WideShapes Go.ChangeAt Go.RowKit

theorem ownS_emptyI (w : World) : OwnS (w.alloc (.cells #[] 9)) w.heap.size (.slice (some ⟨w.heap.size, 0, none⟩) 0 0) [] := World.ownsRow_lit w #[] 0 (Nat.le_refl _) (by decide) rfl
theorem OwnS.shape {w : World} {base : Nat} {v : Value} {ws : List (List UInt8)} (h : OwnS w base v ws) : ∃ a c, v = .slice a ws.length c := by
  obtain ⟨a, c, hv, _⟩ := h.rd
  exact ⟨a, c, hv⟩
theorem map_moreDI {β : Type} (f : Dd → β) (ds : List Dd) (q : Nat) (h : q < ds.length) : (ds.take (q + 1)).map f = (ds.take q).map f ++ [f (ds.getD q zD)] := by
  rw [take_moreL ds q zD h, List.map_append]; rfl
theorem map_moreCI {β : Type} (f : List Dd → β) (dss : List (List Dd)) (q : Nat) (h : q < dss.length) : (dss.take (q + 1)).map f = (dss.take q).map f ++ [f (dss.getD q [])] := by
  rw [take_moreL dss q [] h, List.map_append]; rfl
theorem joinL_lenI (b : List UInt8) (m : Nat) : ∀ ts : List (List UInt8), (∀ t, t ∈ ts → t.length ≤ m) → (joinL b ts).length ≤ ts.length * (m + b.length)
  | [], _ => by simp [joinL]
  | [t], h => by
    have := h t (by simp)
    simp [joinL]; omega
  | t :: u :: r, h => by
    have h1 := h t (by simp)
    have ih := joinL_lenI b m (u :: r) (fun x hx => h x (by simp only [List.mem_cons] at hx ⊢; exact .inr hx))
    rw [joinL_cons b t (by simp)]
    simp only [List.length_append, List.length_cons, Nat.add_mul, Nat.one_mul] at ih ⊢
    omega
theorem shD_lenI (d : Dd) : (shD d).length ≤ 14 := showL_length _ _ _ _
theorem showC_lenI (ds : List Dd) (h : ds.length ≤ 5) : (showC ds).length ≤ 80 := by
  unfold showC
  split
  · simp
  · have := joinL_lenI [59, 32] 14 (ds.map shD) (by
      intro t ht
      obtain ⟨d, _, rfl⟩ := List.mem_map.1 ht
      exact shD_lenI d)
    simp at this
    omega
theorem join_any (w : World) (base : Nat) (v : Value) (ts : List (List UInt8)) (b : List UInt8) (h : OwnS w base v ts) (hne : ts ≠ []) (hl : (joinL b ts).length ≤ 1048576) (hn : ts.length ≤ 1048576) :
    Calls Tryz.prog 19 #[v, strV b] w fun e w' => e = .returned (strV (joinL b ts)) ∧ Keep w w' := by
  have h2 := h
  have hlt := World.ownsRow.lt h
  rcases h.2 with ⟨_, hn⟩ | ⟨g, cap, cur, rfl, hb, hg, hcap, _, hs, _⟩
  · exact absurd (List.eq_nil_of_length_eq_zero hn) hne
  · have e1 : (ts.map (fun t : List UInt8 => (⟨t.toArray⟩ : ByteArray))).map (fun x : ByteArray => x.data.toList) = ts := by
      rw [List.map_map]
      conv => rhs; rw [← List.map_id ts]
      rfl
    have c := Tryz.strings_Join g 0 cap (ts.map (fun t : List UInt8 => (⟨t.toArray⟩ : ByteArray))) ⟨b.toArray⟩ w (by
      intro j x hx
      rw [List.getElem?_map, Option.map_eq_some_iff] at hx
      obtain ⟨t, ht, rfl⟩ := hx
      have hj : j < ts.length := (List.getElem?_eq_some_iff.1 ht).1
      rw [Nat.zero_add, World.ownsRow.cellAt h2 j (by simpa using hj), List.getElem?_map, ht]
      rfl) (hlt g rfl).2 (by simp; omega) (by simpa using hcap) (by rw [e1, join_same]; simp; omega)
    rw [List.length_map, e1, join_same] at c
    exact c
theorem all_getI {ds : List Dd} (h : ds.all okD = true) (q : Nat) (hq : q < ds.length) : showD (ds.getD q zD).1 (ds.getD q zD).2.1 (ds.getD q zD).2.2.1 (ds.getD q zD).2.2.2 = shD (ds.getD q zD) := by
  have h1 : deedB (ds.getD q zD).1 (ds.getD q zD).2.1 (ds.getD q zD).2.2.1 (ds.getD q zD).2.2.2 = true := all_get zD h q hq
  unfold showD
  rw [if_pos h1]
  rfl
set_option maxRecDepth 100000 in
set_option maxHeartbeats 4000000 in
theorem text_any (w : World) (v : Value) (ds : List Dd) (h : RdD w v ds) (hok : okL ds = true) :
    Calls Tryz.prog 18 #[v] w fun e w' => e = .returned (strV (showC ds)) ∧ Keep w w' := by
  have hl5 : ds.length ≤ 5 := by simp [okL] at hok; omega
  have hall : ds.all okD = true := by simp only [okL, Bool.and_eq_true] at hok; exact hok.1
  clear hok
  obtain ⟨a, c, rfl, h⟩ := h
  by_cases h0 : ds = []
  · subst h0
    go_enter Tryz.func18, Tryz.ntmps18
    go_wp2
    go_ret
    exact ⟨rfl, Keep.refl _⟩
  · have HS : Hid (showC ds = joinL [59, 32] (ds.map shD)) := Lib.hid (by rw [showC, if_neg h0])
    have hJ : (joinL [59, 32] (ds.map shD)).length ≤ 1048576 := by have := showC_lenI ds hl5; rw [HS.out] at this; omega
    have hp : 0 < ds.length := List.length_pos_iff.2 h0
    have hne : ds.map shD ≠ [] := by simpa using h0
    have a0 := ownS_emptyI w
    have e0 : ((ds.length : Int) == 0) = false := by simp; omega
    clear h0
    obtain ⟨i0, hi, hz0, hz1, hz2⟩ := info_parts Tryz.infoS
    go_enter Tryz.func18, Tryz.ntmps18
    go_wp2
    go_loopw [3, 12] (fun x i wr => ∃ q : Nat, q ≤ ds.length ∧ i = .int .i64 q ∧ OwnS wr w.heap.size x ((ds.take q).map shD) ∧ Keep w wr) (fun _ i _ => ds.length - (intOf i).toNat)
    case atStart => exact ⟨0, Nat.zero_le _, rfl, a0, (Keep.refl w).alloc _⟩
    case round =>
      obtain ⟨q, hq, rfl, hA, hK⟩ := hrel
      clear a0
      by_cases hlq : q < ds.length
      · rcases h with h | ⟨b2, o2, rfl, hb2, hc2⟩
        · exfalso; rw [h] at hlq; simp at hlq
        have AT := (hc2 q hlq).keep hb2 hK
        clear hc2
        have HO : Hid ((ds.take (q + 1)).map shD = (ds.take q).map shD ++ [shD (ds.getD q zD)]) := Lib.hid (map_moreDI shD ds q hlq)
        have HD := Lib.hid (all_getI hall q hlq)
        have hlen : ((ds.take q).map shD).length ≤ 5 := by simp; omega
        generalize (ds.take q).map shD = D at hA HO hlen
        obtain ⟨t, ht⟩ : ∃ t, t = shD (ds.getD q zD) := ⟨_, rfl⟩
        rw [← ht] at HO HD
        clear ht
        obtain ⟨d, hd⟩ : ∃ d, d = ds.getD q zD := ⟨_, rfl⟩
        rw [← hd] at AT HD
        clear hd
        obtain ⟨x0, x1, x2, x3⟩ := d
        obtain ⟨A0, A1, A2, A3⟩ := AT
        simp only at A0 A1 A2 A3 HD
        have hb3 : b2 < wr.heap.size := Nat.lt_of_lt_of_le hb2 hK.size
        have j1 : (0 : Int) ≤ (q : Int) := Int.natCast_nonneg _
        have j2 : (q : Int) < (ds.length : Int) := by omega
        have hsz := hK.size
        go_wp2_with fail
        refine (implShowDeed_any _ _ _ _ _).mono ?_
        rw [HD.out]
        rintro e w4 ⟨rfl, k4⟩
        have kw4 : Keep wr w4 := ((Keep.refl wr).alloc _).trans k4
        have hsz4 := kw4.size
        have hA4 := hA.keep kw4
        obtain ⟨a5, c5, rfl⟩ := hA.shape
        clear A0 A1 A2 A3 k4
        go_wp2_with (at_builtin; refine wpList_append_own _ rfl _ _ 33 rfl w.heap.size 9 i0 (.string ⟨#[]⟩) 1 16 Tryz.underlying33 hi hz0 hz1 hz2 rfl (by decide) _ _ _ rfl (World.ownsRow.alloc hA4 _) ⟨_, 0, none⟩ 1 1 [strV t] rfl rfl ?c1 ?c2 ?c3 ?c4 ?c5 ?_)
        case c1 =>
          intro j u hj
          match j, hj with
          | 0, hj => simp at hj; subst hj; simp [Addr.add]
        case c2 => intro u hu; simp at hu; subst hu; rfl
        case c3 => unfold maxLen; omega
        case c4 => omega
        case c5 => simp; omega
        intro v' w5 hown' hgrow _
        have hK5 : Keep w w5 := ((hK.trans kw4).alloc _).grown hgrow hA.ge
        clear hgrow
        go_wp2
        go_roundw
        case rel => exact ⟨q + 1, by omega, by go_num, by rw [HO.out]; exact ownS_hit hown', hK5⟩
        case measure => simp [intOf]; omega
      · obtain rfl : q = ds.length := by omega
        rw [List.take_length] at hA
        have hml : (ds.map shD).length ≤ 1048576 := by simp; omega
        go_wp2_with fail
        refine (join_any _ _ _ _ [59, 32] hA hne hJ hml).mono ?_
        rintro e w6 ⟨rfl, k6⟩
        go_wp2
        go_ret
        exact ⟨by rw [HS.out]; rfl, hK.trans k6⟩
set_option maxRecDepth 100000 in
set_option maxHeartbeats 4000000 in
theorem implShowWork_any (w : World) (v : Value) (dss : List (List Dd)) (h : RdW w v dss) (hx : dss.length ≤ 1048576) (hm : ∀ i, i < dss.length → (dss.getD i []).length ≤ 1048576) :
    Calls Tryz.prog 6 #[v] w fun e w' => e = .returned (strV (showB dss)) ∧ Keep w w' := by
  cases hb : workB dss
  · have HE : Hid (showB dss = []) := Lib.hid (by rw [showB, hb]; rfl)
    go_enter Tryz.func6, Tryz.ntmps6
    go_wp2_with fail
    refine (implWorkOk_any _ _ _ h hx hm).mono ?_
    rintro e w1 ⟨rfl, k1⟩
    go_wp2
    go_ret
    exact ⟨by rw [HE.out]; rfl, k1⟩
  · obtain ⟨h1, h3, ul⟩ : 1 ≤ dss.length ∧ dss.length ≤ 3 ∧ ∀ i, i < dss.length → okL (dss.getD i []) = true := by
      simp only [workB, Bool.and_eq_true, decide_eq_true_eq] at hb
      obtain ⟨⟨⟨⟨h1, h2⟩, _⟩, _⟩, _⟩ := hb
      exact ⟨h1.1, h1.2, fun i hi => all_get [] h2 i hi⟩
    have HE : Hid (showB dss = joinL [32, 124, 32] (dss.map showC)) := Lib.hid (by rw [showB, if_pos hb]; rfl)
    have hne : dss.map showC ≠ [] := by intro e; have := congrArg List.length e; simp at this; subst this; simp at h1
    have hJ : (joinL [32, 124, 32] (dss.map showC)).length ≤ 1048576 := by
      have := joinL_lenI [32, 124, 32] 80 (dss.map showC) (by
        intro t ht
        obtain ⟨ds, hd, rfl⟩ := List.mem_map.1 ht
        obtain ⟨i, hi, rfl⟩ := List.getElem_of_mem hd
        have := ul i hi
        rw [List.getD_eq_getElem?_getD, List.getElem?_eq_getElem hi] at this
        simp only [okL, Bool.and_eq_true, decide_eq_true_eq, Option.getD_some] at this
        exact showC_lenI _ this.2)
      simp at this
      omega
    obtain ⟨j0, hj, hy0, hy1, hy2⟩ := info_parts Tryz.infoS
    go_enter Tryz.func6, Tryz.ntmps6
    go_wp2_with fail
    refine (implWorkOk_any _ _ _ h hx hm).mono ?_
    rintro e w0 ⟨rfl, k0⟩
    have a0 := ownS_emptyI w0
    go_wp2_with fail
    refine (clerksOf_at w _ (k0.alloc _) _ _ h h1 h3 hm).mono ?_
    rintro e w1 ⟨v1, rfl, rc, k1⟩
    have a1 := a0.keep k1
    have K01 : Keep w0 w1 := ((Keep.refl _).alloc _).trans k1
    clear hb h hm a0 k1 hx
    obtain ⟨b, c1, V, rfl, hbl, hbu, hc⟩ := rc
    rw [heap_size] at hbl
    have HR : ∀ i, i < dss.length → RdD w (V i) (dss.getD i []) := fun i hi => (hc i hi).1
    have HC : ∀ i, i < dss.length → w1.cell? ⟨b, i * 2, none⟩ = some (V i) ∧ w1.cell? ⟨b, i * 2 + 1, none⟩ = some (.int .i64 (takW dss i)) := fun i hi => (hc i hi).2
    clear hc
    go_wp2
    go_loopw [3, 13] (fun x i wr => ∃ k : Nat, k ≤ dss.length ∧ i = .int .i64 k ∧ OwnS wr w0.heap.size x ((dss.take k).map showC) ∧ x.ownBlock ≠ some b ∧ (∀ i, i < dss.length → wr.cell? ⟨b, i * 2, none⟩ = some (V i) ∧ wr.cell? ⟨b, i * 2 + 1, none⟩ = some (.int .i64 (takW dss i))) ∧ b < wr.heap.size ∧ Keep w0 wr) (fun _ i _ => dss.length - (intOf i).toNat)
    case atStart => exact ⟨0, Nat.zero_le _, rfl, a1, by simp [Value.ownBlock]; omega, HC, hbu, K01⟩
    case round =>
      obtain ⟨k, hk, rfl, ho, hnb, hCC, hbw, hK0⟩ := hrel
      clear a1 HC
      by_cases hlt : k < dss.length
      · have r1 := (HR k hlt).keep (k0.trans hK0)
        obtain ⟨d1, d2⟩ := hCC k hlt
        have HCC := Lib.hid hCC
        clear hCC
        have okk := ul k hlt
        have HO : Hid ((dss.take (k + 1)).map showC = (dss.take k).map showC ++ [showC (dss.getD k [])]) := Lib.hid (map_moreCI showC dss k hlt)
        have hlen : ((dss.take k).map showC).length ≤ 3 := by simp; omega
        obtain ⟨ds, hds⟩ : ∃ ds, ds = dss.getD k [] := ⟨_, rfl⟩
        rw [← hds] at r1 okk HO
        clear hds
        generalize takW dss k = t at d2
        obtain ⟨u, hu⟩ : ∃ u, u = V k := ⟨_, rfl⟩
        rw [← hu] at d1 r1
        clear hu
        obtain ⟨ai, ci, rfl, -⟩ := id r1
        have i1 : (0 : Int) ≤ (k : Int) := Int.natCast_nonneg _
        have i2 : (k : Int) < (dss.length : Int) := by omega
        go_wp2_with fail
        refine (text_any _ _ _ (r1.keep ((Keep.refl _).alloc _)) okk).mono ?_
        rintro e w4 ⟨rfl, k4⟩
        have kw4 : Keep wr w4 := ((Keep.refl _).alloc _).trans k4
        generalize (dss.take k).map showC = D at ho hlen HO
        generalize showC ds = T at HO
        have hA4 := ho.keep kw4
        have hge := ho.ge
        obtain ⟨a5, c5, rfl⟩ := ho.shape
        have hsz2 := hK0.size
        have hsz4 := kw4.size
        clear d1 d2 k4
        go_wp2_with (at_builtin; refine wpList_append_own_at _ rfl _ _ 33 rfl w0.heap.size 9 j0 (.string ⟨#[]⟩) 1 16 Tryz.underlying33 hj hy0 hy1 hy2 rfl (by decide) _ _ _ rfl (World.ownsRow.alloc hA4 _) ⟨_, 0, none⟩ 1 1 [strV T] rfl rfl ?c1 ?c2 ?c3 ?c4 ?c5 ?_)
        case c1 =>
          intro j u hj
          match j, hj with
          | 0, hj => simp at hj; subst hj; simp [Addr.add]
        case c2 => intro u hu; simp at hu; subst hu; rfl
        case c3 => unfold maxLen; omega
        case c4 => omega
        case c5 => simp; omega
        intro v' w5 hown' hgrow _ hblk
        have hP : OwnS w5 w0.heap.size v' (D ++ [T]) := ownS_hit hown'
        have hK3 : Keep w0 w5 := ((hK0.trans kw4).alloc _).grown hgrow hge
        have hb4 : b < w4.heap.size := Nat.lt_of_lt_of_le hbw kw4.size
        have hb5 : b < w5.heap.size := Nat.lt_of_lt_of_le (by rw [heap_size]; omega) hgrow.size
        have blk : w5.heap[b]? = wr.heap[b]? := (hgrow.block b (by rw [heap_size]; omega) (fun e => hnb e.symm)).trans (by rw [heap_at, if_neg (by omega)]; exact Below.block kw4 b hbw)
        have hC5 : ∀ i, i < dss.length → w5.cell? ⟨b, i * 2, none⟩ = some (V i) ∧ w5.cell? ⟨b, i * 2 + 1, none⟩ = some (.int .i64 (takW dss i)) := fun i hi => ⟨(cell_same blk _).trans (HCC.out i hi).1, (cell_same blk _).trans (HCC.out i hi).2⟩
        have hne5 : v'.ownBlock ≠ some b := by
          rcases hblk with e | e
          · rw [e]; exact hnb
          · rw [e]; simp only [ne_eq, Option.some.injEq]; omega
        clear hgrow hown' hblk hA4
        go_wp2
        go_roundw
        case rel => exact ⟨k + 1, by omega, by go_num, by rw [HO.out]; exact hP, hne5, hC5, hb5, hK3⟩
        case measure => simp [intOf]; omega
      · obtain rfl : k = dss.length := by omega
        rw [List.take_length] at ho
        have hml : (dss.map showC).length ≤ 1048576 := by simp; omega
        go_wp2_with fail
        refine (join_any _ _ _ _ [32, 124, 32] ho hne hJ hml).mono ?_
        rintro e w6 ⟨rfl, k6⟩
        go_wp2
        go_ret
        exact ⟨by rw [HE.out]; rfl, (k0.trans hK0).trans k6⟩
end Go.Proofs.YtljamlgnobpjeaaGreatDoor
