/- Contracts of the specification's l5Show and ShowWork: the text of a work. -/
import Derived.Test.YtljamlgnobpjeaaGreatDoorWorkOkS
import Derived.Test.YtljamlgnobpjeaaGreatDoorMA
import Derived.Test.YtljamlgnobpjeaaGreatDoorWordsS
import Derived.Test.YtljamlgnobpjeaaGreatDoorL4Show
namespace Go.Proofs.YtljamlgnobpjeaaGreatDoor
open Go.ChangeShapes Go.WideShapes Go.ChangeAt Go.RowKit

theorem ownS_empty (w : World) : OwnS (w.alloc (.cells #[] 9)) w.heap.size (.slice (some ⟨w.heap.size, 0, none⟩) 0 0) [] := World.ownsRow_lit w #[] 0 (Nat.le_refl _) (by decide) rfl
theorem map_moreD {β : Type} (f : Dd → β) (ds : List Dd) (q : Nat) (h : q < ds.length) : (ds.take (q + 1)).map f = (ds.take q).map f ++ [f (ds.getD q zD)] := by
  rw [take_moreL ds q zD h, List.map_append]; rfl
theorem map_moreC {β : Type} (f : List Dd → β) (dss : List (List Dd)) (q : Nat) (h : q < dss.length) : (dss.take (q + 1)).map f = (dss.take q).map f ++ [f (dss.getD q [])] := by
  rw [take_moreL dss q [] h, List.map_append]; rfl
theorem joinL_len (b : List UInt8) (m : Nat) : ∀ ts : List (List UInt8), (∀ t, t ∈ ts → t.length ≤ m) → (joinL b ts).length ≤ ts.length * (m + b.length)
  | [], _ => by simp [joinL]
  | [t], h => by
    have := h t (by simp)
    simp [joinL]; omega
  | t :: u :: r, h => by
    have h1 := h t (by simp)
    have ih := joinL_len b m (u :: r) (fun x hx => h x (by simp only [List.mem_cons] at hx ⊢; exact .inr hx))
    rw [joinL_cons b t (by simp)]
    simp only [List.length_append, List.length_cons, Nat.add_mul, Nat.one_mul] at ih ⊢
    omega
theorem shD_len (d : Dd) : (shD d).length ≤ 14 := showL_length _ _ _ _
theorem showC_len (ds : List Dd) (h : ds.length ≤ 5) : (showC ds).length ≤ 80 := by
  unfold showC
  split
  · simp
  · have := joinL_len [59, 32] 14 (ds.map shD) (by
      intro t ht
      obtain ⟨d, _, rfl⟩ := List.mem_map.1 ht
      exact shD_len d)
    simp at this
    omega
set_option maxRecDepth 100000 in
set_option maxHeartbeats 4000000 in
theorem l5Show_any (w : World) (v : Value) (dss : List (List Dd)) (h : RdW w v dss) (hx : dss.length ≤ 3) (hok : ∀ i, i < dss.length → okL (dss.getD i []) = true) :
    Calls Tryz.prog 29 #[v] w fun e w' => e = .returned (strV (showW dss)) ∧ Keep w w' := by
  have a0 := ownS_empty w
  obtain ⟨a, c, rfl, h⟩ := h
  obtain ⟨i0, hi, hz0, hz1, hz2⟩ := info_parts Tryz.infoS
  go_enter Tryz.func29, Tryz.ntmps29
  go_wp2
  go_loopw [3, 4] (fun v i wr => ∃ k : Nat, k ≤ dss.length ∧ i = .int .i64 k ∧ OwnS wr w.heap.size v ((dss.take k).map showC) ∧ Keep w wr) (fun _ i _ => dss.length - (intOf i).toNat)
  case atStart => exact ⟨0, Nat.zero_le _, rfl, a0, (Keep.refl w).alloc _⟩
  case round =>
    obtain ⟨k, hk, rfl, ho, hK⟩ := hrel
    clear a0
    by_cases hlt : k < dss.length
    · rcases h with h | ⟨b, o, rfl, hb, hc⟩
      · exfalso; rw [h] at hlt; simp at hlt
      obtain ⟨u, e1, r1⟩ := hc k hlt
      have okk := hok k hlt
      have HO : Hid ((dss.take (k + 1)).map showC = (dss.take k).map showC ++ [showC (dss.getD k [])]) := Lib.hid (map_moreC showC dss k hlt)
      have hlen : ((dss.take k).map showC).length ≤ 3 := by simp; omega
      clear hc
      obtain ⟨ds, hds⟩ : ∃ ds, ds = dss.getD k [] := ⟨_, rfl⟩
      rw [← hds] at r1 okk HO
      clear hds
      obtain ⟨ai, ci, rfl, r1⟩ := r1
      have hl5 : ds.length ≤ 5 := by simp [okL] at okk; omega
      have d1 := (hK.cell hb).trans e1
      have i1 : (0 : Int) ≤ (k : Int) := Int.natCast_nonneg _
      have i2 : (k : Int) < (dss.length : Int) := by omega
      have ad0 := ownS_empty wr
      go_wp2
      obtain ⟨wo, hwo⟩ : ∃ wo : World, wo = wr := ⟨_, rfl⟩
      subst hwo
      go_loopw [5, 6] (fun x i wq => ∃ q : Nat, q ≤ ds.length ∧ i = .int .i64 q ∧ OwnS wq wo.heap.size x ((ds.take q).map shD) ∧ Keep wo wq) (fun _ i _ => ds.length - (intOf i).toNat)
      case atStart => exact ⟨0, Nat.zero_le _, rfl, ad0, (Keep.refl wo).alloc _⟩
      case round =>
        obtain ⟨q, hq, rfl, hA, hQ⟩ := hrel
        clear ad0
        have d1 := ((hK.trans hQ).cell hb).trans e1
        by_cases hlq : q < ds.length
        · rcases r1 with h | ⟨b2, o2, rfl, hb2, hc2⟩
          · exfalso; rw [h] at hlq; simp at hlq
          have AT := (hc2 q hlq).keep hb2 (hK.trans hQ)
          clear hc2
          have hbq : b < wr.heap.size := Nat.lt_of_lt_of_le hb (hK.trans hQ).size
          have hb3 : b2 < wr.heap.size := Nat.lt_of_lt_of_le hb2 (hK.trans hQ).size
          have j1 : (0 : Int) ≤ (q : Int) := Int.natCast_nonneg _
          have j2 : (q : Int) < (ds.length : Int) := by omega
          have okq : okD (ds.getD q zD) = true := by
            simp only [okL, Bool.and_eq_true] at okk
            exact all_get zD okk.1 q hlq
          have HD : Hid ((ds.take (q + 1)).map shD = (ds.take q).map shD ++ [shD (ds.getD q zD)]) := Lib.hid (map_moreD shD ds q hlq)
          have hll : ((ds.take q).map shD).length ≤ 5 := by simp; omega
          generalize (ds.take q).map shD = L at hA HD hll
          obtain ⟨d, hd⟩ : ∃ d, d = ds.getD q zD := ⟨_, rfl⟩
          rw [← hd] at AT okq HD
          clear hd
          obtain ⟨x0, x1, x2, x3⟩ := d
          obtain ⟨A0, A1, A2, A3⟩ := AT
          simp only at A0 A1 A2 A3
          have hsz := hQ.size
          go_wp2_with fail
          refine (l4Show_any _ _ _ _ _ okq).mono ?_
          rintro e wz ⟨rfl, kk⟩
          have hA := hA.keep kk
          have hQ := hQ.trans kk
          have hsz := hQ.size
          clear A0 A1 A2 A3 d1
          go_wp2_with (at_builtin; refine wpList_append_own _ rfl _ _ 33 rfl wo.heap.size 9 i0 (.string ⟨#[]⟩) 1 16 Tryz.underlying33 hi hz0 hz1 hz2 rfl (by decide) _ _ _ rfl (World.ownsRow.alloc hA _) ⟨_, 0, none⟩ 1 1 [strV (showL x0 x1 x2 x3)] rfl rfl ?c1 ?c2 ?c3 ?c4 ?c5 ?_)
          case c1 =>
            intro j u hj
            match j, hj with
            | 0, hj => simp at hj; subst hj; simp [Addr.add]
          case c2 => intro u hu; simp at hu; subst hu; rfl
          case c3 => unfold maxLen; first | (simp; done) | omega | (simp; omega)
          case c4 => first | (simp; done) | omega | (simp; omega)
          case c5 => first | (simp; done) | omega | (simp; omega)
          intro v' w2 hown' hgrow _
          have hA2 : OwnS w2 wo.heap.size v' (L ++ [showL x0 x1 x2 x3]) := ownS_hit hown'
          have hQ2 : Keep wo w2 := (hQ.alloc _).grown hgrow hA.ge
          clear hgrow hown' hA hQ
          go_wp2
          go_roundw
          case rel => exact ⟨q + 1, by omega, by go_num, by rw [HD.out]; exact hA2, hQ2⟩
          case measure => simp [intOf]; omega
        · obtain rfl : q = ds.length := by omega
          rw [List.take_length] at hA
          have hsz := hQ.size
          have hsz2 := hK.size
          have hoo := ho
          have hWQ := hQ
          have ho := ho.keep hQ
          have hQ := hK.trans hQ
          generalize (dss.take k).map showC = D at ho hoo hlen HO
          have sl := showC_len ds hl5
          by_cases l0 : ds = []
          · have HS : Hid (joinL [59, 32] [[45]] = showC ds) := Lib.hid (by rw [showC, if_pos l0]; rfl)
            rw [l0] at hA
            clear l0
            have hA : OwnS wr wo.heap.size u5 [] := hA
            obtain ⟨a5, c5, rfl, -⟩ := hA.rd
            go_wp2_with (at_builtin; refine wpList_append_own _ rfl _ _ 33 rfl wo.heap.size 9 i0 (.string ⟨#[]⟩) 1 16 Tryz.underlying33 hi hz0 hz1 hz2 rfl (by decide) _ _ _ rfl (World.ownsRow.alloc hA _) ⟨_, 0, none⟩ 1 1 [strV [45]] rfl rfl ?c1 ?c2 ?c3 ?c4 ?c5 ?_)
            case c1 =>
              intro j u hj
              match j, hj with
              | 0, hj => simp at hj; subst hj; simp [Addr.add]
            case c2 => intro u hu; simp at hu; subst hu; rfl
            case c3 => unfold maxLen; first | (simp; done) | omega | (simp; omega)
            case c4 => first | (simp; done) | omega | (simp; omega)
            case c5 => first | (simp; done) | omega | (simp; omega)
            intro v2 w2 hown' hgrow _
            have hA2 : OwnS w2 wo.heap.size v2 [[45]] := ownS_hit (ws := []) hown'
            have g2 : Keep wo w2 := (hWQ.alloc _).grown hgrow hA.ge
            have ho := hoo.keep g2
            have hQ := hK.trans g2
            clear hgrow hown' hA
            go_wp2_with fail
            refine (l1Words_any [59, 32] _ _ _ hA2.rd (by simp) (by rw [HS.out]; omega)).mono ?_
            rintro e wz ⟨rfl, kk⟩
            have ho := ho.keep kk
            have hQ := hQ.trans kk
            have hsz := hQ.size
            go_wp2_with (at_builtin; refine wpList_append_own _ rfl _ _ 33 rfl w.heap.size 9 i0 (.string ⟨#[]⟩) 1 16 Tryz.underlying33 hi hz0 hz1 hz2 rfl (by decide) _ _ _ rfl (World.ownsRow.alloc ho _) ⟨_, 0, none⟩ 1 1 [strV (joinL [59, 32] [[45]])] rfl rfl ?c1 ?c2 ?c3 ?c4 ?c5 ?_)
            case c1 =>
              intro j u hj
              match j, hj with
              | 0, hj => simp at hj; subst hj; simp [Addr.add]
            case c2 => intro u hu; simp at hu; subst hu; rfl
            case c3 => unfold maxLen; first | (simp; done) | omega | (simp; omega)
            case c4 => first | (simp; done) | omega | (simp; omega)
            case c5 => first | (simp; done) | omega | (simp; omega)
            intro v' w3 hown' hgrow _
            have hP : OwnS w3 w.heap.size v' (D ++ [joinL [59, 32] [[45]]]) := ownS_hit hown'
            have hQ3 : Keep w w3 := (hQ.alloc _).grown hgrow ho.ge
            clear hgrow hown' ho hQ
            go_wp2
            go_roundw
            case rel => exact ⟨k + 1, by omega, by go_num, by rw [HO.out, ← HS.out]; exact hP, hQ3⟩
            case measure => simp [intOf]; omega
          · have HS : Hid (joinL [59, 32] (ds.map shD) = showC ds) := Lib.hid (by rw [showC, if_neg l0])
            have lp : 0 < ds.length := List.length_pos_iff.2 l0
            have el : ((ds.length : Int) == 0) = false := by simp; omega
            clear l0
            obtain ⟨a5, c5, e5, -⟩ := hA.rd
            rw [List.length_map] at e5
            subst e5
            go_wp2_with fail
            refine (l1Words_any [59, 32] _ _ _ hA.rd (by simp; omega) (by rw [HS.out]; omega)).mono ?_
            rintro e wz ⟨rfl, kk⟩
            have ho := ho.keep kk
            have hQ := hQ.trans kk
            have hsz := hQ.size
            go_wp2_with (at_builtin; refine wpList_append_own _ rfl _ _ 33 rfl w.heap.size 9 i0 (.string ⟨#[]⟩) 1 16 Tryz.underlying33 hi hz0 hz1 hz2 rfl (by decide) _ _ _ rfl (World.ownsRow.alloc ho _) ⟨_, 0, none⟩ 1 1 [strV (joinL [59, 32] (ds.map shD))] rfl rfl ?c1 ?c2 ?c3 ?c4 ?c5 ?_)
            case c1 =>
              intro j u hj
              match j, hj with
              | 0, hj => simp at hj; subst hj; simp [Addr.add]
            case c2 => intro u hu; simp at hu; subst hu; rfl
            case c3 => unfold maxLen; first | (simp; done) | omega | (simp; omega)
            case c4 => first | (simp; done) | omega | (simp; omega)
            case c5 => first | (simp; done) | omega | (simp; omega)
            intro v' w3 hown' hgrow _
            have hP : OwnS w3 w.heap.size v' (D ++ [joinL [59, 32] (ds.map shD)]) := ownS_hit hown'
            have hQ3 : Keep w w3 := (hQ.alloc _).grown hgrow ho.ge
            clear hgrow hown' ho hQ
            go_wp2
            go_roundw
            case rel => exact ⟨k + 1, by omega, by go_num, by rw [HO.out, ← HS.out]; exact hP, hQ3⟩
            case measure => simp [intOf]; omega
    · obtain rfl : k = dss.length := by omega
      rw [List.take_length] at ho
      have hl2 : (joinL [32, 124, 32] (dss.map showC)).length ≤ 1048576 := by
        have := joinL_len [32, 124, 32] 80 (dss.map showC) (by
          intro t ht
          obtain ⟨ds, hds, rfl⟩ := List.mem_map.1 ht
          obtain ⟨i, hi, rfl⟩ := List.getElem_of_mem hds
          have := hok i hi
          rw [List.getD_eq_getElem?_getD, List.getElem?_eq_getElem hi] at this
          simp [okL] at this
          exact showC_len _ this.2)
        simp at this
        omega
      go_wp2_with fail
      refine (l1Words_any [32, 124, 32] _ _ _ ho.rd (by simp; omega) hl2).mono ?_
      rintro e wz ⟨rfl, kk⟩
      go_wp2
      go_ret
      exact ⟨rfl, hK.trans kk⟩
theorem workB_useS {dss : List (List Dd)} (h : workB dss = true) : dss.length ≤ 3 ∧ ∀ i, i < dss.length → okL (dss.getD i []) = true := by
  simp only [workB, Bool.and_eq_true, decide_eq_true_eq] at h
  obtain ⟨⟨⟨⟨h1, h2⟩, _⟩, _⟩, _⟩ := h
  exact ⟨h1.2, fun i hi => all_get [] h2 i hi⟩
theorem specShowWork_any (w : World) (v : Value) (dss : List (List Dd)) (h : RdW w v dss) (hx : dss.length ≤ 1048576) (hm : ∀ i, i < dss.length → (dss.getD i []).length ≤ 1048576) :
    Calls Tryz.prog 12 #[v] w fun e w' => e = .returned (strV (showB dss)) ∧ Keep w w' := by
  cases hb : workB dss
  · have HE : Hid (showB dss = []) := Lib.hid (by rw [showB, hb]; rfl)
    go_enter Tryz.func12, Tryz.ntmps12
    go_wp2_with fail
    refine (specWorkOk_any _ _ _ h hx hm).mono ?_
    rintro e w1 ⟨rfl, k1⟩
    go_wp2
    go_ret
    exact ⟨by rw [HE.out]; rfl, k1⟩
  · have HE : Hid (showB dss = showW dss) := Lib.hid (by rw [showB, if_pos hb])
    obtain ⟨u1, u2⟩ := workB_useS hb
    go_enter Tryz.func12, Tryz.ntmps12
    go_wp2_with fail
    refine (specWorkOk_any _ _ _ h hx hm).mono ?_
    rintro e w1 ⟨rfl, k1⟩
    have h := h.keep k1
    go_wp2_with fail
    refine (l5Show_any _ _ _ h u1 u2).mono ?_
    rintro e w2 ⟨rfl, k2⟩
    go_wp2
    go_ret
    exact ⟨by rw [HE.out]; rfl, k1.trans k2⟩
end Go.Proofs.YtljamlgnobpjeaaGreatDoor
