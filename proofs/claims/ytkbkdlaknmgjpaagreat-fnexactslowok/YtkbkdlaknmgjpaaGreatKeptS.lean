/- Contract of the specification's l7Kept. (Its cases are written by mkkept.py.) -/
import Derived.Test.YtkbkdlaknmgjpaaGreatBehindS
import Derived.Test.YtkbkdlaknmgjpaaGreatMB
import Derived.Test.YtkbkdlaknmgjpaaGreatWholeS
import Derived.Test.YtkbkdlaknmgjpaaGreatL1Has
namespace Go.Proofs.YtkbkdlaknmgjpaaGreat
open Go.ChangeShapes Go.WideShapes Go.ChangeAt Go.RowKit

set_option maxRecDepth 100000 in
set_option maxHeartbeats 8000000 in
theorem l7Kept_any (w : World) (vd v : Value) (dss : List (List Dd)) (es : List Ev) (hd : RdW w vd dss) (h : RdE w v es) (h3 : 3 ≤ es.length) (hn : es.length ≤ 12) (hl : ∀ i, i < dss.length → (dss.getD i []).length ≤ 1048576)
    (hin : ∀ j, 3 ≤ j → j < es.length → ∃ i k : Nat, (es.getD j zE).1 = (i : Int) ∧ (es.getD j zE).2.1 = (k : Int) ∧ i < dss.length ∧ k < (dss.getD i []).length) :
    Calls Tryz.prog 103 #[vd, v] w fun e w' => ∃ v', e = .returned v' ∧ Row w' w.heap.size v' (kepL dss es) ∧ Keep w w' := by
  have HB := (beh_line hn).1
  have r := h
  obtain ⟨a, c, rfl, h⟩ := h
  go_enter Tryz.func103, Tryz.ntmps103
  go_wp2_with fail
  refine (l7Behind_any _ _ _ r hn).mono ?_
  rintro e w1 ⟨v1, rfl, o1, k1⟩
  clear r
  obtain ⟨G, cap, rfl, hG, hR⟩ : ∃ g cap, v1 = .slice (some ⟨g, 0, none⟩) es.length cap ∧ w.heap.size ≤ g ∧ RowAt w1 g (behL es) := by
    rcases o1 with ⟨_, e⟩ | ⟨g, cap, e, hg, hr⟩
    · have h0 : es.length = 0 := by rw [← HB.2.1, e]; rfl
      omega
    · exact ⟨g, cap, by rw [e, HB.2.1], hg, hr⟩
  clear o1
  have HW0 := Lib.hid HB
  clear HB
  go_wp2
  go_loopw [6] (fun i wr => ∃ k : Nat, 3 ≤ k ∧ k ≤ es.length ∧ i = .int .i64 k ∧ RowAt wr G (offAll (kepP dss es) es.length (behL es) k) ∧ Keep w wr) (fun i _ => es.length - (intOf i).toNat)
  case atStart => exact ⟨3, Nat.le_refl _, h3, rfl, by rw [kep_three 3 (Nat.le_refl _)]; exact hR, k1⟩
  case round =>
    obtain ⟨k, hk3, hk, rfl, hr, hK⟩ := hrel
    clear hR k1
    by_cases hlt : k < es.length
    · rcases h with h | ⟨b, off, rfl, hb, hc⟩
      · exfalso; rw [h] at hlt; simp at hlt
      have AT := hc k _ (evs_get hlt)
      have HW := Lib.hid (web_offAll (p := kepP dss es) HW0.out k (by omega)).1
      have HE : Hid (offIn (kepP dss es) k (offAll (kepP dss es) es.length (behL es) k) es.length = offAll (kepP dss es) es.length (behL es) (k + 1)) := Lib.hid rfl
      have HHas := fun m hm => kep_has (dss := dss) hn (k := k) (m := m) hlt hm
      generalize offAll (kepP dss es) es.length (behL es) k = T at *
      obtain ⟨wo, rfl⟩ : ∃ wo : World, wo = wr := ⟨_, rfl⟩
      have i1 : (0 : Int) ≤ (k : Int) := Int.natCast_nonneg _
      have i2 : (k : Int) < (es.length : Int) := by omega
      have HST : Hid (offIn (kepP dss es) k T (k + 1) = T) := Lib.hid (offIn_none T _ (fun j hj => kepP_up (by omega)))
      go_wp2
      go_loopw [7] (fun i wr => ∃ m : Nat, k + 1 ≤ m ∧ m ≤ es.length ∧ i = .int .i64 m ∧ RowAt wr G (offIn (kepP dss es) k T m) ∧ Keep w wr) (fun i _ => es.length - (intOf i).toNat)
      case atStart => exact ⟨k + 1, Nat.le_refl _, by omega, by go_num, by rw [HST.out]; exact hr, hK⟩
      case round =>
        clear hr hK HST
        obtain ⟨m, hkm, hm, rfl, hr, hK⟩ := hrel
        by_cases hml : m < es.length
        · have AK := AT.keep hb hK
          have AM := (hc m _ (evs_get hml)).keep hb hK
          have hbw : b < wr.heap.size := Nat.lt_of_lt_of_le hb hK.size
          have hB := (web_offIn (p := kepP dss es) hlt HW.out m hm).1
          have hBl : k < (offIn (kepP dss es) k T m).length := by rw [hB.2.1]; exact hlt
          have hbt : bitB ((offIn (kepP dss es) k T m).getD k 0) m = behP es k m := by
            rw [← inSetB_bit (okB_range (hB.2.2 k hlt)) (by omega)]; exact HHas m hml
          obtain ⟨ci, di, E0, E1, cI, dI⟩ := hin k hk3 hlt
          obtain ⟨ck, dk, F0, F1, cK, dK⟩ := hin m (by omega) hml
          have hcl : behP es k m = true → ci = ck := fun hp => by
            unfold behP at hp
            rw [E0, F0] at hp
            simp at hp
            omega
          clear hB AT hc HHas hin
          have HP : Hid (kepP dss es k m = (decide (3 ≤ k) && behP es k m && kepQ dss (es.getD k zE) (es.getD m zE))) := Lib.hid rfl
          obtain ⟨e, he⟩ : ∃ e, e = es.getD k zE := ⟨_, rfl⟩
          rw [← he] at AK HP E0 E1
          obtain ⟨d, hd2⟩ : ∃ d, d = es.getD m zE := ⟨_, rfl⟩
          rw [← hd2] at AM HP F0 F1
          obtain ⟨x0, x1, x2, x3, x4, x5⟩ := e
          obtain ⟨y0, y1, y2, y3, y4, y5⟩ := d
          simp only at E0 E1 F0 F1
          subst E0 E1 F0 F1
          have HP2 := Lib.hid (And.intro he hd2)
          clear he hd2
          obtain ⟨A0, A1, A2, A3, A4, A5⟩ := atE AK
          obtain ⟨B0, B1, B2, B3, B4, B5⟩ := atE AM
          clear AK AM
          have j1 : (0 : Int) ≤ (m : Int) := Int.natCast_nonneg _
          have j2 : (m : Int) < (es.length : Int) := by omega
          have j3 : (es.length : Int) ≤ 12 := by omega
          have HH : kepP dss es k m = true → Hid (offIn (kepP dss es) k T (m + 1) = (offIn (kepP dss es) k T m).set k (bits .andNot .i64 ((offIn (kepP dss es) k T m).getD k 0) (wrap64 (2 ^ (m : Int).toNat)))) := fun hp => Lib.hid (offIn_hit T hp)
          have HM : kepP dss es k m = false → Hid (offIn (kepP dss es) k T (m + 1) = offIn (kepP dss es) k T m) := fun hp => Lib.hid (offIn_miss T hp)
          have d1 := hr.cell (j := k) hBl
          have d2 := hr.free k
          have hGl := hr.lt
          obtain ⟨S, hS⟩ : ∃ S, S = offIn (kepP dss es) k T m := ⟨_, rfl⟩
          rw [← hS] at d1 hr HH HM hbt hBl
          clear hS
          obtain ⟨x, hx⟩ : ∃ x, x = S.getD k 0 := ⟨_, rfl⟩
          rw [← hx] at d1 HH hbt
          have HX := Lib.hid hx
          clear hx
          cases hbp : behP es k m
          · have HE1 := HM (by rw [kepP, hbp]; simp)
            rw [hbp] at hbt
            clear HH HM HP HP2 d2 hcl
            go_wp2
            go_quiet ((go_at_call 117; exact Calls.quiet_of_same (l1Has_any _ _ _ (by omega) (by omega))))
            go_wp2
            go_roundw
            case rel => exact ⟨m + 1, by omega, by omega, by go_num, by rw [HE1.out]; exact hr.drewN _, hK.grown (grown_draw wr _ none) (by simp)⟩
            case measure => simp [intOf]; omega
          rw [hbp] at hbt
          cases x2
          rotate_left
          · have HE1 := HM (by rw [HP.out, kepQ]; simp [rdE])
            clear HH HM HP HP2 d2 hcl
            go_wp2
            go_quiet ((go_at_call 117; exact Calls.quiet_of_same (l1Has_any _ _ _ (by omega) (by omega))))
            go_wp2
            go_roundw
            case rel => exact ⟨m + 1, by omega, by omega, by go_num, by rw [HE1.out]; exact hr.drewN _, hK.grown (grown_draw wr _ none) (by simp)⟩
            case measure => simp [intOf]; omega
          cases y2
          · have HE1 := HM (by rw [HP.out, kepQ]; simp [rdE])
            clear HH HM HP HP2 d2 hcl
            go_wp2
            go_quiet ((go_at_call 117; exact Calls.quiet_of_same (l1Has_any _ _ _ (by omega) (by omega))))
            go_wp2
            go_roundw
            case rel => exact ⟨m + 1, by omega, by omega, by go_num, by rw [HE1.out]; exact hr.drewN _, hK.grown (grown_draw wr _ none) (by simp)⟩
            case measure => simp [intOf]; omega
          by_cases cc : x5 = y5
          · subst cc
            have HE1 := HM (by rw [HP.out, kepQ]; simp [csE])
            clear HH HM HP HP2 d2 hcl
            go_wp2
            go_quiet ((go_at_call 117; exact Calls.quiet_of_same (l1Has_any _ _ _ (by omega) (by omega))))
            go_wp2
            go_roundw
            case rel => exact ⟨m + 1, by omega, by omega, by go_num, by rw [HE1.out]; exact hr.drewN _, hK.grown (grown_draw wr _ none) (by simp)⟩
            case measure => simp [intOf]; omega
          have cb : (x5 == y5) = false := by simp [cc]
          have xy := hcl hbp
          subst xy
          have HQ : Hid (kepP dss es k m = (!waitsD (dss.getD ci []) di dk && !wholeD ((dss.getD ci []).getD di zD) && !wholeD ((dss.getD ci []).getD dk zD))) := Lib.hid (by
            rw [kepP, hbp, ← HP2.out.1, ← HP2.out.2, kepQ]
            have h3' : decide (3 ≤ k) = true := decide_eq_true hk3
            have cn : (x5 != y5) = true := by simp [cc]
            show (decide (3 ≤ k) && true && (!false && true && (x5 != y5) && (!waitsD (dss.getD ci []) di dk && !wholeD ((dss.getD ci []).getD di zD) && !wholeD ((dss.getD ci []).getD dk zD)))) = _
            rw [h3', cn]
            simp)
          clear HP2 cc hcl cK
          have KW := fun (wz : World) (kz : Keep wr wz) => l7Waits_any wz vd dss (hd.keep (hK.trans kz)) ci di dk false x3 x4 x5 ci true y3 y4 y5 cI dI dK (hl ci cI)
          have KI := fun (wz : World) (kz : Keep wr wz) => l7Whole_any wz vd dss (hd.keep (hK.trans kz)) ci di false x3 x4 x5 cI dI
          have KK2 := fun (wz : World) (kz : Keep wr wz) => l7Whole_any wz vd dss (hd.keep (hK.trans kz)) ci dk true y3 y4 y5 cI dK
          cases hw : waitsD (dss.getD ci []) di dk
          rotate_left
          · have HE1 := HM (by rw [HQ.out, hw]; simp)
            rw [hw] at KW
            clear HQ KI KK2
            clear HH HM HP d2
            go_wp2
            go_quiet ((go_at_call 117; exact Calls.quiet_of_same (l1Has_any _ _ _ (by omega) (by omega))))
            go_wp2
            have KR : Keep wr ((wr.drewN nq).drew) := ((Keep.refl wr).grown (grown_draw wr nq none) (by simp)).drew
            have z1 : b < ((wr.drewN nq).drew).heap.size := hbw
            refine wp_region_held_drew (S := (fun w' => w'.cell? ⟨b, off + k * 6, none⟩ = some (.int .i64 ci) ∧ w'.cell? ⟨b, off + k * 6 + 1, none⟩ = some (.int .i64 di) ∧ w'.cell? ⟨b, off + k * 6 + 2, none⟩ = some (.bool false) ∧ w'.cell? ⟨b, off + k * 6 + 3, none⟩ = some (.int .i64 x3) ∧ w'.cell? ⟨b, off + k * 6 + 4, none⟩ = some (.int .i64 x4) ∧ w'.cell? ⟨b, off + k * 6 + 5, none⟩ = some (.int .i64 x5) ∧ w'.cell? ⟨b, off + m * 6, none⟩ = some (.int .i64 ci) ∧ w'.cell? ⟨b, off + m * 6 + 1, none⟩ = some (.int .i64 dk) ∧ w'.cell? ⟨b, off + m * 6 + 2, none⟩ = some (.bool true) ∧ w'.cell? ⟨b, off + m * 6 + 3, none⟩ = some (.int .i64 y3) ∧ w'.cell? ⟨b, off + m * 6 + 4, none⟩ = some (.int .i64 y4) ∧ w'.cell? ⟨b, off + m * 6 + 5, none⟩ = some (.int .i64 y5))) (by kernel_rfl) ?_ (fun hHeld => ?_)
            · go_keep
            refine takeH 0 59 (v := ?_) rfl rfl (by kernel_rfl) (by kernel_rfl) (by kernel_rfl) (fun _ _ _ h => h) (by rfl) ?_ (by assumption) ?_
            rotate_left
            · intro wx hSw
              try dsimp only at hSw
              go_simp
              with_reducible rfl
            simp only [Act.put, List.setIfInBounds_toArray, List.set_cons_zero, List.set_cons_succ]
            refine takeH 1 60 (v := ?_) rfl rfl (by kernel_rfl) (by kernel_rfl) (by kernel_rfl) (fun _ _ _ h => h) (by rfl) ?_ (by assumption) ?_
            rotate_left
            · intro wx hSw
              try dsimp only at hSw
              go_simp
              with_reducible rfl
            simp only [Act.put, List.setIfInBounds_toArray, List.set_cons_zero, List.set_cons_succ]
            refine takeH 2 61 (v := ?_) rfl rfl (by kernel_rfl) (by kernel_rfl) (by kernel_rfl) (fun _ _ _ h => h) (by rfl) ?_ (by assumption) ?_
            rotate_left
            · intro wx hSw
              try dsimp only at hSw
              go_simp
              with_reducible rfl
            simp only [Act.put, List.setIfInBounds_toArray, List.set_cons_zero, List.set_cons_succ]
            refine takeH 3 62 (v := ?_) rfl rfl (by kernel_rfl) (by kernel_rfl) (by kernel_rfl) (fun _ _ _ h => h) (by rfl) ?_ (by assumption) ?_
            rotate_left
            · intro wx hSw
              try dsimp only at hSw
              go_simp
              with_reducible rfl
            simp only [Act.put, List.setIfInBounds_toArray, List.set_cons_zero, List.set_cons_succ]
            refine takeH 4 63 (v := ?_) rfl rfl (by kernel_rfl) (by kernel_rfl) (by kernel_rfl) (fun _ _ _ h => h) (by rfl) ?_ (by assumption) ?_
            rotate_left
            · intro wx hSw
              try dsimp only at hSw
              go_simp
              with_reducible rfl
            simp only [Act.put, List.setIfInBounds_toArray, List.set_cons_zero, List.set_cons_succ]
            refine takeH 5 64 (v := ?_) rfl rfl (by kernel_rfl) (by kernel_rfl) (by kernel_rfl) (fun _ _ _ h => h) (by rfl) ?_ (by assumption) ?_
            rotate_left
            · intro wx hSw
              try dsimp only at hSw
              go_simp
              with_reducible rfl
            simp only [Act.put, List.setIfInBounds_toArray, List.set_cons_zero, List.set_cons_succ]
            refine takeH 6 65 (v := ?_) rfl rfl (by kernel_rfl) (by kernel_rfl) (by kernel_rfl) (fun _ _ _ h => h) (by rfl) ?_ (by assumption) ?_
            rotate_left
            · intro wx hSw
              try dsimp only at hSw
              go_simp
              with_reducible rfl
            simp only [Act.put, List.setIfInBounds_toArray, List.set_cons_zero, List.set_cons_succ]
            refine takeH 7 66 (v := ?_) rfl rfl (by kernel_rfl) (by kernel_rfl) (by kernel_rfl) (fun _ _ _ h => h) (by rfl) ?_ (by assumption) ?_
            rotate_left
            · intro wx hSw
              try dsimp only at hSw
              go_simp
              with_reducible rfl
            simp only [Act.put, List.setIfInBounds_toArray, List.set_cons_zero, List.set_cons_succ]
            refine takeH 8 67 (v := ?_) rfl rfl (by kernel_rfl) (by kernel_rfl) (by kernel_rfl) (fun _ _ _ h => h) (by rfl) ?_ (by assumption) ?_
            rotate_left
            · intro wx hSw
              try dsimp only at hSw
              go_simp
              with_reducible rfl
            simp only [Act.put, List.setIfInBounds_toArray, List.set_cons_zero, List.set_cons_succ]
            refine wpAnyH_ready (rs := [9]) (by kernel_rfl) (by simp) ?_
            refine AllReadyH.cons rfl (fun K hK => ?_) AllReadyH.nil
            go_simp
            refine (KW _ KR).mono ?_
            rintro e wz1 ⟨rfl, kk⟩
            have z0 := z1
            have KR := KR.trans kk
            have z1 := Nat.lt_of_lt_of_le z1 kk.size
            go_wp2_with fail
            refine hK.out _ _ ?_ (fun hHeld => ?_)
            · exact ⟨(kk.cell z0).trans hHeld.1, (kk.cell z0).trans hHeld.2.1, (kk.cell z0).trans hHeld.2.2.1, (kk.cell z0).trans hHeld.2.2.2.1, (kk.cell z0).trans hHeld.2.2.2.2.1, (kk.cell z0).trans hHeld.2.2.2.2.2.1, (kk.cell z0).trans hHeld.2.2.2.2.2.2.1, (kk.cell z0).trans hHeld.2.2.2.2.2.2.2.1, (kk.cell z0).trans hHeld.2.2.2.2.2.2.2.2.1, (kk.cell z0).trans hHeld.2.2.2.2.2.2.2.2.2.1, (kk.cell z0).trans hHeld.2.2.2.2.2.2.2.2.2.2.1, (kk.cell z0).trans hHeld.2.2.2.2.2.2.2.2.2.2.2⟩
            clear hK K
            refine takeH 10 69 (v := ?_) rfl rfl (by kernel_rfl) (by kernel_rfl) (by kernel_rfl) (fun _ _ _ h => h) (by rfl) ?_ (by assumption) ?_
            rotate_left
            · intro wx hSw
              try dsimp only at hSw
              go_simp
              with_reducible rfl
            simp only [Act.put, List.setIfInBounds_toArray, List.set_cons_zero, List.set_cons_succ]
            refine takeH 11 70 (v := ?_) rfl rfl (by kernel_rfl) (by kernel_rfl) (by kernel_rfl) (fun _ _ _ h => h) (by rfl) ?_ (by assumption) ?_
            rotate_left
            · intro wx hSw
              try dsimp only at hSw
              go_simp
              with_reducible rfl
            simp only [Act.put, List.setIfInBounds_toArray, List.set_cons_zero, List.set_cons_succ]
            refine skipH 12 71 rfl rfl (by kernel_rfl) (by kernel_rfl) (by kernel_rfl) (fun _ _ _ h => h) (by rfl) (by assumption) ?_
            simp only [Act.put, List.setIfInBounds_toArray, List.set_cons_zero, List.set_cons_succ]
            refine skipH 13 72 rfl rfl (by kernel_rfl) (by kernel_rfl) (by kernel_rfl) (fun _ _ _ h => h) (by rfl) (by assumption) ?_
            simp only [Act.put, List.setIfInBounds_toArray, List.set_cons_zero, List.set_cons_succ]
            refine skipH 14 73 rfl rfl (by kernel_rfl) (by kernel_rfl) (by kernel_rfl) (fun _ _ _ h => h) (by rfl) (by assumption) ?_
            simp only [Act.put, List.setIfInBounds_toArray, List.set_cons_zero, List.set_cons_succ]
            refine skipH 15 74 rfl rfl (by kernel_rfl) (by kernel_rfl) (by kernel_rfl) (fun _ _ _ h => h) (by rfl) (by assumption) ?_
            simp only [Act.put, List.setIfInBounds_toArray, List.set_cons_zero, List.set_cons_succ]
            refine skipH 16 75 rfl rfl (by kernel_rfl) (by kernel_rfl) (by kernel_rfl) (fun _ _ _ h => h) (by rfl) (by assumption) ?_
            simp only [Act.put, List.setIfInBounds_toArray, List.set_cons_zero, List.set_cons_succ]
            refine skipH 17 76 rfl rfl (by kernel_rfl) (by kernel_rfl) (by kernel_rfl) (fun _ _ _ h => h) (by rfl) (by assumption) ?_
            simp only [Act.put, List.setIfInBounds_toArray, List.set_cons_zero, List.set_cons_succ]
            refine skipH 18 77 rfl rfl (by kernel_rfl) (by kernel_rfl) (by kernel_rfl) (fun _ _ _ h => h) (by rfl) (by assumption) ?_
            simp only [Act.put, List.setIfInBounds_toArray, List.set_cons_zero, List.set_cons_succ]
            refine takeH 19 78 (v := ?_) rfl rfl (by kernel_rfl) (by kernel_rfl) (by kernel_rfl) (fun _ _ _ h => h) (by rfl) ?_ (by assumption) ?_
            rotate_left
            · intro wx hSw
              try dsimp only at hSw
              go_simp
              with_reducible rfl
            simp only [Act.put, List.setIfInBounds_toArray, List.set_cons_zero, List.set_cons_succ]
            refine takeH 20 79 (v := ?_) rfl rfl (by kernel_rfl) (by kernel_rfl) (by kernel_rfl) (fun _ _ _ h => h) (by rfl) ?_ (by assumption) ?_
            rotate_left
            · intro wx hSw
              try dsimp only at hSw
              go_simp
              with_reducible rfl
            simp only [Act.put, List.setIfInBounds_toArray, List.set_cons_zero, List.set_cons_succ]
            refine skipH 21 80 rfl rfl (by kernel_rfl) (by kernel_rfl) (by kernel_rfl) (fun _ _ _ h => h) (by rfl) (by assumption) ?_
            simp only [Act.put, List.setIfInBounds_toArray, List.set_cons_zero, List.set_cons_succ]
            refine skipH 22 81 rfl rfl (by kernel_rfl) (by kernel_rfl) (by kernel_rfl) (fun _ _ _ h => h) (by rfl) (by assumption) ?_
            simp only [Act.put, List.setIfInBounds_toArray, List.set_cons_zero, List.set_cons_succ]
            refine skipH 23 82 rfl rfl (by kernel_rfl) (by kernel_rfl) (by kernel_rfl) (fun _ _ _ h => h) (by rfl) (by assumption) ?_
            simp only [Act.put, List.setIfInBounds_toArray, List.set_cons_zero, List.set_cons_succ]
            refine skipH 24 83 rfl rfl (by kernel_rfl) (by kernel_rfl) (by kernel_rfl) (fun _ _ _ h => h) (by rfl) (by assumption) ?_
            simp only [Act.put, List.setIfInBounds_toArray, List.set_cons_zero, List.set_cons_succ]
            refine skipH 25 84 rfl rfl (by kernel_rfl) (by kernel_rfl) (by kernel_rfl) (fun _ _ _ h => h) (by rfl) (by assumption) ?_
            simp only [Act.put, List.setIfInBounds_toArray, List.set_cons_zero, List.set_cons_succ]
            refine skipH 26 85 rfl rfl (by kernel_rfl) (by kernel_rfl) (by kernel_rfl) (fun _ _ _ h => h) (by rfl) (by assumption) ?_
            simp only [Act.put, List.setIfInBounds_toArray, List.set_cons_zero, List.set_cons_succ]
            refine skipH 27 86 rfl rfl (by kernel_rfl) (by kernel_rfl) (by kernel_rfl) (fun _ _ _ h => h) (by rfl) (by assumption) ?_
            simp only [Act.put, List.setIfInBounds_toArray, List.set_cons_zero, List.set_cons_succ]
            refine takeH 28 87 (v := ?_) rfl rfl (by kernel_rfl) (by kernel_rfl) (by kernel_rfl) (fun _ _ _ h => h) (by rfl) ?_ (by assumption) ?_
            rotate_left
            · intro wx hSw
              try dsimp only at hSw
              go_simp
              with_reducible rfl
            simp only [Act.put, List.setIfInBounds_toArray, List.set_cons_zero, List.set_cons_succ]
            refine wpAnyH_done (by kernel_rfl) ?_ _
            clear d1 hHeld
            have hr := hr.keep KR
            go_wp2
            go_roundw
            case rel => exact ⟨m + 1, by omega, by omega, by go_num, by rw [HE1.out]; exact hr, hK.trans KR⟩
            case measure => simp [intOf]; omega
          cases hi1 : wholeD ((dss.getD ci []).getD di zD)
          rotate_left
          · have HE1 := HM (by rw [HQ.out, hw, hi1]; simp)
            rw [hw] at KW
            rw [hi1] at KI
            clear HQ KK2
            clear HH HM HP d2
            go_wp2
            go_quiet ((go_at_call 117; exact Calls.quiet_of_same (l1Has_any _ _ _ (by omega) (by omega))))
            go_wp2
            have KR : Keep wr ((wr.drewN nq).drew) := ((Keep.refl wr).grown (grown_draw wr nq none) (by simp)).drew
            have z1 : b < ((wr.drewN nq).drew).heap.size := hbw
            refine wp_region_held_drew (S := (fun w' => w'.cell? ⟨b, off + k * 6, none⟩ = some (.int .i64 ci) ∧ w'.cell? ⟨b, off + k * 6 + 1, none⟩ = some (.int .i64 di) ∧ w'.cell? ⟨b, off + k * 6 + 2, none⟩ = some (.bool false) ∧ w'.cell? ⟨b, off + k * 6 + 3, none⟩ = some (.int .i64 x3) ∧ w'.cell? ⟨b, off + k * 6 + 4, none⟩ = some (.int .i64 x4) ∧ w'.cell? ⟨b, off + k * 6 + 5, none⟩ = some (.int .i64 x5) ∧ w'.cell? ⟨b, off + m * 6, none⟩ = some (.int .i64 ci) ∧ w'.cell? ⟨b, off + m * 6 + 1, none⟩ = some (.int .i64 dk) ∧ w'.cell? ⟨b, off + m * 6 + 2, none⟩ = some (.bool true) ∧ w'.cell? ⟨b, off + m * 6 + 3, none⟩ = some (.int .i64 y3) ∧ w'.cell? ⟨b, off + m * 6 + 4, none⟩ = some (.int .i64 y4) ∧ w'.cell? ⟨b, off + m * 6 + 5, none⟩ = some (.int .i64 y5))) (by kernel_rfl) ?_ (fun hHeld => ?_)
            · go_keep
            refine takeH 0 59 (v := ?_) rfl rfl (by kernel_rfl) (by kernel_rfl) (by kernel_rfl) (fun _ _ _ h => h) (by rfl) ?_ (by assumption) ?_
            rotate_left
            · intro wx hSw
              try dsimp only at hSw
              go_simp
              with_reducible rfl
            simp only [Act.put, List.setIfInBounds_toArray, List.set_cons_zero, List.set_cons_succ]
            refine takeH 1 60 (v := ?_) rfl rfl (by kernel_rfl) (by kernel_rfl) (by kernel_rfl) (fun _ _ _ h => h) (by rfl) ?_ (by assumption) ?_
            rotate_left
            · intro wx hSw
              try dsimp only at hSw
              go_simp
              with_reducible rfl
            simp only [Act.put, List.setIfInBounds_toArray, List.set_cons_zero, List.set_cons_succ]
            refine takeH 2 61 (v := ?_) rfl rfl (by kernel_rfl) (by kernel_rfl) (by kernel_rfl) (fun _ _ _ h => h) (by rfl) ?_ (by assumption) ?_
            rotate_left
            · intro wx hSw
              try dsimp only at hSw
              go_simp
              with_reducible rfl
            simp only [Act.put, List.setIfInBounds_toArray, List.set_cons_zero, List.set_cons_succ]
            refine takeH 3 62 (v := ?_) rfl rfl (by kernel_rfl) (by kernel_rfl) (by kernel_rfl) (fun _ _ _ h => h) (by rfl) ?_ (by assumption) ?_
            rotate_left
            · intro wx hSw
              try dsimp only at hSw
              go_simp
              with_reducible rfl
            simp only [Act.put, List.setIfInBounds_toArray, List.set_cons_zero, List.set_cons_succ]
            refine takeH 4 63 (v := ?_) rfl rfl (by kernel_rfl) (by kernel_rfl) (by kernel_rfl) (fun _ _ _ h => h) (by rfl) ?_ (by assumption) ?_
            rotate_left
            · intro wx hSw
              try dsimp only at hSw
              go_simp
              with_reducible rfl
            simp only [Act.put, List.setIfInBounds_toArray, List.set_cons_zero, List.set_cons_succ]
            refine takeH 5 64 (v := ?_) rfl rfl (by kernel_rfl) (by kernel_rfl) (by kernel_rfl) (fun _ _ _ h => h) (by rfl) ?_ (by assumption) ?_
            rotate_left
            · intro wx hSw
              try dsimp only at hSw
              go_simp
              with_reducible rfl
            simp only [Act.put, List.setIfInBounds_toArray, List.set_cons_zero, List.set_cons_succ]
            refine takeH 6 65 (v := ?_) rfl rfl (by kernel_rfl) (by kernel_rfl) (by kernel_rfl) (fun _ _ _ h => h) (by rfl) ?_ (by assumption) ?_
            rotate_left
            · intro wx hSw
              try dsimp only at hSw
              go_simp
              with_reducible rfl
            simp only [Act.put, List.setIfInBounds_toArray, List.set_cons_zero, List.set_cons_succ]
            refine takeH 7 66 (v := ?_) rfl rfl (by kernel_rfl) (by kernel_rfl) (by kernel_rfl) (fun _ _ _ h => h) (by rfl) ?_ (by assumption) ?_
            rotate_left
            · intro wx hSw
              try dsimp only at hSw
              go_simp
              with_reducible rfl
            simp only [Act.put, List.setIfInBounds_toArray, List.set_cons_zero, List.set_cons_succ]
            refine takeH 8 67 (v := ?_) rfl rfl (by kernel_rfl) (by kernel_rfl) (by kernel_rfl) (fun _ _ _ h => h) (by rfl) ?_ (by assumption) ?_
            rotate_left
            · intro wx hSw
              try dsimp only at hSw
              go_simp
              with_reducible rfl
            simp only [Act.put, List.setIfInBounds_toArray, List.set_cons_zero, List.set_cons_succ]
            refine wpAnyH_ready (rs := [9]) (by kernel_rfl) (by simp) ?_
            refine AllReadyH.cons rfl (fun K hK => ?_) AllReadyH.nil
            go_simp
            refine (KW _ KR).mono ?_
            rintro e wz1 ⟨rfl, kk⟩
            have z0 := z1
            have KR := KR.trans kk
            have z1 := Nat.lt_of_lt_of_le z1 kk.size
            go_wp2_with fail
            refine hK.out _ _ ?_ (fun hHeld => ?_)
            · exact ⟨(kk.cell z0).trans hHeld.1, (kk.cell z0).trans hHeld.2.1, (kk.cell z0).trans hHeld.2.2.1, (kk.cell z0).trans hHeld.2.2.2.1, (kk.cell z0).trans hHeld.2.2.2.2.1, (kk.cell z0).trans hHeld.2.2.2.2.2.1, (kk.cell z0).trans hHeld.2.2.2.2.2.2.1, (kk.cell z0).trans hHeld.2.2.2.2.2.2.2.1, (kk.cell z0).trans hHeld.2.2.2.2.2.2.2.2.1, (kk.cell z0).trans hHeld.2.2.2.2.2.2.2.2.2.1, (kk.cell z0).trans hHeld.2.2.2.2.2.2.2.2.2.2.1, (kk.cell z0).trans hHeld.2.2.2.2.2.2.2.2.2.2.2⟩
            clear hK K
            refine takeH 10 69 (v := ?_) rfl rfl (by kernel_rfl) (by kernel_rfl) (by kernel_rfl) (fun _ _ _ h => h) (by rfl) ?_ (by assumption) ?_
            rotate_left
            · intro wx hSw
              try dsimp only at hSw
              go_simp
              with_reducible rfl
            simp only [Act.put, List.setIfInBounds_toArray, List.set_cons_zero, List.set_cons_succ]
            refine takeH 11 70 (v := ?_) rfl rfl (by kernel_rfl) (by kernel_rfl) (by kernel_rfl) (fun _ _ _ h => h) (by rfl) ?_ (by assumption) ?_
            rotate_left
            · intro wx hSw
              try dsimp only at hSw
              go_simp
              with_reducible rfl
            simp only [Act.put, List.setIfInBounds_toArray, List.set_cons_zero, List.set_cons_succ]
            refine takeH 12 71 (v := ?_) rfl rfl (by kernel_rfl) (by kernel_rfl) (by kernel_rfl) (fun _ _ _ h => h) (by rfl) ?_ (by assumption) ?_
            rotate_left
            · intro wx hSw
              try dsimp only at hSw
              go_simp
              with_reducible rfl
            simp only [Act.put, List.setIfInBounds_toArray, List.set_cons_zero, List.set_cons_succ]
            refine takeH 13 72 (v := ?_) rfl rfl (by kernel_rfl) (by kernel_rfl) (by kernel_rfl) (fun _ _ _ h => h) (by rfl) ?_ (by assumption) ?_
            rotate_left
            · intro wx hSw
              try dsimp only at hSw
              go_simp
              with_reducible rfl
            simp only [Act.put, List.setIfInBounds_toArray, List.set_cons_zero, List.set_cons_succ]
            refine takeH 14 73 (v := ?_) rfl rfl (by kernel_rfl) (by kernel_rfl) (by kernel_rfl) (fun _ _ _ h => h) (by rfl) ?_ (by assumption) ?_
            rotate_left
            · intro wx hSw
              try dsimp only at hSw
              go_simp
              with_reducible rfl
            simp only [Act.put, List.setIfInBounds_toArray, List.set_cons_zero, List.set_cons_succ]
            refine takeH 15 74 (v := ?_) rfl rfl (by kernel_rfl) (by kernel_rfl) (by kernel_rfl) (fun _ _ _ h => h) (by rfl) ?_ (by assumption) ?_
            rotate_left
            · intro wx hSw
              try dsimp only at hSw
              go_simp
              with_reducible rfl
            simp only [Act.put, List.setIfInBounds_toArray, List.set_cons_zero, List.set_cons_succ]
            refine takeH 16 75 (v := ?_) rfl rfl (by kernel_rfl) (by kernel_rfl) (by kernel_rfl) (fun _ _ _ h => h) (by rfl) ?_ (by assumption) ?_
            rotate_left
            · intro wx hSw
              try dsimp only at hSw
              go_simp
              with_reducible rfl
            simp only [Act.put, List.setIfInBounds_toArray, List.set_cons_zero, List.set_cons_succ]
            refine wpAnyH_ready (rs := [17]) (by kernel_rfl) (by simp) ?_
            refine AllReadyH.cons rfl (fun K hK => ?_) AllReadyH.nil
            go_simp
            refine (KI _ KR).mono ?_
            rintro e wz2 ⟨rfl, kk⟩
            have z0 := z1
            have KR := KR.trans kk
            have z1 := Nat.lt_of_lt_of_le z1 kk.size
            go_wp2_with fail
            refine hK.out _ _ ?_ (fun hHeld => ?_)
            · exact ⟨(kk.cell z0).trans hHeld.1, (kk.cell z0).trans hHeld.2.1, (kk.cell z0).trans hHeld.2.2.1, (kk.cell z0).trans hHeld.2.2.2.1, (kk.cell z0).trans hHeld.2.2.2.2.1, (kk.cell z0).trans hHeld.2.2.2.2.2.1, (kk.cell z0).trans hHeld.2.2.2.2.2.2.1, (kk.cell z0).trans hHeld.2.2.2.2.2.2.2.1, (kk.cell z0).trans hHeld.2.2.2.2.2.2.2.2.1, (kk.cell z0).trans hHeld.2.2.2.2.2.2.2.2.2.1, (kk.cell z0).trans hHeld.2.2.2.2.2.2.2.2.2.2.1, (kk.cell z0).trans hHeld.2.2.2.2.2.2.2.2.2.2.2⟩
            clear hK K
            refine takeH 18 77 (v := ?_) rfl rfl (by kernel_rfl) (by kernel_rfl) (by kernel_rfl) (fun _ _ _ h => h) (by rfl) ?_ (by assumption) ?_
            rotate_left
            · intro wx hSw
              try dsimp only at hSw
              go_simp
              with_reducible rfl
            simp only [Act.put, List.setIfInBounds_toArray, List.set_cons_zero, List.set_cons_succ]
            refine takeH 19 78 (v := ?_) rfl rfl (by kernel_rfl) (by kernel_rfl) (by kernel_rfl) (fun _ _ _ h => h) (by rfl) ?_ (by assumption) ?_
            rotate_left
            · intro wx hSw
              try dsimp only at hSw
              go_simp
              with_reducible rfl
            simp only [Act.put, List.setIfInBounds_toArray, List.set_cons_zero, List.set_cons_succ]
            refine takeH 20 79 (v := ?_) rfl rfl (by kernel_rfl) (by kernel_rfl) (by kernel_rfl) (fun _ _ _ h => h) (by rfl) ?_ (by assumption) ?_
            rotate_left
            · intro wx hSw
              try dsimp only at hSw
              go_simp
              with_reducible rfl
            simp only [Act.put, List.setIfInBounds_toArray, List.set_cons_zero, List.set_cons_succ]
            refine skipH 21 80 rfl rfl (by kernel_rfl) (by kernel_rfl) (by kernel_rfl) (fun _ _ _ h => h) (by rfl) (by assumption) ?_
            simp only [Act.put, List.setIfInBounds_toArray, List.set_cons_zero, List.set_cons_succ]
            refine skipH 22 81 rfl rfl (by kernel_rfl) (by kernel_rfl) (by kernel_rfl) (fun _ _ _ h => h) (by rfl) (by assumption) ?_
            simp only [Act.put, List.setIfInBounds_toArray, List.set_cons_zero, List.set_cons_succ]
            refine skipH 23 82 rfl rfl (by kernel_rfl) (by kernel_rfl) (by kernel_rfl) (fun _ _ _ h => h) (by rfl) (by assumption) ?_
            simp only [Act.put, List.setIfInBounds_toArray, List.set_cons_zero, List.set_cons_succ]
            refine skipH 24 83 rfl rfl (by kernel_rfl) (by kernel_rfl) (by kernel_rfl) (fun _ _ _ h => h) (by rfl) (by assumption) ?_
            simp only [Act.put, List.setIfInBounds_toArray, List.set_cons_zero, List.set_cons_succ]
            refine skipH 25 84 rfl rfl (by kernel_rfl) (by kernel_rfl) (by kernel_rfl) (fun _ _ _ h => h) (by rfl) (by assumption) ?_
            simp only [Act.put, List.setIfInBounds_toArray, List.set_cons_zero, List.set_cons_succ]
            refine skipH 26 85 rfl rfl (by kernel_rfl) (by kernel_rfl) (by kernel_rfl) (fun _ _ _ h => h) (by rfl) (by assumption) ?_
            simp only [Act.put, List.setIfInBounds_toArray, List.set_cons_zero, List.set_cons_succ]
            refine skipH 27 86 rfl rfl (by kernel_rfl) (by kernel_rfl) (by kernel_rfl) (fun _ _ _ h => h) (by rfl) (by assumption) ?_
            simp only [Act.put, List.setIfInBounds_toArray, List.set_cons_zero, List.set_cons_succ]
            refine takeH 28 87 (v := ?_) rfl rfl (by kernel_rfl) (by kernel_rfl) (by kernel_rfl) (fun _ _ _ h => h) (by rfl) ?_ (by assumption) ?_
            rotate_left
            · intro wx hSw
              try dsimp only at hSw
              go_simp
              with_reducible rfl
            simp only [Act.put, List.setIfInBounds_toArray, List.set_cons_zero, List.set_cons_succ]
            refine wpAnyH_done (by kernel_rfl) ?_ _
            clear d1 hHeld
            have hr := hr.keep KR
            go_wp2
            go_roundw
            case rel => exact ⟨m + 1, by omega, by omega, by go_num, by rw [HE1.out]; exact hr, hK.trans KR⟩
            case measure => simp [intOf]; omega
          cases hk1 : wholeD ((dss.getD ci []).getD dk zD)
          rotate_left
          · have HE1 := HM (by rw [HQ.out, hw, hi1, hk1]; simp)
            rw [hw] at KW
            rw [hi1] at KI
            rw [hk1] at KK2
            clear HQ
            clear HH HM HP d2
            go_wp2
            go_quiet ((go_at_call 117; exact Calls.quiet_of_same (l1Has_any _ _ _ (by omega) (by omega))))
            go_wp2
            have KR : Keep wr ((wr.drewN nq).drew) := ((Keep.refl wr).grown (grown_draw wr nq none) (by simp)).drew
            have z1 : b < ((wr.drewN nq).drew).heap.size := hbw
            refine wp_region_held_drew (S := (fun w' => w'.cell? ⟨b, off + k * 6, none⟩ = some (.int .i64 ci) ∧ w'.cell? ⟨b, off + k * 6 + 1, none⟩ = some (.int .i64 di) ∧ w'.cell? ⟨b, off + k * 6 + 2, none⟩ = some (.bool false) ∧ w'.cell? ⟨b, off + k * 6 + 3, none⟩ = some (.int .i64 x3) ∧ w'.cell? ⟨b, off + k * 6 + 4, none⟩ = some (.int .i64 x4) ∧ w'.cell? ⟨b, off + k * 6 + 5, none⟩ = some (.int .i64 x5) ∧ w'.cell? ⟨b, off + m * 6, none⟩ = some (.int .i64 ci) ∧ w'.cell? ⟨b, off + m * 6 + 1, none⟩ = some (.int .i64 dk) ∧ w'.cell? ⟨b, off + m * 6 + 2, none⟩ = some (.bool true) ∧ w'.cell? ⟨b, off + m * 6 + 3, none⟩ = some (.int .i64 y3) ∧ w'.cell? ⟨b, off + m * 6 + 4, none⟩ = some (.int .i64 y4) ∧ w'.cell? ⟨b, off + m * 6 + 5, none⟩ = some (.int .i64 y5))) (by kernel_rfl) ?_ (fun hHeld => ?_)
            · go_keep
            refine takeH 0 59 (v := ?_) rfl rfl (by kernel_rfl) (by kernel_rfl) (by kernel_rfl) (fun _ _ _ h => h) (by rfl) ?_ (by assumption) ?_
            rotate_left
            · intro wx hSw
              try dsimp only at hSw
              go_simp
              with_reducible rfl
            simp only [Act.put, List.setIfInBounds_toArray, List.set_cons_zero, List.set_cons_succ]
            refine takeH 1 60 (v := ?_) rfl rfl (by kernel_rfl) (by kernel_rfl) (by kernel_rfl) (fun _ _ _ h => h) (by rfl) ?_ (by assumption) ?_
            rotate_left
            · intro wx hSw
              try dsimp only at hSw
              go_simp
              with_reducible rfl
            simp only [Act.put, List.setIfInBounds_toArray, List.set_cons_zero, List.set_cons_succ]
            refine takeH 2 61 (v := ?_) rfl rfl (by kernel_rfl) (by kernel_rfl) (by kernel_rfl) (fun _ _ _ h => h) (by rfl) ?_ (by assumption) ?_
            rotate_left
            · intro wx hSw
              try dsimp only at hSw
              go_simp
              with_reducible rfl
            simp only [Act.put, List.setIfInBounds_toArray, List.set_cons_zero, List.set_cons_succ]
            refine takeH 3 62 (v := ?_) rfl rfl (by kernel_rfl) (by kernel_rfl) (by kernel_rfl) (fun _ _ _ h => h) (by rfl) ?_ (by assumption) ?_
            rotate_left
            · intro wx hSw
              try dsimp only at hSw
              go_simp
              with_reducible rfl
            simp only [Act.put, List.setIfInBounds_toArray, List.set_cons_zero, List.set_cons_succ]
            refine takeH 4 63 (v := ?_) rfl rfl (by kernel_rfl) (by kernel_rfl) (by kernel_rfl) (fun _ _ _ h => h) (by rfl) ?_ (by assumption) ?_
            rotate_left
            · intro wx hSw
              try dsimp only at hSw
              go_simp
              with_reducible rfl
            simp only [Act.put, List.setIfInBounds_toArray, List.set_cons_zero, List.set_cons_succ]
            refine takeH 5 64 (v := ?_) rfl rfl (by kernel_rfl) (by kernel_rfl) (by kernel_rfl) (fun _ _ _ h => h) (by rfl) ?_ (by assumption) ?_
            rotate_left
            · intro wx hSw
              try dsimp only at hSw
              go_simp
              with_reducible rfl
            simp only [Act.put, List.setIfInBounds_toArray, List.set_cons_zero, List.set_cons_succ]
            refine takeH 6 65 (v := ?_) rfl rfl (by kernel_rfl) (by kernel_rfl) (by kernel_rfl) (fun _ _ _ h => h) (by rfl) ?_ (by assumption) ?_
            rotate_left
            · intro wx hSw
              try dsimp only at hSw
              go_simp
              with_reducible rfl
            simp only [Act.put, List.setIfInBounds_toArray, List.set_cons_zero, List.set_cons_succ]
            refine takeH 7 66 (v := ?_) rfl rfl (by kernel_rfl) (by kernel_rfl) (by kernel_rfl) (fun _ _ _ h => h) (by rfl) ?_ (by assumption) ?_
            rotate_left
            · intro wx hSw
              try dsimp only at hSw
              go_simp
              with_reducible rfl
            simp only [Act.put, List.setIfInBounds_toArray, List.set_cons_zero, List.set_cons_succ]
            refine takeH 8 67 (v := ?_) rfl rfl (by kernel_rfl) (by kernel_rfl) (by kernel_rfl) (fun _ _ _ h => h) (by rfl) ?_ (by assumption) ?_
            rotate_left
            · intro wx hSw
              try dsimp only at hSw
              go_simp
              with_reducible rfl
            simp only [Act.put, List.setIfInBounds_toArray, List.set_cons_zero, List.set_cons_succ]
            refine wpAnyH_ready (rs := [9]) (by kernel_rfl) (by simp) ?_
            refine AllReadyH.cons rfl (fun K hK => ?_) AllReadyH.nil
            go_simp
            refine (KW _ KR).mono ?_
            rintro e wz1 ⟨rfl, kk⟩
            have z0 := z1
            have KR := KR.trans kk
            have z1 := Nat.lt_of_lt_of_le z1 kk.size
            go_wp2_with fail
            refine hK.out _ _ ?_ (fun hHeld => ?_)
            · exact ⟨(kk.cell z0).trans hHeld.1, (kk.cell z0).trans hHeld.2.1, (kk.cell z0).trans hHeld.2.2.1, (kk.cell z0).trans hHeld.2.2.2.1, (kk.cell z0).trans hHeld.2.2.2.2.1, (kk.cell z0).trans hHeld.2.2.2.2.2.1, (kk.cell z0).trans hHeld.2.2.2.2.2.2.1, (kk.cell z0).trans hHeld.2.2.2.2.2.2.2.1, (kk.cell z0).trans hHeld.2.2.2.2.2.2.2.2.1, (kk.cell z0).trans hHeld.2.2.2.2.2.2.2.2.2.1, (kk.cell z0).trans hHeld.2.2.2.2.2.2.2.2.2.2.1, (kk.cell z0).trans hHeld.2.2.2.2.2.2.2.2.2.2.2⟩
            clear hK K
            refine takeH 10 69 (v := ?_) rfl rfl (by kernel_rfl) (by kernel_rfl) (by kernel_rfl) (fun _ _ _ h => h) (by rfl) ?_ (by assumption) ?_
            rotate_left
            · intro wx hSw
              try dsimp only at hSw
              go_simp
              with_reducible rfl
            simp only [Act.put, List.setIfInBounds_toArray, List.set_cons_zero, List.set_cons_succ]
            refine takeH 11 70 (v := ?_) rfl rfl (by kernel_rfl) (by kernel_rfl) (by kernel_rfl) (fun _ _ _ h => h) (by rfl) ?_ (by assumption) ?_
            rotate_left
            · intro wx hSw
              try dsimp only at hSw
              go_simp
              with_reducible rfl
            simp only [Act.put, List.setIfInBounds_toArray, List.set_cons_zero, List.set_cons_succ]
            refine takeH 12 71 (v := ?_) rfl rfl (by kernel_rfl) (by kernel_rfl) (by kernel_rfl) (fun _ _ _ h => h) (by rfl) ?_ (by assumption) ?_
            rotate_left
            · intro wx hSw
              try dsimp only at hSw
              go_simp
              with_reducible rfl
            simp only [Act.put, List.setIfInBounds_toArray, List.set_cons_zero, List.set_cons_succ]
            refine takeH 13 72 (v := ?_) rfl rfl (by kernel_rfl) (by kernel_rfl) (by kernel_rfl) (fun _ _ _ h => h) (by rfl) ?_ (by assumption) ?_
            rotate_left
            · intro wx hSw
              try dsimp only at hSw
              go_simp
              with_reducible rfl
            simp only [Act.put, List.setIfInBounds_toArray, List.set_cons_zero, List.set_cons_succ]
            refine takeH 14 73 (v := ?_) rfl rfl (by kernel_rfl) (by kernel_rfl) (by kernel_rfl) (fun _ _ _ h => h) (by rfl) ?_ (by assumption) ?_
            rotate_left
            · intro wx hSw
              try dsimp only at hSw
              go_simp
              with_reducible rfl
            simp only [Act.put, List.setIfInBounds_toArray, List.set_cons_zero, List.set_cons_succ]
            refine takeH 15 74 (v := ?_) rfl rfl (by kernel_rfl) (by kernel_rfl) (by kernel_rfl) (fun _ _ _ h => h) (by rfl) ?_ (by assumption) ?_
            rotate_left
            · intro wx hSw
              try dsimp only at hSw
              go_simp
              with_reducible rfl
            simp only [Act.put, List.setIfInBounds_toArray, List.set_cons_zero, List.set_cons_succ]
            refine takeH 16 75 (v := ?_) rfl rfl (by kernel_rfl) (by kernel_rfl) (by kernel_rfl) (fun _ _ _ h => h) (by rfl) ?_ (by assumption) ?_
            rotate_left
            · intro wx hSw
              try dsimp only at hSw
              go_simp
              with_reducible rfl
            simp only [Act.put, List.setIfInBounds_toArray, List.set_cons_zero, List.set_cons_succ]
            refine wpAnyH_ready (rs := [17]) (by kernel_rfl) (by simp) ?_
            refine AllReadyH.cons rfl (fun K hK => ?_) AllReadyH.nil
            go_simp
            refine (KI _ KR).mono ?_
            rintro e wz2 ⟨rfl, kk⟩
            have z0 := z1
            have KR := KR.trans kk
            have z1 := Nat.lt_of_lt_of_le z1 kk.size
            go_wp2_with fail
            refine hK.out _ _ ?_ (fun hHeld => ?_)
            · exact ⟨(kk.cell z0).trans hHeld.1, (kk.cell z0).trans hHeld.2.1, (kk.cell z0).trans hHeld.2.2.1, (kk.cell z0).trans hHeld.2.2.2.1, (kk.cell z0).trans hHeld.2.2.2.2.1, (kk.cell z0).trans hHeld.2.2.2.2.2.1, (kk.cell z0).trans hHeld.2.2.2.2.2.2.1, (kk.cell z0).trans hHeld.2.2.2.2.2.2.2.1, (kk.cell z0).trans hHeld.2.2.2.2.2.2.2.2.1, (kk.cell z0).trans hHeld.2.2.2.2.2.2.2.2.2.1, (kk.cell z0).trans hHeld.2.2.2.2.2.2.2.2.2.2.1, (kk.cell z0).trans hHeld.2.2.2.2.2.2.2.2.2.2.2⟩
            clear hK K
            refine takeH 18 77 (v := ?_) rfl rfl (by kernel_rfl) (by kernel_rfl) (by kernel_rfl) (fun _ _ _ h => h) (by rfl) ?_ (by assumption) ?_
            rotate_left
            · intro wx hSw
              try dsimp only at hSw
              go_simp
              with_reducible rfl
            simp only [Act.put, List.setIfInBounds_toArray, List.set_cons_zero, List.set_cons_succ]
            refine takeH 19 78 (v := ?_) rfl rfl (by kernel_rfl) (by kernel_rfl) (by kernel_rfl) (fun _ _ _ h => h) (by rfl) ?_ (by assumption) ?_
            rotate_left
            · intro wx hSw
              try dsimp only at hSw
              go_simp
              with_reducible rfl
            simp only [Act.put, List.setIfInBounds_toArray, List.set_cons_zero, List.set_cons_succ]
            refine takeH 20 79 (v := ?_) rfl rfl (by kernel_rfl) (by kernel_rfl) (by kernel_rfl) (fun _ _ _ h => h) (by rfl) ?_ (by assumption) ?_
            rotate_left
            · intro wx hSw
              try dsimp only at hSw
              go_simp
              with_reducible rfl
            simp only [Act.put, List.setIfInBounds_toArray, List.set_cons_zero, List.set_cons_succ]
            refine takeH 21 80 (v := ?_) rfl rfl (by kernel_rfl) (by kernel_rfl) (by kernel_rfl) (fun _ _ _ h => h) (by rfl) ?_ (by assumption) ?_
            rotate_left
            · intro wx hSw
              try dsimp only at hSw
              go_simp
              with_reducible rfl
            simp only [Act.put, List.setIfInBounds_toArray, List.set_cons_zero, List.set_cons_succ]
            refine takeH 22 81 (v := ?_) rfl rfl (by kernel_rfl) (by kernel_rfl) (by kernel_rfl) (fun _ _ _ h => h) (by rfl) ?_ (by assumption) ?_
            rotate_left
            · intro wx hSw
              try dsimp only at hSw
              go_simp
              with_reducible rfl
            simp only [Act.put, List.setIfInBounds_toArray, List.set_cons_zero, List.set_cons_succ]
            refine takeH 23 82 (v := ?_) rfl rfl (by kernel_rfl) (by kernel_rfl) (by kernel_rfl) (fun _ _ _ h => h) (by rfl) ?_ (by assumption) ?_
            rotate_left
            · intro wx hSw
              try dsimp only at hSw
              go_simp
              with_reducible rfl
            simp only [Act.put, List.setIfInBounds_toArray, List.set_cons_zero, List.set_cons_succ]
            refine takeH 24 83 (v := ?_) rfl rfl (by kernel_rfl) (by kernel_rfl) (by kernel_rfl) (fun _ _ _ h => h) (by rfl) ?_ (by assumption) ?_
            rotate_left
            · intro wx hSw
              try dsimp only at hSw
              go_simp
              with_reducible rfl
            simp only [Act.put, List.setIfInBounds_toArray, List.set_cons_zero, List.set_cons_succ]
            refine takeH 25 84 (v := ?_) rfl rfl (by kernel_rfl) (by kernel_rfl) (by kernel_rfl) (fun _ _ _ h => h) (by rfl) ?_ (by assumption) ?_
            rotate_left
            · intro wx hSw
              try dsimp only at hSw
              go_simp
              with_reducible rfl
            simp only [Act.put, List.setIfInBounds_toArray, List.set_cons_zero, List.set_cons_succ]
            refine wpAnyH_ready (rs := [26]) (by kernel_rfl) (by simp) ?_
            refine AllReadyH.cons rfl (fun K hK => ?_) AllReadyH.nil
            go_simp
            refine (KK2 _ KR).mono ?_
            rintro e wz3 ⟨rfl, kk⟩
            have z0 := z1
            have KR := KR.trans kk
            have z1 := Nat.lt_of_lt_of_le z1 kk.size
            go_wp2_with fail
            refine hK.out _ _ ?_ (fun hHeld => ?_)
            · exact ⟨(kk.cell z0).trans hHeld.1, (kk.cell z0).trans hHeld.2.1, (kk.cell z0).trans hHeld.2.2.1, (kk.cell z0).trans hHeld.2.2.2.1, (kk.cell z0).trans hHeld.2.2.2.2.1, (kk.cell z0).trans hHeld.2.2.2.2.2.1, (kk.cell z0).trans hHeld.2.2.2.2.2.2.1, (kk.cell z0).trans hHeld.2.2.2.2.2.2.2.1, (kk.cell z0).trans hHeld.2.2.2.2.2.2.2.2.1, (kk.cell z0).trans hHeld.2.2.2.2.2.2.2.2.2.1, (kk.cell z0).trans hHeld.2.2.2.2.2.2.2.2.2.2.1, (kk.cell z0).trans hHeld.2.2.2.2.2.2.2.2.2.2.2⟩
            clear hK K
            refine takeH 27 86 (v := ?_) rfl rfl (by kernel_rfl) (by kernel_rfl) (by kernel_rfl) (fun _ _ _ h => h) (by rfl) ?_ (by assumption) ?_
            rotate_left
            · intro wx hSw
              try dsimp only at hSw
              go_simp
              with_reducible rfl
            simp only [Act.put, List.setIfInBounds_toArray, List.set_cons_zero, List.set_cons_succ]
            refine takeH 28 87 (v := ?_) rfl rfl (by kernel_rfl) (by kernel_rfl) (by kernel_rfl) (fun _ _ _ h => h) (by rfl) ?_ (by assumption) ?_
            rotate_left
            · intro wx hSw
              try dsimp only at hSw
              go_simp
              with_reducible rfl
            simp only [Act.put, List.setIfInBounds_toArray, List.set_cons_zero, List.set_cons_succ]
            refine wpAnyH_done (by kernel_rfl) ?_ _
            clear d1 hHeld
            have hr := hr.keep KR
            go_wp2
            go_roundw
            case rel => exact ⟨m + 1, by omega, by omega, by go_num, by rw [HE1.out]; exact hr, hK.trans KR⟩
            case measure => simp [intOf]; omega
          · have HE1 := HH (by rw [HQ.out, hw, hi1, hk1]; rfl)
            rw [hw] at KW
            rw [hi1] at KI
            rw [hk1] at KK2
            clear HQ
            clear HH HM HP d2
            go_wp2
            go_quiet ((go_at_call 117; exact Calls.quiet_of_same (l1Has_any _ _ _ (by omega) (by omega))))
            go_wp2
            have KR : Keep wr ((wr.drewN nq).drew) := ((Keep.refl wr).grown (grown_draw wr nq none) (by simp)).drew
            have z1 : b < ((wr.drewN nq).drew).heap.size := hbw
            refine wp_region_held_drew (S := (fun w' => w'.cell? ⟨b, off + k * 6, none⟩ = some (.int .i64 ci) ∧ w'.cell? ⟨b, off + k * 6 + 1, none⟩ = some (.int .i64 di) ∧ w'.cell? ⟨b, off + k * 6 + 2, none⟩ = some (.bool false) ∧ w'.cell? ⟨b, off + k * 6 + 3, none⟩ = some (.int .i64 x3) ∧ w'.cell? ⟨b, off + k * 6 + 4, none⟩ = some (.int .i64 x4) ∧ w'.cell? ⟨b, off + k * 6 + 5, none⟩ = some (.int .i64 x5) ∧ w'.cell? ⟨b, off + m * 6, none⟩ = some (.int .i64 ci) ∧ w'.cell? ⟨b, off + m * 6 + 1, none⟩ = some (.int .i64 dk) ∧ w'.cell? ⟨b, off + m * 6 + 2, none⟩ = some (.bool true) ∧ w'.cell? ⟨b, off + m * 6 + 3, none⟩ = some (.int .i64 y3) ∧ w'.cell? ⟨b, off + m * 6 + 4, none⟩ = some (.int .i64 y4) ∧ w'.cell? ⟨b, off + m * 6 + 5, none⟩ = some (.int .i64 y5))) (by kernel_rfl) ?_ (fun hHeld => ?_)
            · go_keep
            refine takeH 0 59 (v := ?_) rfl rfl (by kernel_rfl) (by kernel_rfl) (by kernel_rfl) (fun _ _ _ h => h) (by rfl) ?_ (by assumption) ?_
            rotate_left
            · intro wx hSw
              try dsimp only at hSw
              go_simp
              with_reducible rfl
            simp only [Act.put, List.setIfInBounds_toArray, List.set_cons_zero, List.set_cons_succ]
            refine takeH 1 60 (v := ?_) rfl rfl (by kernel_rfl) (by kernel_rfl) (by kernel_rfl) (fun _ _ _ h => h) (by rfl) ?_ (by assumption) ?_
            rotate_left
            · intro wx hSw
              try dsimp only at hSw
              go_simp
              with_reducible rfl
            simp only [Act.put, List.setIfInBounds_toArray, List.set_cons_zero, List.set_cons_succ]
            refine takeH 2 61 (v := ?_) rfl rfl (by kernel_rfl) (by kernel_rfl) (by kernel_rfl) (fun _ _ _ h => h) (by rfl) ?_ (by assumption) ?_
            rotate_left
            · intro wx hSw
              try dsimp only at hSw
              go_simp
              with_reducible rfl
            simp only [Act.put, List.setIfInBounds_toArray, List.set_cons_zero, List.set_cons_succ]
            refine takeH 3 62 (v := ?_) rfl rfl (by kernel_rfl) (by kernel_rfl) (by kernel_rfl) (fun _ _ _ h => h) (by rfl) ?_ (by assumption) ?_
            rotate_left
            · intro wx hSw
              try dsimp only at hSw
              go_simp
              with_reducible rfl
            simp only [Act.put, List.setIfInBounds_toArray, List.set_cons_zero, List.set_cons_succ]
            refine takeH 4 63 (v := ?_) rfl rfl (by kernel_rfl) (by kernel_rfl) (by kernel_rfl) (fun _ _ _ h => h) (by rfl) ?_ (by assumption) ?_
            rotate_left
            · intro wx hSw
              try dsimp only at hSw
              go_simp
              with_reducible rfl
            simp only [Act.put, List.setIfInBounds_toArray, List.set_cons_zero, List.set_cons_succ]
            refine takeH 5 64 (v := ?_) rfl rfl (by kernel_rfl) (by kernel_rfl) (by kernel_rfl) (fun _ _ _ h => h) (by rfl) ?_ (by assumption) ?_
            rotate_left
            · intro wx hSw
              try dsimp only at hSw
              go_simp
              with_reducible rfl
            simp only [Act.put, List.setIfInBounds_toArray, List.set_cons_zero, List.set_cons_succ]
            refine takeH 6 65 (v := ?_) rfl rfl (by kernel_rfl) (by kernel_rfl) (by kernel_rfl) (fun _ _ _ h => h) (by rfl) ?_ (by assumption) ?_
            rotate_left
            · intro wx hSw
              try dsimp only at hSw
              go_simp
              with_reducible rfl
            simp only [Act.put, List.setIfInBounds_toArray, List.set_cons_zero, List.set_cons_succ]
            refine takeH 7 66 (v := ?_) rfl rfl (by kernel_rfl) (by kernel_rfl) (by kernel_rfl) (fun _ _ _ h => h) (by rfl) ?_ (by assumption) ?_
            rotate_left
            · intro wx hSw
              try dsimp only at hSw
              go_simp
              with_reducible rfl
            simp only [Act.put, List.setIfInBounds_toArray, List.set_cons_zero, List.set_cons_succ]
            refine takeH 8 67 (v := ?_) rfl rfl (by kernel_rfl) (by kernel_rfl) (by kernel_rfl) (fun _ _ _ h => h) (by rfl) ?_ (by assumption) ?_
            rotate_left
            · intro wx hSw
              try dsimp only at hSw
              go_simp
              with_reducible rfl
            simp only [Act.put, List.setIfInBounds_toArray, List.set_cons_zero, List.set_cons_succ]
            refine wpAnyH_ready (rs := [9]) (by kernel_rfl) (by simp) ?_
            refine AllReadyH.cons rfl (fun K hK => ?_) AllReadyH.nil
            go_simp
            refine (KW _ KR).mono ?_
            rintro e wz1 ⟨rfl, kk⟩
            have z0 := z1
            have KR := KR.trans kk
            have z1 := Nat.lt_of_lt_of_le z1 kk.size
            go_wp2_with fail
            refine hK.out _ _ ?_ (fun hHeld => ?_)
            · exact ⟨(kk.cell z0).trans hHeld.1, (kk.cell z0).trans hHeld.2.1, (kk.cell z0).trans hHeld.2.2.1, (kk.cell z0).trans hHeld.2.2.2.1, (kk.cell z0).trans hHeld.2.2.2.2.1, (kk.cell z0).trans hHeld.2.2.2.2.2.1, (kk.cell z0).trans hHeld.2.2.2.2.2.2.1, (kk.cell z0).trans hHeld.2.2.2.2.2.2.2.1, (kk.cell z0).trans hHeld.2.2.2.2.2.2.2.2.1, (kk.cell z0).trans hHeld.2.2.2.2.2.2.2.2.2.1, (kk.cell z0).trans hHeld.2.2.2.2.2.2.2.2.2.2.1, (kk.cell z0).trans hHeld.2.2.2.2.2.2.2.2.2.2.2⟩
            clear hK K
            refine takeH 10 69 (v := ?_) rfl rfl (by kernel_rfl) (by kernel_rfl) (by kernel_rfl) (fun _ _ _ h => h) (by rfl) ?_ (by assumption) ?_
            rotate_left
            · intro wx hSw
              try dsimp only at hSw
              go_simp
              with_reducible rfl
            simp only [Act.put, List.setIfInBounds_toArray, List.set_cons_zero, List.set_cons_succ]
            refine takeH 11 70 (v := ?_) rfl rfl (by kernel_rfl) (by kernel_rfl) (by kernel_rfl) (fun _ _ _ h => h) (by rfl) ?_ (by assumption) ?_
            rotate_left
            · intro wx hSw
              try dsimp only at hSw
              go_simp
              with_reducible rfl
            simp only [Act.put, List.setIfInBounds_toArray, List.set_cons_zero, List.set_cons_succ]
            refine takeH 12 71 (v := ?_) rfl rfl (by kernel_rfl) (by kernel_rfl) (by kernel_rfl) (fun _ _ _ h => h) (by rfl) ?_ (by assumption) ?_
            rotate_left
            · intro wx hSw
              try dsimp only at hSw
              go_simp
              with_reducible rfl
            simp only [Act.put, List.setIfInBounds_toArray, List.set_cons_zero, List.set_cons_succ]
            refine takeH 13 72 (v := ?_) rfl rfl (by kernel_rfl) (by kernel_rfl) (by kernel_rfl) (fun _ _ _ h => h) (by rfl) ?_ (by assumption) ?_
            rotate_left
            · intro wx hSw
              try dsimp only at hSw
              go_simp
              with_reducible rfl
            simp only [Act.put, List.setIfInBounds_toArray, List.set_cons_zero, List.set_cons_succ]
            refine takeH 14 73 (v := ?_) rfl rfl (by kernel_rfl) (by kernel_rfl) (by kernel_rfl) (fun _ _ _ h => h) (by rfl) ?_ (by assumption) ?_
            rotate_left
            · intro wx hSw
              try dsimp only at hSw
              go_simp
              with_reducible rfl
            simp only [Act.put, List.setIfInBounds_toArray, List.set_cons_zero, List.set_cons_succ]
            refine takeH 15 74 (v := ?_) rfl rfl (by kernel_rfl) (by kernel_rfl) (by kernel_rfl) (fun _ _ _ h => h) (by rfl) ?_ (by assumption) ?_
            rotate_left
            · intro wx hSw
              try dsimp only at hSw
              go_simp
              with_reducible rfl
            simp only [Act.put, List.setIfInBounds_toArray, List.set_cons_zero, List.set_cons_succ]
            refine takeH 16 75 (v := ?_) rfl rfl (by kernel_rfl) (by kernel_rfl) (by kernel_rfl) (fun _ _ _ h => h) (by rfl) ?_ (by assumption) ?_
            rotate_left
            · intro wx hSw
              try dsimp only at hSw
              go_simp
              with_reducible rfl
            simp only [Act.put, List.setIfInBounds_toArray, List.set_cons_zero, List.set_cons_succ]
            refine wpAnyH_ready (rs := [17]) (by kernel_rfl) (by simp) ?_
            refine AllReadyH.cons rfl (fun K hK => ?_) AllReadyH.nil
            go_simp
            refine (KI _ KR).mono ?_
            rintro e wz2 ⟨rfl, kk⟩
            have z0 := z1
            have KR := KR.trans kk
            have z1 := Nat.lt_of_lt_of_le z1 kk.size
            go_wp2_with fail
            refine hK.out _ _ ?_ (fun hHeld => ?_)
            · exact ⟨(kk.cell z0).trans hHeld.1, (kk.cell z0).trans hHeld.2.1, (kk.cell z0).trans hHeld.2.2.1, (kk.cell z0).trans hHeld.2.2.2.1, (kk.cell z0).trans hHeld.2.2.2.2.1, (kk.cell z0).trans hHeld.2.2.2.2.2.1, (kk.cell z0).trans hHeld.2.2.2.2.2.2.1, (kk.cell z0).trans hHeld.2.2.2.2.2.2.2.1, (kk.cell z0).trans hHeld.2.2.2.2.2.2.2.2.1, (kk.cell z0).trans hHeld.2.2.2.2.2.2.2.2.2.1, (kk.cell z0).trans hHeld.2.2.2.2.2.2.2.2.2.2.1, (kk.cell z0).trans hHeld.2.2.2.2.2.2.2.2.2.2.2⟩
            clear hK K
            refine takeH 18 77 (v := ?_) rfl rfl (by kernel_rfl) (by kernel_rfl) (by kernel_rfl) (fun _ _ _ h => h) (by rfl) ?_ (by assumption) ?_
            rotate_left
            · intro wx hSw
              try dsimp only at hSw
              go_simp
              with_reducible rfl
            simp only [Act.put, List.setIfInBounds_toArray, List.set_cons_zero, List.set_cons_succ]
            refine takeH 19 78 (v := ?_) rfl rfl (by kernel_rfl) (by kernel_rfl) (by kernel_rfl) (fun _ _ _ h => h) (by rfl) ?_ (by assumption) ?_
            rotate_left
            · intro wx hSw
              try dsimp only at hSw
              go_simp
              with_reducible rfl
            simp only [Act.put, List.setIfInBounds_toArray, List.set_cons_zero, List.set_cons_succ]
            refine takeH 20 79 (v := ?_) rfl rfl (by kernel_rfl) (by kernel_rfl) (by kernel_rfl) (fun _ _ _ h => h) (by rfl) ?_ (by assumption) ?_
            rotate_left
            · intro wx hSw
              try dsimp only at hSw
              go_simp
              with_reducible rfl
            simp only [Act.put, List.setIfInBounds_toArray, List.set_cons_zero, List.set_cons_succ]
            refine takeH 21 80 (v := ?_) rfl rfl (by kernel_rfl) (by kernel_rfl) (by kernel_rfl) (fun _ _ _ h => h) (by rfl) ?_ (by assumption) ?_
            rotate_left
            · intro wx hSw
              try dsimp only at hSw
              go_simp
              with_reducible rfl
            simp only [Act.put, List.setIfInBounds_toArray, List.set_cons_zero, List.set_cons_succ]
            refine takeH 22 81 (v := ?_) rfl rfl (by kernel_rfl) (by kernel_rfl) (by kernel_rfl) (fun _ _ _ h => h) (by rfl) ?_ (by assumption) ?_
            rotate_left
            · intro wx hSw
              try dsimp only at hSw
              go_simp
              with_reducible rfl
            simp only [Act.put, List.setIfInBounds_toArray, List.set_cons_zero, List.set_cons_succ]
            refine takeH 23 82 (v := ?_) rfl rfl (by kernel_rfl) (by kernel_rfl) (by kernel_rfl) (fun _ _ _ h => h) (by rfl) ?_ (by assumption) ?_
            rotate_left
            · intro wx hSw
              try dsimp only at hSw
              go_simp
              with_reducible rfl
            simp only [Act.put, List.setIfInBounds_toArray, List.set_cons_zero, List.set_cons_succ]
            refine takeH 24 83 (v := ?_) rfl rfl (by kernel_rfl) (by kernel_rfl) (by kernel_rfl) (fun _ _ _ h => h) (by rfl) ?_ (by assumption) ?_
            rotate_left
            · intro wx hSw
              try dsimp only at hSw
              go_simp
              with_reducible rfl
            simp only [Act.put, List.setIfInBounds_toArray, List.set_cons_zero, List.set_cons_succ]
            refine takeH 25 84 (v := ?_) rfl rfl (by kernel_rfl) (by kernel_rfl) (by kernel_rfl) (fun _ _ _ h => h) (by rfl) ?_ (by assumption) ?_
            rotate_left
            · intro wx hSw
              try dsimp only at hSw
              go_simp
              with_reducible rfl
            simp only [Act.put, List.setIfInBounds_toArray, List.set_cons_zero, List.set_cons_succ]
            refine wpAnyH_ready (rs := [26]) (by kernel_rfl) (by simp) ?_
            refine AllReadyH.cons rfl (fun K hK => ?_) AllReadyH.nil
            go_simp
            refine (KK2 _ KR).mono ?_
            rintro e wz3 ⟨rfl, kk⟩
            have z0 := z1
            have KR := KR.trans kk
            have z1 := Nat.lt_of_lt_of_le z1 kk.size
            go_wp2_with fail
            refine hK.out _ _ ?_ (fun hHeld => ?_)
            · exact ⟨(kk.cell z0).trans hHeld.1, (kk.cell z0).trans hHeld.2.1, (kk.cell z0).trans hHeld.2.2.1, (kk.cell z0).trans hHeld.2.2.2.1, (kk.cell z0).trans hHeld.2.2.2.2.1, (kk.cell z0).trans hHeld.2.2.2.2.2.1, (kk.cell z0).trans hHeld.2.2.2.2.2.2.1, (kk.cell z0).trans hHeld.2.2.2.2.2.2.2.1, (kk.cell z0).trans hHeld.2.2.2.2.2.2.2.2.1, (kk.cell z0).trans hHeld.2.2.2.2.2.2.2.2.2.1, (kk.cell z0).trans hHeld.2.2.2.2.2.2.2.2.2.2.1, (kk.cell z0).trans hHeld.2.2.2.2.2.2.2.2.2.2.2⟩
            clear hK K
            refine takeH 27 86 (v := ?_) rfl rfl (by kernel_rfl) (by kernel_rfl) (by kernel_rfl) (fun _ _ _ h => h) (by rfl) ?_ (by assumption) ?_
            rotate_left
            · intro wx hSw
              try dsimp only at hSw
              go_simp
              with_reducible rfl
            simp only [Act.put, List.setIfInBounds_toArray, List.set_cons_zero, List.set_cons_succ]
            refine takeH 28 87 (v := ?_) rfl rfl (by kernel_rfl) (by kernel_rfl) (by kernel_rfl) (fun _ _ _ h => h) (by rfl) ?_ (by assumption) ?_
            rotate_left
            · intro wx hSw
              try dsimp only at hSw
              go_simp
              with_reducible rfl
            simp only [Act.put, List.setIfInBounds_toArray, List.set_cons_zero, List.set_cons_succ]
            refine wpAnyH_done (by kernel_rfl) ?_ _
            clear d1 hHeld
            have hr := hr.keep KR
            have d1 := hr.cell (j := k) hBl
            rw [← HX.out] at d1
            have d2 := hr.free k
            have hGl := hr.lt
            go_wp2
            go_roundw
            case rel => exact ⟨m + 1, by omega, by omega, by go_num, by rw [HE1.out]; exact hr.set k _, (hK.trans KR).grown (grown_set _ G k _) (by simp; exact hG)⟩
            case measure => simp [intOf]; omega
        · obtain rfl : m = es.length := by omega
          go_wp2
          go_roundw
          case rel => exact ⟨k + 1, by omega, by omega, by go_num, by rw [← HE.out]; exact hr, hK⟩
          case measure => simp [intOf]; omega
    · obtain rfl : k = es.length := by omega
      have HL := (web_offAll (p := kepP dss es) HW0.out es.length (Nat.le_refl _)).1.2.1
      go_wp2
      go_ret
      exact ⟨_, rfl, row_new hr hG HL, hK⟩
end Go.Proofs.YtkbkdlaknmgjpaaGreat
