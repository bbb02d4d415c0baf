/- Contract of the specification's WorkOk. -/
import Derived.Test.YtkbkdlaknmgjpaaWorkEvS
namespace Go.Proofs.Ytkbkdlaknmgjpaa
open Go.ChangeShapes Go.WideShapes Go.ChangeAt Go.RowKit
theorem take_more {α : Type} (l : List α) (k : Nat) (z : α) (h : k < l.length) : l.take (k + 1) = l.take k ++ [l.getD k z] := by
 rw [List.take_add_one, List.getElem?_eq_getElem h, List.getD_eq_getElem?_getD, List.getElem?_eq_getElem h]
 rfl
theorem all_more {α : Type} {f : α → Bool} {l : List α} {k : Nat} (z : α) (h : k < l.length) (h1 : (l.take k).all f = true) (h2 : f (l.getD k z) = true) : (l.take (k + 1)).all f = true := by
 rw [take_more l k z h, List.all_append, h1]
 rw [List.all_cons, h2]; rfl
theorem lenW_more (d : List Dd) : ∀ l : List (List Dd), lenW (l ++ [d]) = lenW l + d.length
 | [] => by simp [lenW]
 | x :: r => by rw [List.cons_append, lenW, lenW, lenW_more d r]; omega
theorem workB_off {dss : List (List Dd)} {k : Nat} (hk : k < dss.length) (h : okL (dss.getD k []) = false) : workB dss = false := by
 rw [workB, all_not [] k hk h]; simp
set_option maxRecDepth 100000 in
set_option maxHeartbeats 4000000 in
theorem specWorkOk_any (w : World) (v : Value) (dss : List (List Dd)) (h : RdW w v dss) (hx : dss.length ≤ 1048576) (hm : ∀ i, i < dss.length → (dss.getD i []).length ≤ 1048576) :
  Calls Try.prog 28 #[v] w fun e w' => e = .returned (.bool (workB dss)) ∧ Keep w w' := by
 have RW := h
 obtain ⟨a, c, rfl, h⟩ := h
 cases hb : inB (dss.length : Int) 1 3
 ·
  have HE : Hid (workB dss = false) := by
   refine Lib.hid ?_
   simp [inB] at hb
   rw [workB, decide_eq_false (by omega)]
   rfl
  go_enter Try.func28, Try.ntmps28
  go_wp2_with (go_at_call 45; refine (l1In_any _ _ _ _).mono ?_; rintro e w' ⟨rfl, rfl⟩)
  go_ret
  exact ⟨by rw [HE.out]; rfl, Keep.refl _⟩
 ·
  have h13 : 1 ≤ dss.length ∧ dss.length ≤ 3 := by simp [inB] at hb; omega
  have HIN := Lib.hid h13
  have h3 := h13.2
  clear h13
  go_enter Try.func28, Try.ntmps28
  go_wp2_with (go_at_call 45; refine (l1In_any _ _ _ _).mono ?_; rintro e w' ⟨rfl, rfl⟩)
  clear hb
  go_loopw [3, 4] (fun n i wr => ∃ k m : Nat, k ≤ dss.length ∧ n = .int .i64 m ∧ i = .int .i64 k ∧ Hid (m = lenW (dss.take k) ∧ (dss.take k).all okL = true) ∧ m ≤ 5 * k ∧ Keep w' wr) (fun _ i _ => dss.length - (intOf i).toNat)
  case atStart => exact ⟨0, 0, Nat.zero_le _, rfl, rfl, Lib.hid (by simp [lenW]), by omega, Keep.refl _⟩
  case round =>
   obtain ⟨k, m, hk, rfl, rfl, hM, m5, hK⟩ := hrel
   by_cases hlt : k < dss.length
   ·
    rcases h with h | ⟨b, o, rfl, hb, hc⟩
    ·
     exfalso; rw [h] at hlt; simp at hlt
    obtain ⟨u, e1, r1⟩ := hc k hlt
    have hmk := hm k hlt
    clear hc hm RW
    obtain ⟨ds, hds⟩ : ∃ ds, ds = dss.getD k [] := ⟨_, rfl⟩
    have HDS := Lib.hid hds
    rw [← hds] at r1 hmk
    clear hds
    obtain ⟨ai, ci, rfl, r1⟩ := r1
    have d1 := (hK.cell hb).trans e1
    have i1 : (0 : Int) ≤ (k : Int) := Int.natCast_nonneg _
    have i2 : (k : Int) < (dss.length : Int) := by omega
    go_wp2
    go_loopw [5] (fun i wq => ∃ q : Nat, q ≤ ds.length ∧ i = .int .i64 q ∧ Hid ((ds.take q).all okD = true) ∧ Keep w' wq) (fun i _ => ds.length - (intOf i).toNat)
    case atStart => exact ⟨0, Nat.zero_le _, rfl, Lib.hid (by simp), hK⟩
    case round =>
     obtain ⟨q, hq, rfl, hQ, hL⟩ := hrel
     have d1 := (hL.cell hb).trans e1
     by_cases hlq : q < ds.length
     ·
      rcases r1 with h | ⟨b2, o2, rfl, hb2, hc2⟩
      ·
       exfalso; rw [h] at hlq; simp at hlq
      have AT := (hc2 q hlq).keep hb2 hL
      clear hc2
      have hbq : b < wr.heap.size := Nat.lt_of_lt_of_le hb hL.size
      have hb3 : b2 < wr.heap.size := Nat.lt_of_lt_of_le hb2 hL.size
      have j1 : (0 : Int) ≤ (q : Int) := Int.natCast_nonneg _
      have j2 : (q : Int) < (ds.length : Int) := by omega
      have HT : okD (ds.getD q zD) = true → Hid ((ds.take (q + 1)).all okD = true) := fun e => Lib.hid (all_more zD hlq hQ.out e)
      have HF : okD (ds.getD q zD) = false → Hid (workB dss = false) := fun e => Lib.hid (workB_off hlt (by rw [← HDS.out, okL, all_not zD q hlq e]; rfl))
      clear hQ
      obtain ⟨d, hd⟩ : ∃ d, d = ds.getD q zD := ⟨_, rfl⟩
      rw [← hd] at AT HT HF
      clear hd
      obtain ⟨x0, x1, x2, x3⟩ := d
      obtain ⟨A0, A1, A2, A3⟩ := AT
      simp only at A0 A1 A2 A3
      unfold okD at HT HF
      simp only at HT HF
      cases hd : deedB x0 x1 x2 x3
      ·
       have HE := HF hd
       clear HT HF
       go_wp2_with fail
       refine (specDeedOk_any _ _ _ _ _).mono ?_
       rintro e wz ⟨rfl, kk⟩
       go_wp2
       go_ret
       exact ⟨by rw [HE.out]; rfl, hL.trans kk⟩
      ·
       have HE := HT hd
       clear HT HF
       go_wp2_with fail
       refine (specDeedOk_any _ _ _ _ _).mono ?_
       rintro e wz ⟨rfl, kk⟩
       go_wp2
       go_roundw
       case rel => exact ⟨q + 1, by omega, by go_num, HE, hL.trans kk⟩
       case measure => simp [intOf]; omega
     ·
      obtain rfl : q = ds.length := by omega
      rw [List.take_length] at hQ
      by_cases h5 : ds.length ≤ 5
      ·
       have HE : Hid (m + ds.length = lenW (dss.take (k + 1)) ∧ (dss.take (k + 1)).all okL = true) := by
        refine Lib.hid ⟨?_, all_more [] hlt hM.out.2 (by rw [← HDS.out, okL, hQ.out]; simp [h5])⟩
        rw [take_more dss k [] hlt, lenW_more, ← HDS.out, hM.out.1]
       go_wp2
       go_roundw
       case rel => exact ⟨k + 1, m + ds.length, by omega, by go_num, by go_num, HE, by omega, hL⟩
       case measure => simp [intOf]; omega
      ·
       have HE : Hid (workB dss = false) := Lib.hid (workB_off hlt (by rw [← HDS.out, okL]; simp; omega))
       go_wp2
       go_ret
       exact ⟨by rw [HE.out]; rfl, hL⟩
   ·
    obtain rfl : k = dss.length := by omega
    rw [List.take_length] at hM
    have OKS : ∀ i, i < dss.length → okL (dss.getD i []) = true := fun i hi => all_get [] hM.out.2 i hi
    have HW : Hid (workB dss = (decide (m ≤ 12) && decide (evW dss dss.length ≤ 6) && grpB dss)) := by
     refine Lib.hid ?_
     rw [workB, decide_eq_true HIN.out, hM.out.2, hM.out.1]
     rfl
    have rw1 := RW.keep hK
    clear hM RW h hm
    by_cases h12 : m ≤ 12
    ·
     have e12 : decide ((m : Int) ≤ 12) = true := by simp; omega
     by_cases h6 : evW dss dss.length ≤ 6
     ·
      have HE : Hid (workB dss = grpB dss) := Lib.hid (by rw [HW.out]; simp [h12, h6])
      go_wp2_with fail
      refine (l5Events_any _ _ _ rw1 h3 OKS).mono ?_
      rintro e wz ⟨rfl, kk⟩
      have rw2 := rw1.keep kk
      go_wp2_with fail
      refine (l5Groups_any _ _ _ rw2 h3 OKS).mono ?_
      rintro e wy ⟨rfl, k2⟩
      go_wp2
      go_ret
      exact ⟨by rw [HE.out]; rfl, (hK.trans kk).trans k2⟩
     ·
      have HE : Hid (workB dss = false) := Lib.hid (by rw [HW.out]; simp [h6])
      go_wp2_with fail
      refine (l5Events_any _ _ _ rw1 h3 OKS).mono ?_
      rintro e wz ⟨rfl, kk⟩
      go_wp2
      go_ret
      exact ⟨by rw [HE.out]; rfl, hK.trans kk⟩
    ·
     have HE : Hid (workB dss = false) := Lib.hid (by rw [HW.out]; simp [h12])
     go_wp2
     go_ret
     exact ⟨by rw [HE.out]; rfl, hK⟩
end Go.Proofs.Ytkbkdlaknmgjpaa
