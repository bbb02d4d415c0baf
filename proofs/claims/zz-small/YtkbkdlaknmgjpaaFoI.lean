/- Contract of the program's FromOthers. -/
import Derived.Test.YtkbkdlaknmgjpaaMB
import Derived.Test.YtkbkdlaknmgjpaaFromI
namespace Go.Proofs.Ytkbkdlaknmgjpaa
open Go.ChangeShapes Go.WideShapes Go.ChangeAt Go.RowKit
theorem fw_web (dss : List (List Dd)) (f : List Int) : Web (fwB dss f).length (fwB dss f) ∧ (fwB dss f).length ≤ (eventsB dss).length := by
 cases h : sourceB dss f with
 | false => rw [(fo_none h).1]; exact ⟨⟨Nat.zero_le _, rfl, fun i hi => absurd hi (Nat.not_lt_zero i)⟩, Nat.zero_le _⟩
 | true =>
  have hbs := h
  rw [sourceB, Bool.and_eq_true] at hbs
  have hx := eventsB_12 dss
  obtain ⟨sl, su⟩ := src_use hx hbs.2
  have wf := fw_line (f := f) hx (idxB rdE (eventsB dss)).length (fun i hi => rd_in hx hi) (fun i hi => (su i hi).1)
  have ef : fwB dss f = fwL (eventsB dss) f := by rw [fwB, if_pos h]
  have e1 : (fwL (eventsB dss) f).length = (eventsB dss).length := wf.1.2.1
  rw [ef, e1]
  exact ⟨wf.1, Nat.le_refl _⟩
theorem fo_all (dss : List (List Dd)) (f : List Int) : drwK (fwB dss f).length (othL (eventsB dss) (fwB dss f)) (othL (eventsB dss) (fwB dss f)).length = owB dss f := by
 cases h : sourceB dss f with
 | false => rw [(fo_none h).1, (fo_none h).2]; rfl
 | true => rw [(ow_cell h).2.1]; exact fo_same h
theorem drwK_hit (n : Nat) (l : List (Int × Int)) (k i j : Nat) (hk : k < l.length) (h : l.getD k (0, 0) = ((i : Int), (j : Int))) : drwK n l (k + 1) = (drwK n l k).set i (gAdd ((drwK n l k).getD i 0) (j : Int)) := by
 have e := pr_get l k hk
 rw [List.getD_eq_getElem?_getD, List.getElem?_eq_getElem hk] at h
 rw [show l[k] = ((i : Int), (j : Int)) from h] at e
 have e1 := congrArg Prod.fst e
 have e2 := congrArg Prod.snd e
 simp only at e1 e2
 unfold drwK
 rw [fwK, e1, e2, Int.toNat_natCast]
set_option maxRecDepth 100000 in
set_option maxHeartbeats 2000000 in
theorem implFromOthers_any (w : World) (v vf : Value) (dss : List (List Dd)) (f : List Int) (h : RdW w v dss) (hf : Rd w vf f) (hx : dss.length ≤ 1048576) (hm : ∀ i, i < dss.length → (dss.getD i []).length ≤ 1048576) (hfl : f.length ≤ 1048576) :
  Calls Try.prog 8 #[v, vf] w fun e w' => ∃ v', e = .returned v' ∧ Row w' w.heap.size v' (owB dss f) ∧ Keep w w' := by
 have C1 := implFromWeb_any w v vf dss f h hf hx hm hfl
 have C2 := fun (W : World) (k : Keep w W) => implEventsOf_any W v dss (h.keep k) hx hm
 have HE := Lib.hid (fo_all dss f)
 obtain ⟨HW0, hle⟩ := fw_web dss f
 have HW := Lib.hid HW0
 have h12 := HW0.1
 have e12 := eventsB_12 dss
 have HIN : Hid (∀ x ∈ linL (fwB dss f), ∃ i j : Nat, x = ((i : Int), (j : Int)) ∧ i < (fwB dss f).length ∧ j < (fwB dss f).length) := Lib.hid (fun x hx => by
  obtain ⟨a, j, e, ha, hj, -⟩ := lin_in HW0 hx
  exact ⟨a, j, e, ha, hj⟩)
 clear HW0 h hx hm hfl
 obtain ⟨af, cf, rfl, -⟩ := hf
 generalize owB dss f = OW at *
 generalize fwB dss f = zs at *
 generalize eventsB dss = es at *
 go_enter Try.func8, Try.ntmps8
 go_wp2_with fail
 refine C1.mono ?_
 rintro e w1 ⟨v1, rfl, o1, k1⟩
 have s1 := k1.size
 clear C1
 go_wp2_with fail
 refine (C2 _ k1).mono ?_
 rintro e w2 ⟨v2, rfl, a2, k2⟩
 have s2 := k2.size
 clear C2
 have re := a2.rd
 have rz := o1.rd.keep k2
 have K2 := k1.trans k2
 clear a2 o1 k1 k2
 obtain ⟨a1, c1, rfl, -⟩ := id rz
 obtain ⟨ae, ce, rfl, -⟩ := id re
 have k3 : Keep w2 (w2.alloc (.cells #[.slice ae es.length (es.length + ce)] 38)) := (Keep.refl w2).alloc _
 have b3 : (w2.alloc (.cells #[.slice ae es.length (es.length + ce)] 38)).cell? ⟨w2.heap.size, 0, none⟩ = some (.slice ae es.length (es.length + ce)) := box_cell (Keep.refl _) 0
 have K3 := K2.trans k3
 have re3 := re.keep k3
 have rz3 := rz.keep k3
 clear re rz K2
 go_wp2_with fail
 refine (linesIn_any _ _ _ rz3 h12).mono ?_
 rintro e w4 ⟨v4, rfl, o4, k4⟩
 have b4 := (k4.cell (by simp)).trans b3
 have z4 := box_size k4
 have s4 := k4.size
 have K4 := K3.trans k4
 have hl4 : (linL zs).length ≤ 144 := by
  have := lin_len zs zs.length
  unfold linL
  omega
 have HO : Hid (othL es zs = (linL zs).filter (othP es)) := Lib.hid rfl
 have re4 := re3.keep k4
 have rz4 := rz3.keep k4
 have rl4 := AppLn.rd o4
 clear k3 k4 b3 K3 re3 rz3 o4
 obtain ⟨a4, c4, rfl, -⟩ := id rl4
 have C5 := only_any w4 _ _ _ _ rl4 hl4 re4 w2.heap.size b4 z4 (fun x hx => by
  obtain ⟨i, j, e, hi, hj⟩ := HIN.out x hx
  exact ⟨i, j, e, by omega, by omega⟩)
 go_wp2_with fail
 refine C5.mono ?_
 rintro e w5 ⟨v5, rfl, o5, k5⟩
 rw [← HO.out] at o5
 have HSUB : Hid (∀ x ∈ othL es zs, ∃ i j : Nat, x = ((i : Int), (j : Int)) ∧ i < zs.length ∧ j < zs.length) := Lib.hid (fun x hx => HIN.out x (oth_sub es zs x hx))
 have HD : Hid (∀ k, k ≤ (othL es zs).length → (drwK zs.length (othL es zs) k).length = zs.length) := Lib.hid (fun k hk => (drw_web HW.out (oth_sub es zs) k hk).1.2.1)
 have hl5 : (othL es zs).length ≤ 144 := by
  have := List.length_filter_le (othP es) (linL zs)
  rw [HO.out]
  omega
 have K5 := K4.trans k5
 have s5 := k5.size
 have b5 : w.heap.size ≤ w5.heap.size := K5.size
 have rl5 := AppLn.rd o5
 clear C5 HO HIN HW re4 rz4 rl4 b4 k5 o5 K4 z4
 generalize othL es zs = L at *
 obtain ⟨a5, c5, rfl, -⟩ := id rl5
 go_wp2_with fail
 refine (blank_any _ _ h12).mono ?_
 rintro e w6 ⟨rfl, rb, k6⟩
 have K6 := K5.trans k6
 have rl6 := rl5.keep k6
 have s6 := k6.size
 have hbw := rb.lt
 have hb := b5
 have rb6 : RowAt w6 w5.heap.size (drwK zs.length L 0) := rb
 have HB : Hid (∀ b off, a5 = some ⟨b, off, none⟩ → L = [] ∨ b < w5.heap.size) := Lib.hid (fun b off e => by
  obtain ⟨a', c', he', hR'⟩ := id rl5
  simp only [Value.slice.injEq] at he'
  obtain ⟨rfl, -, -⟩ := he'
  rcases hR' with h0 | ⟨b', o', e2, hb', -⟩
  ·
   exact .inl h0
  ·
   rw [e] at e2
   simp only [Option.some.injEq, Addr.mk.injEq, and_true] at e2
   obtain ⟨rfl, rfl⟩ := e2
   exact .inr hb')
 clear rb K5 rl5 k6
 go_wp2
 go_loopw [25] (fun i wr => ∃ k : Nat, k ≤ L.length ∧ i = .int .i64 k ∧ RowAt wr w5.heap.size (drwK zs.length L k) ∧ RdLn wr (.slice a5 L.length (L.length + c5)) L ∧ Keep w wr) (fun i _ => L.length - (intOf i).toNat)
 case atStart => exact ⟨0, Nat.zero_le _, rfl, rb6, rl6, K6⟩
 case round =>
  obtain ⟨k, hk, rfl, hr, hR, hK⟩ := hrel
  clear rb6 rl6 K6 hbw
  by_cases hlt : k < L.length
  ·
   obtain ⟨a', c', he', hR'⟩ := id hR
   simp only [Value.slice.injEq, true_and] at he'
   obtain ⟨rfl, hc'⟩ := he'
   obtain rfl : c5 = c' := by omega
   rcases hR' with h0 | ⟨b, off, rfl, hb', hc⟩
   ·
    exfalso; rw [h0] at hlt; simp at hlt
   have hmem : L.getD k (0, 0) ∈ L := by
    rw [List.getD_eq_getElem?_getD, List.getElem?_eq_getElem hlt]
    exact List.getElem_mem hlt
   obtain ⟨i, j, ex, hi, hj⟩ := HSUB.out _ hmem
   have HK : Hid (drwK zs.length L (k + 1) = (drwK zs.length L k).set i (gAdd ((drwK zs.length L k).getD i 0) (j : Int))) := Lib.hid (drwK_hit zs.length L k i j hlt ex)
   have AT := hc k _ (ln_get hlt)
   rw [ex] at AT
   obtain ⟨d1, d2⟩ := atLn AT
   have hbl : b < w5.heap.size := by
    rcases HB.out b off rfl with h0 | h0
    ·
     exfalso; rw [h0] at hlt; simp at hlt
    ·
     exact h0
   have hdl := HD.out k hk
   clear AT hc ex hmem
   have i1 : (0 : Int) ≤ (k : Int) := Int.natCast_nonneg _
   have i2 : (k : Int) < (L.length : Int) := by omega
   have K7 : Keep wr (wr.alloc (lnO i j)) := (Keep.refl wr).alloc _
   have CL := line_any (wr.alloc (lnO i j)) w5.heap.size zs.length zs.length (drwK zs.length L k) i (j : Int) (hr.keep K7) hdl hi
   rw [← HK.out] at CL
   have hR7 := hR.keep K7
   have hK7 := hK.trans K7
   clear hdl hK hR hr
   go_wp2_with fail
   refine CL.mono ?_
   rintro e w8 ⟨rfl, hr8, hg8⟩
   have hR8 : RdLn w8 (.slice (some ⟨b, off, none⟩) L.length (L.length + c5)) L := by
    obtain ⟨a', c', he', hR'⟩ := hR7
    simp only [Value.slice.injEq, true_and] at he'
    obtain ⟨rfl, hc'⟩ := he'
    refine ⟨_, c5, rfl, ?_⟩
    rcases hR' with h0 | ⟨b', o', e2, hb2, hc2⟩
    ·
     exact .inl h0
    ·
     simp only [Option.some.injEq, Addr.mk.injEq, and_true] at e2
     obtain ⟨rfl, rfl⟩ := e2
     exact .inr ⟨b, off, rfl, Nat.lt_of_lt_of_le hb2 hg8.size, fun q x hq => (hc2 q x hq).same (hg8.block b hb2 (fun e => by have := Option.some.inj e; omega))⟩
   have hK8 : Keep w w8 := hK7.grown hg8 (by simp; omega)
   clear CL hR7 hK7 K7 hg8 d1 d2
   go_wp2
   go_roundw
   case rel => exact ⟨k + 1, by omega, by go_num, hr8, hR8, hK8⟩
   case measure => simp [intOf]; omega
  ·
   obtain rfl : k = L.length := by omega
   have hdl := HD.out L.length (Nat.le_refl _)
   go_wp2
   go_ret
   refine ⟨_, rfl, ?_, hK⟩
   rw [← HE.out]
   exact .inr ⟨w5.heap.size, zs.length, by rw [hdl]; rfl, hb, hr⟩
end Go.Proofs.Ytkbkdlaknmgjpaa
