/- Contract of the specification's l10Against: from each read to all behind what it is from. -/
import Derived.Test.YtkbkdlaknmgjpaaGreatMB
import Derived.Test.YtkbkdlaknmgjpaaGreatRwS
import Derived.Test.YtkbkdlaknmgjpaaGreatMC
import Derived.Test.YtkbkdlaknmgjpaaGreatME
import Derived.Test.YtkbkdlaknmgjpaaGreatMA
import Derived.Deep.Cut
namespace Go.Proofs.YtkbkdlaknmgjpaaGreat
open Go.ChangeShapes Go.WideShapes Go.ChangeAt Go.RowKit

set_option maxRecDepth 100000 in
set_option maxHeartbeats 4000000 in
theorem l10Against_any (w : World) (v vF vR : Value) (es : List Ev) (f rows : List Int) (h : RdE w v es) (hf : Rd w vF f) (hr : Rd w vR rows) (hn : es.length ≤ 12) (hlr : rows.length ≤ 36) (hrw : ∀ j, j < rows.length → 0 ≤ rows.getD j 0 ∧ rows.getD j 0 < (es.length : Int)) (hl : (idxB rdE es).length ≤ f.length) (hb : ∀ i, i < (idxB rdE es).length → 0 ≤ f.getD i 0 ∧ f.getD i 0 < (es.length : Int)) :
    Calls Tryz.prog 105 #[v, .agg #[vF, vR]] w fun e w' => ∃ v', e = .returned v' ∧ Row w' w.heap.size v' (agL es f rows) ∧ Keep w w' := by
  have hE := h
  obtain ⟨a, c, rfl, -⟩ := id h
  obtain ⟨aF, cF, rfl, -⟩ := id hf
  obtain ⟨aR, cR, rfl, -⟩ := id hr
  obtain ⟨i0, hi, hz0, hz1, hz2⟩ := info_parts Tryz.infoI
  have rl : (idxB rdE es).length ≤ 12 := by
    unfold idxB
    rw [if_pos hn]
    have := idxK_len rdE es es.length
    omega
  have rin : ∀ i, i < (idxB rdE es).length → 0 ≤ (idxB rdE es).getD i 0 ∧ (idxB rdE es).getD i 0 < (es.length : Int) := by
    intro i hi
    have hm : (idxB rdE es).getD i 0 ∈ idxB rdE es := by
      rw [List.getD_eq_getElem?_getD, List.getElem?_eq_getElem hi]
      exact List.getElem_mem hi
    refine idxK_lt rdE es _ _ ?_
    unfold idxB at hm ⊢
    rw [if_pos hn] at hm ⊢
    exact hm
  have HL : Hid (agL es f rows = agK es.length (idxB rdE es) f (rwL es rows) (idxB rdE es).length) := Lib.hid rfl
  have HWL : Hid ((rwL es rows).length = es.length) := Lib.hid (web_rwAll hn hrw rows.length (Nat.le_refl _)).1.2.1
  go_enter Tryz.func105, Tryz.ntmps105
  go_upto_region 1 with fail
  obtain ⟨wB, hwB⟩ : ∃ W : World, W = w.alloc (.cells #[.slice aF f.length cF, .slice aR rows.length cR] 27) := ⟨_, rfl⟩
  have kB : Keep w wB := by rw [hwB]; exact (Keep.refl w).alloc _
  have sB : wB.heap.size = w.heap.size + 1 := by rw [hwB]; exact heap_size _ _
  have b0 : wB.cell? ⟨w.heap.size, 0, none⟩ = some (.slice aF f.length cF) := by rw [hwB]; exact box_cell (Keep.refl _) 0
  have b1 : wB.cell? ⟨w.heap.size, 1, none⟩ = some (.slice aR rows.length cR) := by rw [hwB]; exact box_cell (Keep.refl _) 1
  rw [← hwB]
  clear hwB
  have SB := Lib.hid sB
  have lB : w.heap.size < wB.heap.size := by omega
  clear sB
  go_wp2_with (at_make; refine wpList_make_full _ rfl _ _ 25 rfl wB.heap.size 2 i0 (.int .i64 0) 1 Tryz.underlying25 hi hz0 hz1 .i64 .i64 _ _ es.length rfl rfl rfl rfl (by rw [hz2]; omega) (by unfold maxLen; omega) (Nat.le_refl _) ?_; intro w1 hown hgrow; have k1 : Keep wB w1 := (Keep.refl wB).grown hgrow (by simp); have d1 := (k1.cell lB).trans b1)
  rw [made_rw] at hown
  have rb : RowAt w1 wB.heap.size (agK es.length (idxB rdE es) f (rwL es rows) 0) := by
    have o : Own w1 wB.heap.size (.slice (some ⟨wB.heap.size, 0, none⟩) es.length es.length) (List.replicate es.length 0) := by
      unfold Own; simpa using hown
    rcases o.row with ⟨e, _⟩ | ⟨g, cap, e, _, hr⟩
    · cases e
    · have e1 := congrArg Value.ownBlock e
      simp [Value.ownBlock] at e1
      rw [e1]; exact hr
  clear hgrow hown hi hz0 hz1 hz2
  have hlt1 := rb.lt
  refine (l9Web_any _ _ _ _ _ (hE.keep (kB.trans k1)) (hr.keep (kB.trans k1)) hn hlr hrw).mono ?_
  rintro e w2 ⟨vw, rfl, ow, k2⟩
  clear d1
  have NW : vw.ownBlock = none ∨ vw.ownBlock ≠ some wB.heap.size := by
    cases hu : vw.ownBlock with
    | none => exact .inl rfl
    | some k => exact .inr (fun e => by have := ow.ge k hu; have := Option.some.inj e; omega)
  have K2 := k1.trans k2
  go_wp2_with fail
  refine (specReadsOf_any _ _ _ (hE.keep (kB.trans K2)) (by omega)).mono ?_
  rintro e w3 ⟨vr, rfl, or2, k3⟩
  have hlt2 : wB.heap.size < w2.heap.size := Nat.lt_of_lt_of_le hlt1 k2.size
  have W3 : Rd w3 vw (rwL es rows) := ow.rd.keep k3
  generalize idxB rdE es = rs at rl rin HL or2 hl hb rb
  generalize rwL es rows = rw' at HL HWL W3 rb ow
  have R3 : Rd w3 vr rs := or2.rd
  have NR : vr.ownBlock = none ∨ vr.ownBlock ≠ some wB.heap.size := by
    cases hu : vr.ownBlock with
    | none => exact .inl rfl
    | some k => exact .inr (fun e => by have := or2.ge k hu; have := Option.some.inj e; omega)
  have rb3 := (rb.keep k2).keep k3
  have K3 := K2.trans k3
  have RIN := Lib.hid rin
  have HB := Lib.hid hb
  have HF := Lib.hid hf
  obtain ⟨ar, cr, rfl, -⟩ := id R3
  obtain ⟨aw, cw, rfl, -⟩ := id W3
  clear rb k1 k2 k3 K2 or2 ow rin hb hlt1 hlt2 hf hr hE h
  go_wp2
  go_loopw [8] (fun i wr => ∃ k : Nat, k ≤ rs.length ∧ i = .int .i64 k ∧ RowAt wr wB.heap.size (agK es.length rs f rw' k) ∧ Rd wr (.slice ar rs.length cr) rs ∧ Rd wr (.slice aw rw'.length cw) rw' ∧ Keep wB wr) (fun i _ => rs.length - (intOf i).toNat)
  case atStart => exact ⟨0, Nat.zero_le _, rfl, rb3, R3, W3, K3⟩
  case round =>
    obtain ⟨k, hk, rfl, hr, hR, hW, hK⟩ := hrel
    clear rb3 R3 W3 K3
    by_cases hlt : k < rs.length
    · obtain ⟨r, hr0⟩ := Int.eq_ofNat_of_zero_le (RIN.out k hlt).1
      obtain ⟨t, ht0⟩ := Int.eq_ofNat_of_zero_le (HB.out k hlt).1
      have hre : r < es.length := by have := (RIN.out k hlt).2; omega
      have hte : t < rw'.length := by have := (HB.out k hlt).2; have := HWL.out; omega
      have HC : Hid (agK es.length rs f rw' (k + 1) = (agK es.length rs f rw' k).set r (rw'.getD t 0)) := Lib.hid (by
        rw [agK, ht0, hr0, Int.toNat_natCast, Int.toNat_natCast])
      have d2 := hr.free r
      have d7 := hr.cell (j := r) (by rw [agK_len]; exact hre)
      have d5 := (hK.cell lB).trans b0
      have hR' := hR
      obtain ⟨a', c', he', hR'⟩ := hR'
      simp only [Value.slice.injEq, true_and] at he'
      obtain ⟨rfl, rfl⟩ := he'
      rcases hR' with h0 | ⟨br, orr, rfl, hbr, hcr⟩
      · exfalso; rw [h0] at hlt; simp at hlt
      have d3 := hcr k hlt
      rw [hr0] at d3
      have hF := (HF.out.keep kB).keep hK
      obtain ⟨a2, c2, he2, hF'⟩ := hF
      simp only [Value.slice.injEq, true_and] at he2
      obtain ⟨rfl, rfl⟩ := he2
      rcases hF' with h0 | ⟨bf, off, rfl, hbf, hcf⟩
      · exfalso; rw [h0] at hl; simp only [List.length_nil] at hl; omega
      have d4 := hcf k (by omega)
      rw [ht0] at d4
      have hW' := hW
      obtain ⟨a3, c3, he3, hW'⟩ := hW'
      simp only [Value.slice.injEq, true_and] at he3
      obtain ⟨rfl, rfl⟩ := he3
      rcases hW' with h0 | ⟨bw, oww, rfl, hbw, hcw⟩
      · exfalso; rw [h0] at hte; simp at hte
      have d6 := hcw t hte
      clear hcr hcf hcw hr0 ht0
      obtain ⟨S, hS⟩ : ∃ S, S = agK es.length rs f rw' k := ⟨_, rfl⟩
      rw [← hS] at hr HC d7
      clear hS
      obtain ⟨x, hx⟩ : ∃ x, x = rw'.getD t 0 := ⟨_, rfl⟩
      rw [← hx] at d6 HC
      clear hx
      have i1 : (0 : Int) ≤ (k : Int) := Int.natCast_nonneg _
      have i2 : (k : Int) < (rs.length : Int) := by omega
      have i3 : (k : Int) < (f.length : Int) := by omega
      have j1 : (0 : Int) ≤ (r : Int) := Int.natCast_nonneg _
      have j2 : (r : Int) < (es.length : Int) := by omega
      have j3 : (0 : Int) ≤ (t : Int) := Int.natCast_nonneg _
      have j4 : (t : Int) < (rw'.length : Int) := by omega
      have j5 : (es.length : Int) ≤ 12 := by omega
      go_wp2
      go_region
      all_goals
        go_wp2
        go_roundw
        case rel =>
          refine ⟨k + 1, by omega, by go_num, ?_, ?_, ?_, ?_⟩
          · rw [HC.out]; exact hr.drew.set r _
          · exact (hR.keptR (grown_drew wr (some wB.heap.size)) NR).keptR (grown_set _ wB.heap.size r _) NR
          · exact (hW.keptR (grown_drew wr (some wB.heap.size)) NW).keptR (grown_set _ wB.heap.size r _) NW
          · exact (hK.drew).grown (grown_set _ wB.heap.size r _) (by simp)
        case measure => simp [intOf]; omega
    · obtain rfl : k = rs.length := by omega
      go_wp2
      go_ret
      refine ⟨_, rfl, ?_, kB.trans hK⟩
      rw [HL.out]
      exact row_new hr (by have := SB.out; omega) (agK_len _ _ _ _ _)
end Go.Proofs.YtkbkdlaknmgjpaaGreat
