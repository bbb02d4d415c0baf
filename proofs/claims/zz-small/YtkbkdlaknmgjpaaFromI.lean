/- Contract of the program's FromWeb. -/
import Derived.Test.YtkbkdlaknmgjpaaMC
import Derived.Test.YtkbkdlaknmgjpaaMA
namespace Go.Proofs.Ytkbkdlaknmgjpaa
open Go.ChangeShapes Go.WideShapes Go.ChangeAt Go.RowKit
theorem workB_useI {dss : List (List Dd)} {f : List Int} (h : sourceB dss f = true) : workB dss = true ∧ srcB (chcL (eventsB dss)) f = true := by
 rw [sourceB, Bool.and_eq_true] at h
 exact h
set_option maxRecDepth 100000 in
set_option maxHeartbeats 2000000 in
theorem implFromWeb_any (w : World) (v vf : Value) (dss : List (List Dd)) (f : List Int) (h : RdW w v dss) (hf : Rd w vf f) (hx : dss.length ≤ 1048576) (hm : ∀ i, i < dss.length → (dss.getD i []).length ≤ 1048576) (hfl : f.length ≤ 1048576) :
  Calls Try.prog 19 #[v, vf] w fun e w' => ∃ v', e = .returned v' ∧ Row w' w.heap.size v' (fwB dss f) ∧ Keep w w' := by
 cases hs : sourceB dss f
 ·
  have HE : Hid (fwB dss f = []) := Lib.hid (by rw [fwB, hs]; rfl)
  have C := implSourceOk_any w v vf dss f h hf hx hm hfl
  rw [hs] at C
  go_enter Try.func19, Try.ntmps19
  go_wp2_with fail
  refine C.mono ?_
  rintro e w1 ⟨rfl, k1⟩
  have s1 := k1.size
  go_wp2
  go_ret
  exact ⟨_, rfl, by rw [HE.out]; exact (row_empty w1 _).base_le s1, k1.alloc _⟩
 ·
  obtain ⟨hb, hs2⟩ := workB_useI hs
  have HE : Hid (fwB dss f = fwL (eventsB dss) f) := Lib.hid (by rw [fwB, if_pos hs])
  have h12 : (eventsB dss).length ≤ 12 := by have := eventsB_len9 dss; omega
  obtain ⟨sl, su⟩ := src_use h12 hs2
  have C := implSourceOk_any w v vf dss f h hf hx hm hfl
  rw [hs] at C
  have rl : (idxB rdE (eventsB dss)).length ≤ 12 := by
   unfold idxB
   rw [if_pos h12]
   have := idxK_len rdE (eventsB dss) (eventsB dss).length
   omega
  have rin : ∀ i, i < (idxB rdE (eventsB dss)).length → 0 ≤ (idxB rdE (eventsB dss)).getD i 0 ∧ (idxB rdE (eventsB dss)).getD i 0 < ((eventsB dss).length : Int) := by
   intro i hi
   have hm : (idxB rdE (eventsB dss)).getD i 0 ∈ idxB rdE (eventsB dss) := by
    rw [List.getD_eq_getElem?_getD, List.getElem?_eq_getElem hi]
    exact List.getElem_mem hi
   refine idxK_lt rdE (eventsB dss) _ _ ?_
   unfold idxB at hm ⊢
   rw [if_pos h12] at hm ⊢
   exact hm
  have fin : ∀ i, i < (idxB rdE (eventsB dss)).length → 0 ≤ f.getD i 0 ∧ f.getD i 0 < ((eventsB dss).length : Int) := fun i hi => (su i hi).1
  have HL : Hid (fwL (eventsB dss) f = fwK (eventsB dss).length (idxB rdE (eventsB dss)) f (idxB rdE (eventsB dss)).length) := Lib.hid rfl
  clear su
  go_enter Try.func19, Try.ntmps19
  go_wp2_with fail
  refine C.mono ?_
  rintro e w1 ⟨rfl, k1⟩
  have s1 := k1.size
  go_wp2_with fail
  refine (implEventsOf_any _ _ _ (h.keep k1) hx hm).mono ?_
  rintro e w2 ⟨v2, rfl, a2, k2⟩
  have s2 := k2.size
  have re := a2.rd
  generalize eventsB dss = es at *
  obtain ⟨ae, ce, rfl, -⟩ := id re
  go_wp2_with fail
  refine (blank_any _ _ h12).mono ?_
  rintro e w3 ⟨rfl, rb, k3⟩
  have s3 := k3.size
  go_wp2_with fail
  refine (implReadsOf_any _ _ _ (re.keep k3) (by omega)).mono ?_
  rintro e w4 ⟨vr, rfl, or4, k4⟩
  have s4 := k4.size
  have hr3 := rb.lt
  generalize idxB rdE es = rs at *
  have hF4 := hf.keep (((k1.trans k2).trans k3).trans k4)
  have hK4 : Keep w w4 := ((k1.trans k2).trans k3).trans k4
  have N2 : vr.ownBlock = none ∨ vr.ownBlock ≠ some w2.heap.size := by
   cases hu : vr.ownBlock with
   | none => exact .inl rfl
   | some k => exact .inr (fun e => by have := or4.ge k hu; have := Option.some.inj e; omega)
  have hFB : 0 < f.length → (vf.ownBlock = none ∨ vf.ownBlock ≠ some w2.heap.size) := by
   intro hpos
   obtain ⟨a, c, rfl, hv⟩ := hf
   rcases hv with hv | ⟨b, o, rfl, hb, _⟩
   ·
    rw [hv] at hpos; simp at hpos
   ·
    exact .inr (by simp [Value.ownBlock]; omega)
  have HFB := Lib.hid hFB
  clear hFB
  have R4 := or4.rd
  have rb4 : RowAt w4 w2.heap.size (fwK es.length rs f 0) := rb.keep k4
  have hb2 : w.heap.size ≤ w2.heap.size := by omega
  obtain ⟨ar, cr, rfl, -⟩ := id R4
  obtain ⟨af, cf, rfl, -⟩ := id hf
  have RIN := Lib.hid rin
  have FIN := Lib.hid fin
  have l1 : rs.length ≤ f.length := by omega
  clear rin fin sl a2 re k1 k2 k3 k4 C h hx hm rb or4 hs hs2 hb hr3 s1 s2 s3 s4 hf
  go_wp2
  go_loopw [22] (fun i wr => ∃ k : Nat, k ≤ rs.length ∧ i = .int .i64 k ∧ RowAt wr w2.heap.size (fwK es.length rs f k) ∧ Rd wr (.slice ar rs.length cr) rs ∧ Keep w wr ∧ Rd wr (.slice af f.length cf) f) (fun i _ => rs.length - (intOf i).toNat)
  case atStart => exact ⟨0, Nat.zero_le _, rfl, rb4, R4, hK4, hF4⟩
  case round =>
   obtain ⟨k, hk, rfl, hr, hR, hK, hF⟩ := hrel
   clear rb4 R4 hK4 hF4
   by_cases hlt : k < rs.length
   ·
    obtain ⟨r, hr0⟩ := Int.eq_ofNat_of_zero_le (RIN.out k hlt).1
    obtain ⟨t, ht0⟩ := Int.eq_ofNat_of_zero_le (FIN.out k hlt).1
    have hte : t < es.length := by have := (FIN.out k hlt).2; omega
    have hW := (fw_line (n := es.length) (rs := rs) (f := f) h12 k (fun i hi => RIN.out i (by omega)) (fun i hi => FIN.out i (by omega))).1
    have hBl : (fwK es.length rs f k).length = es.length := hW.2.1
    have HC : Hid (fwK es.length rs f (k + 1) = (fwK es.length rs f k).set t (gAdd ((fwK es.length rs f k).getD t 0) (r : Int))) := Lib.hid (by
     rw [fwK, ht0, hr0, Int.toNat_natCast])
    obtain ⟨a', c', he', hR'⟩ := id hR
    simp only [Value.slice.injEq, true_and] at he'
    obtain ⟨rfl, rfl⟩ := he'
    rcases hR' with h0 | ⟨br, orr, rfl, hbr, hcr⟩
    ·
     exfalso; rw [h0] at hlt; simp at hlt
    have d3 := hcr k hlt
    rw [hr0] at d3
    obtain ⟨a2, c2, he2, hF'⟩ := id hF
    simp only [Value.slice.injEq, true_and] at he2
    obtain ⟨rfl, rfl⟩ := he2
    rcases hF' with h0 | ⟨bf, off, rfl, hbf, hcf⟩
    ·
     exfalso; rw [h0] at l1; simp only [List.length_nil] at l1; omega
    have d4 := hcf k (by omega)
    rw [ht0] at d4
    clear hcr hcf hr0 ht0 hW
    have i1 : (0 : Int) ≤ (k : Int) := Int.natCast_nonneg _
    have i2 : (k : Int) < (rs.length : Int) := by omega
    have i3 : (k : Int) < (f.length : Int) := by omega
    have CL := line_any wr w2.heap.size es.length es.length (fwK es.length rs f k) t (r : Int) hr hBl hte
    rw [← HC.out] at CL
    clear hBl
    go_wp2_with fail
    refine CL.mono ?_
    rintro e w5 ⟨rfl, hr5, hg5⟩
    have hR5 := hR.keptR hg5 N2
    have hF5 := hF.keptR hg5 (HFB.out (by omega))
    have hK5 : Keep w w5 := hK.grown hg5 (by simp; omega)
    clear CL hR hF hK hr
    go_wp2
    go_roundw
    case rel => exact ⟨k + 1, by omega, by go_num, hr5, hR5, hK5, hF5⟩
    case measure => simp [intOf]; omega
   ·
    obtain rfl : k = rs.length := by omega
    go_wp2
    go_ret
    refine ⟨_, rfl, ?_, hK⟩
    rw [HE.out, HL.out]
    have hW := (fw_line (n := es.length) (rs := rs) (f := f) h12 rs.length (fun i hi => RIN.out i (by omega)) (fun i hi => FIN.out i (by omega))).1
    exact .inr ⟨w2.heap.size, es.length, by rw [hW.2.1]; rfl, hb2, hr⟩
end Go.Proofs.Ytkbkdlaknmgjpaa
