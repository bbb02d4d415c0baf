/- Contract of the specification's l8Web: from each write to its read. -/
import Derived.Test.YtkbkdlaknmgjpaaMB
import Derived.Test.YtkbkdlaknmgjpaaMA
import Derived.Test.YtkbkdlaknmgjpaaReadsOfS
import Derived.BigRegion
import Derived.Lib.Hide
namespace Go.Proofs.Ytkbkdlaknmgjpaa
open Go.ChangeShapes Go.WideShapes Go.ChangeAt Go.RowKit
theorem made_nil (n : Nat) : (madeCells (Value.int .i64 0).cells (n * 1)).toList = ((List.replicate n (0 : Int)).map (Value.int .i64)) := by
 rw [Nat.mul_one, List.map_replicate]
 exact toList_madeCells_one _ _
set_option maxRecDepth 100000 in
set_option maxHeartbeats 4000000 in
theorem l8Web_any (w : World) (v vf : Value) (es : List Ev) (f : List Int) (h : RdE w v es) (hv : Rd w vf f) (hn : es.length ≤ 12) (hl : (idxB rdE es).length ≤ f.length) (hb : ∀ i, i < (idxB rdE es).length → 0 ≤ f.getD i 0 ∧ f.getD i 0 < (es.length : Int)) :
  Calls Try.prog 31 #[v, vf] w fun e w' => ∃ v', e = .returned v' ∧ Row w' w.heap.size v' (fwL es f) ∧ Keep w w' := by
 have hE := h
 obtain ⟨a, c, rfl, h⟩ := h
 obtain ⟨i0, hi, hz0, hz1, hz2⟩ := info_parts Try.infoI
 have rl : (idxB rdE es).length ≤ 12 := by
  unfold idxB
  rw [if_pos hn]
  have := idxK_len rdE es es.length
  omega
 have rin : ∀ i, i < (idxB rdE es).length → 0 ≤ (idxB rdE es).getD i 0 ∧ (idxB rdE es).getD i 0 < (es.length : Int) := by
  intro i hi
  have hm : (idxB rdE es).getD i 0 ∈ idxB rdE es := by
   rw [List.getD_eq_getElem?_getD, List.getElem?_eq_getElem hi]
   exact List.getElem_mem hi
  refine idxK_lt rdE es _ _ ?_
  unfold idxB at hm ⊢
  rw [if_pos hn] at hm ⊢
  exact hm
 have HL : Hid (fwL es f = fwK es.length (idxB rdE es) f (idxB rdE es).length) := Lib.hid rfl
 go_enter Try.func31, Try.ntmps31
 go_wp2_with (at_make; refine wpList_make_full _ rfl _ _ 23 rfl w.heap.size 2 i0 (.int .i64 0) 1 Try.underlying23 hi hz0 hz1 .i64 .i64 _ _ es.length rfl rfl rfl rfl (by rw [hz2]; omega) (by unfold maxLen; omega) (Nat.le_refl _) ?_; intro w1 hown hgrow)
 rw [made_nil] at hown
 have k1 : Keep w w1 := (Keep.refl w).grown hgrow (by simp)
 have rb : RowAt w1 w.heap.size (fwK es.length (idxB rdE es) f 0) := by
  have o : Own w1 w.heap.size (.slice (some ⟨w.heap.size, 0, none⟩) es.length es.length) (List.replicate es.length 0) := by
   unfold Own; simpa using hown
  rcases o.row with ⟨e, _⟩ | ⟨g, cap, e, _, hr⟩
  ·
   cases e
  ·
   have e1 := congrArg Value.ownBlock e
   simp [Value.ownBlock] at e1
   rw [e1]; exact hr
 clear hgrow hown hi hz0 hz1 hz2
 have hlt1 := rb.lt
 refine (specReadsOf_any _ _ _ (hE.keep k1) (by omega)).mono ?_
 rintro e w2 ⟨vr, rfl, or2, k2⟩
 generalize idxB rdE es = rs at rl rin HL or2 hl hb rb
 have R2 : Rd w2 vr rs := or2.rd
 have N2 : vr.ownBlock = none ∨ vr.ownBlock ≠ some w.heap.size := by
  cases hu : vr.ownBlock with
  | none => exact .inl rfl
  | some k => exact .inr (fun e => by have := or2.ge k hu; have := Option.some.inj e; omega)
 have rb2 := rb.keep k2
 have K2 := k1.trans k2
 have RIN := Lib.hid rin
 have HB := Lib.hid hb
 obtain ⟨ar, cr, rfl, -⟩ := id R2
 obtain ⟨af, cf, rfl, -⟩ := id hv
 clear rb k1 k2 or2 rin hb hlt1
 go_wp2
 go_loopw [7] (fun i wr => ∃ k : Nat, k ≤ rs.length ∧ i = .int .i64 k ∧ RowAt wr w.heap.size (fwK es.length rs f k) ∧ Rd wr (.slice ar rs.length cr) rs ∧ Keep w wr) (fun i _ => rs.length - (intOf i).toNat)
 case atStart => exact ⟨0, Nat.zero_le _, rfl, rb2, R2, K2⟩
 case round =>
  obtain ⟨k, hk, rfl, hr, hR, hK⟩ := hrel
  clear rb2 R2 K2
  by_cases hlt : k < rs.length
  ·
   obtain ⟨r, hr0⟩ := Int.eq_ofNat_of_zero_le (RIN.out k hlt).1
   obtain ⟨t, ht0⟩ := Int.eq_ofNat_of_zero_le (HB.out k hlt).1
   have hre : r < es.length := by have := (RIN.out k hlt).2; omega
   have hte : t < es.length := by have := (HB.out k hlt).2; omega
   have hW := (fw_line (n := es.length) (rs := rs) (f := f) hn k (fun i hi => RIN.out i (by omega)) (fun i hi => HB.out i (by omega))).1
   have hrg := okB_range (hW.2.2 t hte)
   have hBl : t < (fwK es.length rs f k).length := by rw [hW.2.1]; exact hte
   have HC : Hid (fwK es.length rs f (k + 1) = (fwK es.length rs f k).set t (bits .or .i64 ((fwK es.length rs f k).getD t 0) (wrap64 (2 ^ (r : Int).toNat)))) := Lib.hid (by
    rw [fwK, ht0, hr0, Int.toNat_natCast, gAdd_ok _ _ hrg.1 (by unfold inB; simp; omega)])
   have d1 := hr.cell (j := t) hBl
   have d2 := hr.free t
   have hR' := hR
   obtain ⟨a', c', he', hR'⟩ := hR'
   simp only [Value.slice.injEq, true_and] at he'
   obtain ⟨rfl, rfl⟩ := he'
   rcases hR' with h0 | ⟨br, orr, rfl, hbr, hcr⟩
   ·
    exfalso; rw [h0] at hlt; simp at hlt
   have d3 := hcr k hlt
   rw [hr0] at d3
   have hF := hv.keep hK
   obtain ⟨a2, c2, he2, hF'⟩ := hF
   simp only [Value.slice.injEq, true_and] at he2
   obtain ⟨rfl, rfl⟩ := he2
   rcases hF' with h0 | ⟨bf, off, rfl, hbf, hcf⟩
   ·
    exfalso; rw [h0] at hl; simp only [List.length_nil] at hl; omega
   have d4 := hcf k (by omega)
   rw [ht0] at d4
   clear hcr hcf hr0 ht0 hW hBl
   obtain ⟨S, hS⟩ : ∃ S, S = fwK es.length rs f k := ⟨_, rfl⟩
   rw [← hS] at d1 hr HC hrg
   clear hS
   obtain ⟨x, hx⟩ : ∃ x, x = S.getD t 0 := ⟨_, rfl⟩
   rw [← hx] at d1 HC hrg
   clear hx
   have i1 : (0 : Int) ≤ (k : Int) := Int.natCast_nonneg _
   have i2 : (k : Int) < (rs.length : Int) := by omega
   have i3 : (k : Int) < (f.length : Int) := by omega
   have j1 : (0 : Int) ≤ (r : Int) := Int.natCast_nonneg _
   have j2 : (r : Int) < (es.length : Int) := by omega
   have j3 : (0 : Int) ≤ (t : Int) := Int.natCast_nonneg _
   have j4 : (t : Int) < (es.length : Int) := by omega
   have j5 : (es.length : Int) ≤ 12 := by omega
   go_wp2
   go_region
   all_goals
    go_wp2
    go_roundw
    case rel =>
     refine ⟨k + 1, by omega, by go_num, ?_, ?_, ?_⟩
     ·
      rw [HC.out]; exact hr.drew.set t _
     ·
      exact (hR.keptR (grown_drew wr (some w.heap.size)) N2).keptR (grown_set _ w.heap.size t _) N2
     ·
      exact (hK.drew).grown (grown_set _ w.heap.size t _) (by simp)
    case measure => simp [intOf]; omega
  ·
   obtain rfl : k = rs.length := by omega
   go_wp2
   go_ret
   refine ⟨_, rfl, ?_, hK⟩
   rw [HL.out]
   have hW := (fw_line (n := es.length) (rs := rs) (f := f) hn rs.length (fun i hi => RIN.out i (by omega)) (fun i hi => HB.out i (by omega))).1
   exact .inr ⟨w.heap.size, es.length, by rw [hW.2.1]; rfl, Nat.le_refl _, hr⟩
end Go.Proofs.Ytkbkdlaknmgjpaa
