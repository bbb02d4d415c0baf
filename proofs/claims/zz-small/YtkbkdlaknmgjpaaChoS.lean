/- Contracts of the specification's l8Is and l8Choices. -/
import Derived.Test.YtkbkdlaknmgjpaaMC
import Derived.Test.YtkbkdlaknmgjpaaNewOne
import Derived.Lib.Hide
import Derived.Test.YtkbkdlaknmgjpaaMB
import Derived.Test.YtkbkdlaknmgjpaaMA
import Derived.Test.YtkbkdlaknmgjpaaReadsOfS
import Derived.Test.YtkbkdlaknmgjpaaWritesToS
namespace Go.Proofs.Ytkbkdlaknmgjpaa
open Go.ChangeShapes Go.WideShapes Go.ChangeAt Go.RowKit
set_option maxRecDepth 100000 in
set_option maxHeartbeats 2000000 in
theorem l8Choices_any (w : World) (v : Value) (es : List Ev) (h : RdE w v es) (hx : es.length ≤ 12) :
  Calls Try.prog 29 #[v] w fun e w' => ∃ v', e = .returned v' ∧ RdL w' v' (chcL es) ∧ Keep w w' := by
 obtain ⟨i0, hi, hz0, hz1, hz2⟩ := info_parts Try.infoL
 have A0 := appL_empty w
 have rl : (idxB rdE es).length ≤ 12 := by
  unfold idxB
  rw [if_pos hx]
  have := idxK_len rdE es es.length
  omega
 have rin : ∀ i, i < (idxB rdE es).length → 0 ≤ (idxB rdE es).getD i 0 ∧ (idxB rdE es).getD i 0 < (es.length : Int) := by
  intro i hi
  have hm : (idxB rdE es).getD i 0 ∈ idxB rdE es := by
   rw [List.getD_eq_getElem?_getD, List.getElem?_eq_getElem hi]
   exact List.getElem_mem hi
  refine idxK_lt rdE es _ _ ?_
  unfold idxB at hm ⊢
  rw [if_pos hx] at hm ⊢
  exact hm
 have HL : Hid (chcL es = chcK es (idxB rdE es) (idxB rdE es).length) := Lib.hid rfl
 go_enter Try.func29, Try.ntmps29
 go_wp2_with fail
 refine (specReadsOf_any _ _ _ (h.keep ((Keep.refl w).alloc _)) (by omega)).mono ?_
 rintro e w1 ⟨vr, rfl, or1, k1⟩
 generalize idxB rdE es = rs at rl rin HL or1
 have A1 := A0.keep k1
 have K1 : Keep w w1 := ((Keep.refl w).alloc _).trans k1
 have R1 : Beside w1 (.slice (some ⟨w.heap.size, 0, none⟩) 0 0) vr rs := or1.beside (fun k hk => by rw [heap_size]; simp [Value.ownBlock] at hk; omega)
 have RIN := Lib.hid rin
 obtain ⟨ar, cr, rfl, -⟩ := R1.rd
 clear A0 k1 or1 rin
 go_wp2
 go_loopw [3, 5] (fun x i wr => ∃ k : Nat, ∃ vs : List Value, k ≤ rs.length ∧ i = .int .i64 k ∧ AppL wr w.heap.size x vs (chcK es rs k) ∧ Beside wr x (.slice ar rs.length cr) rs ∧ Keep w wr) (fun _ i _ => rs.length - (intOf i).toNat)
 case atStart => exact ⟨0, [], Nat.zero_le _, rfl, A1, R1, K1⟩
 case round =>
  obtain ⟨k, vs, hk, rfl, hA, hB, hK⟩ := hrel
  clear A1 R1 K1
  by_cases hlt : k < rs.length
  ·
   have hr := RIN.out k hlt
   obtain ⟨r, hr'⟩ := Int.eq_ofNat_of_zero_le hr.1
   have hre : r < es.length := by omega
   have hRd := hB.rd
   obtain ⟨a', c', he', hRd⟩ := hRd
   simp only [Value.slice.injEq, true_and] at he'
   obtain ⟨rfl, rfl⟩ := he'
   rcases hRd with h0 | ⟨br, or', rfl, hbr, hcr⟩
   ·
    exfalso; rw [h0] at hlt; simp at hlt
   have d1 := hcr k hlt
   rw [hr'] at d1
   have HC : Hid (chcK es rs (k + 1) = chcK es rs k ++ [idxB (toE (plE es (r : Int))) es]) := Lib.hid (by rw [chcK, hr'])
   have HP : Hid (plE es (r : Int) = (es.getD r zE).2.2.2.1) := Lib.hid (by unfold plE; rw [Int.toNat_natCast])
   clear hr hr' hcr
   have hE := h.keep hK
   obtain ⟨ae, ce, rfl, h2⟩ := id hE
   rcases h2 with h0 | ⟨be, oe, rfl, hbe, hce⟩
   ·
    exfalso; rw [h0] at hre; simp at hre
   have AT := hce r _ (evs_get hre)
   clear hce
   generalize es.getD r zE = e at AT HP
   obtain ⟨x0, x1, x2, x3, x4, x5⟩ := e
   obtain ⟨-, -, -, q3, -, -⟩ := atE AT
   clear AT
   simp only at HP
   rw [HP.out] at HC
   clear HP
   have i1 : (0 : Int) ≤ (k : Int) := Int.natCast_nonneg _
   have i2 : (k : Int) < (rs.length : Int) := by omega
   have j1 : (0 : Int) ≤ (r : Int) := Int.natCast_nonneg _
   have j2 : (r : Int) < (es.length : Int) := by omega
   have hcl := chcK_len es rs k
   go_wp2_with fail
   refine (specWritesTo_any _ _ _ _ hE (by omega)).mono ?_
   rintro e w2 ⟨v2, rfl, o2, k2⟩
   obtain ⟨D, hD⟩ : ∃ D, D = chcK es rs k := ⟨_, rfl⟩
   rw [← hD] at hA HC hcl
   clear hD
   generalize idxB (toE x3) es = zs at o2 HC
   have hA2 := (hA.keep k2).keep ((Keep.refl w2).alloc (.cells #[v2] 23))
   have hB2 := (hB.keep k2).keep ((Keep.refl w2).alloc (.cells #[v2] 23))
   have hU : Beside (w2.alloc (.cells #[v2] 23)) _ v2 zs := (o2.beside (x := u3) (fun k hk => (hA.lt k hk).2)).keep ((Keep.refl w2).alloc _)
   have hK2 := hK.trans k2
   have hsz := hK2.size
   obtain ⟨a2, c2, hv2, -⟩ := o2.rd
   clear hA hB o2
   generalize zs.length = nz at hv2
   subst hv2
   go_wp2_with (at_builtin; refine wpList_append_own_at _ rfl _ _ 57 rfl w.heap.size 23 i0 (.slice none 0 0) 1 24 Try.underlying57 hi hz0 hz1 hz2 rfl (by decide) _ _ _ rfl hA2.row ⟨_, 0, none⟩ 1 1 [.slice a2 nz c2] rfl rfl ?c1 ?c2 ?c3 ?c4 ?c5 ?_)
   case c1 => exact new_one _ _ _ rfl
   case c2 => intro u hu; simp at hu; subst hu; rfl
   case c3 => unfold maxLen; omega
   case c4 => omega
   case c5 => first | omega | (simp; omega)
   intro v' w3 hown' hgrow _ hblk
   have hblk' : v'.ownBlock = u3.ownBlock ∨ v'.ownBlock = some (w2.alloc (.cells #[.slice a2 nz c2] 23)).heap.size := by rw [heap_size]; exact hblk
   have hA3 := hA2.push hU (by rw [hcl]; exact hown') hgrow hblk'
   have hB3 := hB2.grow hgrow hblk'
   have hK3 : Keep w w3 := (hK2.alloc _).grown hgrow (fun k hk => (hA2.lt k hk).1)
   clear hown' hgrow hblk hblk' hA2 hB2 hU
   go_wp2
   go_roundw
   case rel => exact ⟨k + 1, _, by omega, by go_num, by rw [HC.out]; exact hA3, hB3, hK3⟩
   case measure => simp [intOf]; omega
  ·
   obtain rfl : k = rs.length := by omega
   have HR := Lib.hid hA.rd
   go_wp2
   go_ret
   exact ⟨_, rfl, by rw [HL.out]; exact HR.out, hK⟩
end Go.Proofs.Ytkbkdlaknmgjpaa
