/- Contracts of the specification's l9Places. -/
import Derived.Test.YtgolhjmbloiakaaMB
import Derived.Test.YtgolhjmbloiakaaMD
import Derived.Lib.Hide
import Derived.Test.YtgolhjmbloiakaaMA
namespace Go.Proofs.Ytgolhjmbloiakaa
open Go.ChangeShapes Go.WideShapes Go.ChangeAt Go.RowKit

def plcK (es : List Ev) : Nat → List (List Int)
  | 0 => []
  | k + 1 => plcK es k ++ [plcW es k]
theorem plcK_len (es : List Ev) : ∀ k : Nat, (plcK es k).length = k
  | 0 => rfl
  | k + 1 => by rw [plcK, List.length_append, plcK_len es k]; rfl
theorem plcK_get (es : List Ev) (i : Nat) (hi : i < 3) : (plcK es 3).getD i [] = plcW es i := by
  have : i = 0 ∨ i = 1 ∨ i = 2 := by omega
  rcases this with rfl | rfl | rfl <;> rfl
set_option maxRecDepth 100000 in
set_option maxHeartbeats 2000000 in
theorem l9Places_cap (w : World) (v : Value) (es : List Ev) (h : RdE w v es) (hx : es.length ≤ 12) :
    Calls Try.prog 98 #[v] w fun e w' => ∃ v', e = .returned v' ∧ RdLC w' v' (plcK es 3) ∧ Keep w w' := by
  obtain ⟨i0, hi, hz0, hz1, hz2⟩ := info_parts Try.infoL
  have A0 := appL_empty w
  go_enter Try.func98, Try.ntmps98
  go_wp2
  go_loopw [3, 4] (fun x i wr => ∃ k : Nat, ∃ vs : List Value, k ≤ 3 ∧ i = .int .i64 k ∧ AppL wr w.heap.size x vs (plcK es k) ∧ Keep w wr) (fun _ i _ => 3 - (intOf i).toNat)
  case atStart => exact ⟨0, [], Nat.zero_le _, rfl, A0, (Keep.refl w).alloc _⟩
  case round =>
    obtain ⟨k, vs, hk, rfl, hA, hK⟩ := hrel
    clear A0
    by_cases hlt : k < 3
    · have HC : Hid (plcK es (k + 1) = plcK es k ++ [idxB (toE (k : Int)) es]) := Lib.hid rfl
      have hcl := plcK_len es k
      have hE := h.keep hK
      have i1 : (0 : Int) ≤ (k : Int) := Int.natCast_nonneg _
      have i2 : (k : Int) < 3 := by omega
      go_wp2_with fail
      refine (specWritesTo_any _ _ _ _ hE (by omega)).mono ?_
      rintro e w2 ⟨v2, rfl, o2, k2⟩
      obtain ⟨D, hD⟩ : ∃ D, D = plcK es k := ⟨_, rfl⟩
      rw [← hD] at hA HC hcl
      clear hD
      generalize idxB (toE (k : Int)) es = zs at o2 HC
      have hA2 := (hA.keep k2).keep ((Keep.refl w2).alloc (.cells #[v2] 27))
      have hU : Beside (w2.alloc (.cells #[v2] 27)) _ v2 zs := (o2.beside (x := u3) (fun k hk => (hA.lt k hk).2)).keep ((Keep.refl w2).alloc _)
      have hK2 := hK.trans k2
      have hsz := hK2.size
      obtain ⟨a2, c2, hv2, -⟩ := o2.rd
      clear hA o2
      generalize zs.length = nz at hv2
      subst hv2
      go_wp2_with (at_builtin; refine wpList_append_own_at _ rfl _ _ 68 rfl w.heap.size 27 i0 (.slice none 0 0) 1 24 Try.underlying68 hi hz0 hz1 hz2 rfl (by decide) _ _ _ rfl hA2.row ⟨_, 0, none⟩ 1 1 [.slice a2 nz c2] rfl rfl ?c1 ?c2 ?c3 ?c4 ?c5 ?_)
      case c1 => exact new_one _ _ _ rfl
      case c2 => intro u hu; simp at hu; subst hu; rfl
      case c3 => unfold maxLen; omega
      case c4 => omega
      case c5 => first | omega | (simp; omega)
      intro v' w3 hown' hgrow _ hblk
      have hblk' : v'.ownBlock = u3.ownBlock ∨ v'.ownBlock = some (w2.alloc (.cells #[.slice a2 nz c2] 27)).heap.size := by rw [heap_size]; exact hblk
      have hA3 := hA2.push hU (by rw [hcl]; exact hown') hgrow hblk'
      have hK3 : Keep w w3 := (hK2.alloc _).grown hgrow (fun k hk => (hA2.lt k hk).1)
      clear hown' hgrow hblk hblk' hA2 hU
      go_wp2
      go_roundw
      case rel => exact ⟨k + 1, _, by omega, by go_num, by rw [HC.out]; exact hA3, hK3⟩
      case measure => simp [intOf]; omega
    · obtain rfl : k = 3 := by omega
      have HR := Lib.hid hA.rdc
      go_wp2
      go_ret
      exact ⟨_, rfl, HR.out, hK⟩
theorem l9Places_any (w : World) (v : Value) (es : List Ev) (h : RdE w v es) (hx : es.length ≤ 12) :
    Calls Try.prog 98 #[v] w fun e w' => ∃ v', e = .returned v' ∧ RdL w' v' (plcK es 3) ∧ Keep w w' :=
  (l9Places_cap w v es h hx).mono fun _ _ ⟨v', h1, h2, h3⟩ => ⟨v', h1, h2.rd, h3⟩
end Go.Proofs.Ytgolhjmbloiakaa
