/- Contracts of what the laws on works draw: some list of lists of deeds, in new memory. -/
import Derived.Test.YtabafnfadophhaaWorkDrawD
namespace Go.Proofs.Ytabafnfadophhaa
open Go.ChangeShapes Go.WideShapes Go.ChangeAt Go.RowKit

theorem Dr.newE {w W wr : World} {B c : Nat} (h : Dr W wr B c) (k : Keep w W) (hc : w.heap.size ≤ c) : Keep w wr := k.grown h.2 (fun j hj => by simp at hj; omega)
theorem drawWork_any (w : World) (a : Option Addr) (cap : Nat) (zs : List Int) (hb : RdB w w.heap.size a zs) :
    Calls Try.prog 38 #[.slice a zs.length cap] w fun e w' => ∃ v dss, e = .returned v ∧ RdW w' v dss ∧ (dss.length ≤ 6 ∧ ∀ i, i < dss.length → (dss.getD i []).length ≤ 7) ∧ Keep w w' := by
  go_enter Try.func38, Try.ntmps38
  go_wp2_with fail
  refine (new_any _ a cap zs hb).mono ?_
  rintro e w1 ⟨rfl, c1, k1⟩
  go_wp2_with fail
  refine (l5DrawAny_any _ _ _ c1).mono ?_
  rintro e w2 ⟨v, dss, rfl, hR, hs, D2⟩
  have K2 := D2.newE k1 (Nat.le_refl _)
  have HR := Lib.hid hR
  have HS := Lib.hid hs
  clear hR hs D2
  go_wp2
  go_ret
  exact ⟨_, _, rfl, HR.out, HS.out, K2⟩
end Go.Proofs.Ytabafnfadophhaa
