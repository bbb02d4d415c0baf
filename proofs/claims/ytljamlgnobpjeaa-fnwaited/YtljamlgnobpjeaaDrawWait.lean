/- Contract of the draw for Waited. -/
import Derived.Test.YtljamlgnobpjeaaWorkDrawE
namespace Go.Proofs.Ytljamlgnobpjeaa
open Go.ChangeShapes Go.WideShapes Go.ChangeAt Go.RowKit

theorem drawWaited_any (w : World) (a : Option Addr) (cap : Nat) (zs : List Int) (hb : RdB w w.heap.size a zs) :
    Calls Try.prog 7 #[.slice a zs.length cap] w fun e w' => ∃ v dss, e = .returned v ∧ RdW w' v dss ∧ (dss.length ≤ 6 ∧ ∀ i, i < dss.length → (dss.getD i []).length ≤ 7) ∧ Keep w w' := by
  go_enter Try.func7, Try.ntmps7
  go_wp2_with fail
  refine (drawWork_any _ a cap zs hb).mono ?_
  rintro e w2 ⟨v, dss, rfl, hR, hs, K2⟩
  have HR := Lib.hid hR
  have HS := Lib.hid hs
  clear hR hs
  go_wp2
  go_ret
  exact ⟨_, _, rfl, HR.out, HS.out, K2⟩
end Go.Proofs.Ytljamlgnobpjeaa
