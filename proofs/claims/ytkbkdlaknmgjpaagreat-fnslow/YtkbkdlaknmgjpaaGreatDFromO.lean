/- Contract of DrawFromOthers. -/
import Derived.Test.YtkbkdlaknmgjpaaGreatSrcDrawA
namespace Go.Proofs.YtkbkdlaknmgjpaaGreat
open Go.ChangeShapes Go.WideShapes Go.ChangeAt Go.RowKit

theorem drawFromOthers_any (w : World) (a : Option Addr) (cap : Nat) (zs : List Int) (hb : RdB w w.heap.size a zs) :
    Calls Tryz.prog 10 #[.slice a zs.length cap] w fun e w' => ∃ v u dss f, e = .returned (.tuple #[v, u]) ∧ RdW w' v dss ∧ (dss.length ≤ 6 ∧ ∀ i, i < dss.length → (dss.getD i []).length ≤ 7) ∧ Rd w' u f ∧ f.length ≤ 13 ∧ Keep w w' := by
  go_enter Tryz.func10, Tryz.ntmps10
  go_wp2_with fail
  refine (drawSourceOk_any _ a cap zs hb).mono ?_
  rintro e w2 ⟨v, u, dss, f, rfl, hR, hs, hf, hl, K2⟩
  have HR := Lib.hid hR
  have HS := Lib.hid hs
  have HF := Lib.hid hf
  clear hR hs hf
  go_wp2
  go_ret2
  exact ⟨_, _, _, _, rfl, HR.out, HS.out, HF.out, hl, K2⟩
end Go.Proofs.YtkbkdlaknmgjpaaGreat
