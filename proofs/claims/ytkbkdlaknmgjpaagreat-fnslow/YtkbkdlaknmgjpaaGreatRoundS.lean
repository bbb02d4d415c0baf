/- Contracts of the specification's l3Round and Round. -/
import Derived.Test.YtkbkdlaknmgjpaaGreatMF
import Derived.Test.YtkbkdlaknmgjpaaGreatWebOkS
import Derived.Test.YtkbkdlaknmgjpaaGreatMB
namespace Go.Proofs.YtkbkdlaknmgjpaaGreat
open Go.ChangeShapes Go.WideShapes Go.ChangeAt Go.RowKit

theorem specRound_any (w : World) (base : Nat) (v : Value) (zs : List Int) (h : Row w base v zs) (hn : zs.length ≤ 1048576) :
    Calls Tryz.prog 21 #[v] w fun e w' => e = .returned (.bool (roundB zs)) ∧ Keep w w' := by
  cases ht : webB zs
  · go_enter Tryz.func21, Tryz.ntmps21
    go_wp2_with fail
    refine (specWebOk_any _ _ _ h.rd hn).mono ?_
    rintro e w' ⟨rfl, rfl⟩
    go_wp2
    go_ret
    exact ⟨ret_bool (by unfold roundB; rw [ht]; rfl), Keep.refl _⟩
  · have HT : Hid (webB zs = true) := ht
    go_enter Tryz.func21, Tryz.ntmps21
    go_wp2_with fail
    refine (specWebOk_any _ _ _ h.rd hn).mono ?_
    rintro e w' ⟨rfl, rfl⟩
    go_wp2_with fail
    refine (l3Round_any _ _ _ _ h HT.out).mono ?_
    rintro e w2 ⟨rfl, k⟩
    go_wp2
    go_ret
    exact ⟨rfl, k⟩
end Go.Proofs.YtkbkdlaknmgjpaaGreat
