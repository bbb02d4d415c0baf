/-
  DERIVED. GIVEN WITH THE SEED: THE CARDS: each row of YtljamlgnobpjeaaDoorRows.lean that lists a variable, with what it lists TIED to the program's text (the seventh form; the later family's looks); each row that meets fmt, with fmt's text TOLD by the authors' own Lean function (tested against real Go, not proved from fmt's source: count such statements apart). THE CARD IS WHAT COUNTS. Prove the row's statement (the work); the ties are given (YtljamlgnobpjeaaDoorTie.lean); close each card by the builder's one call (the guide's Derived/Test/ToyasCard.lean, 'card_holds'). Laid BY PROGRAM, IN A SANDBOX (cutbox-door.mjs). By AI agents, Wed Nov 11 2026. No macro, syntax, notation, axiom, sorry.
-/
import Derived.Test.YtljamlgnobpjeaaDoorRows
import GoSem.ClaimSeven
namespace Go.Proofs.YtljamlgnobpjeaaDoor
namespace Rows

/-- THE TIED CARD OF 'laws.FnExactShowWork'. -/
def fnExactShowWorkCard : Claim7 := { stood := { row := fnExactShowWorkRow, standIns := [], harness := (true, "faf05f6d2d9b1b0b7b95c76ba2ae70d2d2a5a874ae84e3076c66c3e2180d295b"), looks := true }, kinds := [], alts := [], laidByText := true, laidKinds := [.data, .data, .data], laidTests := true, laidLooks := .later }
def FnExactShowWorkCardSaid : Prop := Claim7.holds Tryd.pinned (.plain (OpenSpec.ofChange fnExactShowWorkSpec)) fnExactShowWorkCard

/-- THE TIED CARD OF 'laws.FnExactReadWork'. -/
def fnExactReadWorkCard : Claim7 := { stood := { row := fnExactReadWorkRow, standIns := [], harness := (true, "faf05f6d2d9b1b0b7b95c76ba2ae70d2d2a5a874ae84e3076c66c3e2180d295b"), looks := true }, kinds := [], alts := [], laidByText := true, laidKinds := [.data, .data, .data, .data, .sentinel, .sentinel, .pinned], laidTests := true, laidLooks := .later }
def FnExactReadWorkCardSaid : Prop := Claim7.holds Tryd.pinned (.plain (OpenSpec.ofChange fnExactReadWorkSpec)) fnExactReadWorkCard

/-- THE SECOND FORM's CARD OF 'laws.FnExactShowWork'. -/
def fnExactShowWorkUptoCard : Claim7 := { stood := { row := fnExactShowWorkUptoRow, standIns := [], harness := (true, "faf05f6d2d9b1b0b7b95c76ba2ae70d2d2a5a874ae84e3076c66c3e2180d295b"), looks := true }, kinds := [], alts := [], laidByText := true, laidKinds := [.data, .data, .data], laidTests := true, laidLooks := .later }
def FnExactShowWorkUptoCardSaid : Prop := Claim7.holds Tryd.pinned (.plain (OpenSpec.upto fnExactShowWorkSpec)) fnExactShowWorkUptoCard

/-- THE SECOND FORM's CARD OF 'laws.FnExactReadWork'. -/
def fnExactReadWorkUptoCard : Claim7 := { stood := { row := fnExactReadWorkUptoRow, standIns := [], harness := (true, "faf05f6d2d9b1b0b7b95c76ba2ae70d2d2a5a874ae84e3076c66c3e2180d295b"), looks := true }, kinds := [], alts := [], laidByText := true, laidKinds := [.data, .data, .data, .data, .sentinel, .sentinel, .pinned], laidTests := true, laidLooks := .later }
def FnExactReadWorkUptoCardSaid : Prop := Claim7.holds Tryd.pinned (.plain (OpenSpec.upto fnExactReadWorkSpec)) fnExactReadWorkUptoCard
end Rows
end Go.Proofs.YtljamlgnobpjeaaDoor
