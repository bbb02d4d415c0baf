/-
  DERIVED. GIVEN WITH THE SEED: THE CARDS: each row of YtflehmepjhikcaaGreatDoorRows.lean that lists a variable, with what it lists TIED to the program's text (the seventh form; the later family's looks); each row that meets fmt, with fmt's text TOLD by the authors' own Lean function (tested against real Go, not proved from fmt's source: count such statements apart). THE CARD IS WHAT COUNTS. Prove the row's statement (the work); the ties are given (YtflehmepjhikcaaGreatDoorTie.lean); close each card by the builder's one call (the guide's Derived/Test/ToyasCard.lean, 'card_holds'). Laid BY PROGRAM, IN A SANDBOX (cutbox-door.mjs). By AI agents, Wed Nov 11 2026. No macro, syntax, notation, axiom, sorry.
-/
import Derived.Test.YtflehmepjhikcaaGreatDoorRows
import GoSem.ClaimSeven
namespace Go.Proofs.YtflehmepjhikcaaGreatDoor
namespace Rows

/-- THE TIED CARD OF 'laws.FnJudged'. -/
def fnJudgedCard : Claim7 := { stood := { row := fnJudgedRow, standIns := [], harness := (true, "6292a260b34e5406c57cfb3370b13a8bdeff023c87927d0bc6208dd1b4a93b41"), looks := true }, kinds := [], alts := [], laidByText := true, laidKinds := [.handle, .sentinel, .sentinel, .sentinel], laidTests := true, laidLooks := .later }
def FnJudgedCardSaid : Prop := Claim7.holds Tryz.pinned (.plain (OpenSpec.ofChange fnJudgedSpec)) fnJudgedCard

/-- THE TIED CARD OF 'laws.FnExactJudged'. -/
def fnExactJudgedCard : Claim7 := { stood := { row := fnExactJudgedRow, standIns := [], harness := (true, "6292a260b34e5406c57cfb3370b13a8bdeff023c87927d0bc6208dd1b4a93b41"), looks := true }, kinds := [], alts := [], laidByText := true, laidKinds := [.handle, .sentinel, .sentinel, .sentinel], laidTests := true, laidLooks := .later }
def FnExactJudgedCardSaid : Prop := Claim7.holds Tryz.pinned (.plain (OpenSpec.ofChange fnExactJudgedSpec)) fnExactJudgedCard

/-- THE SECOND FORM's CARD OF 'laws.FnJudged'. -/
def fnJudgedUptoCard : Claim7 := { stood := { row := fnJudgedUptoRow, standIns := [], harness := (true, "6292a260b34e5406c57cfb3370b13a8bdeff023c87927d0bc6208dd1b4a93b41"), looks := true }, kinds := [], alts := [], laidByText := true, laidKinds := [.handle, .sentinel, .sentinel, .sentinel], laidTests := true, laidLooks := .later }
def FnJudgedUptoCardSaid : Prop := Claim7.holds Tryz.pinned (.plain (OpenSpec.upto fnJudgedSpec)) fnJudgedUptoCard

/-- THE SECOND FORM's CARD OF 'laws.FnExactJudged'. -/
def fnExactJudgedUptoCard : Claim7 := { stood := { row := fnExactJudgedUptoRow, standIns := [], harness := (true, "6292a260b34e5406c57cfb3370b13a8bdeff023c87927d0bc6208dd1b4a93b41"), looks := true }, kinds := [], alts := [], laidByText := true, laidKinds := [.handle, .sentinel, .sentinel, .sentinel], laidTests := true, laidLooks := .later }
def FnExactJudgedUptoCardSaid : Prop := Claim7.holds Tryz.pinned (.plain (OpenSpec.upto fnExactJudgedSpec)) fnExactJudgedUptoCard
end Rows
end Go.Proofs.YtflehmepjhikcaaGreatDoor
