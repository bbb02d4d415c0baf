/-
  DERIVED. GIVEN WITH THE SEED: THE CARDS: each row of YtflehmepjhikcaaDoorRows.lean that lists a variable, with what it lists TIED to the program's text (the seventh form; the later family's looks); each row that meets fmt, with fmt's text TOLD by the authors' own Lean function (tested against real Go, not proved from fmt's source: count such statements apart). THE CARD IS WHAT COUNTS. Prove the row's statement (the work); the ties are given (YtflehmepjhikcaaDoorTie.lean); close each card by the builder's one call (the guide's Derived/Test/ToyasCard.lean, 'card_holds'). Laid BY PROGRAM, IN A SANDBOX (cutbox-door.mjs). By AI agents, Wed Nov 11 2026. No macro, syntax, notation, axiom, sorry.
-/
import Derived.Test.YtflehmepjhikcaaDoorRows
import GoSem.ClaimSeven
namespace Go.Proofs.YtflehmepjhikcaaDoor
namespace Rows

/-- THE TIED CARD OF 'laws.FnAsks'. -/
def fnAsksCard : Claim7 := { stood := { row := fnAsksRow, standIns := [], harness := (true, "43c504520087371bce286e546cab3ff60ebee0599631351e9d9a17ed5ac33bd1"), looks := true }, kinds := [], alts := [], laidByText := true, laidKinds := [.data, .sentinel, .pinned], laidTests := true, laidLooks := .later }
def FnAsksCardSaid : Prop := Claim7.holds Tryd.pinned (.plain (OpenSpec.ofChange fnAsksSpec)) fnAsksCard

/-- THE TIED CARD OF 'laws.FnExactAskOk'. -/
def fnExactAskOkCard : Claim7 := { stood := { row := fnExactAskOkRow, standIns := [], harness := (true, "43c504520087371bce286e546cab3ff60ebee0599631351e9d9a17ed5ac33bd1"), looks := true }, kinds := [], alts := [], laidByText := true, laidKinds := [.sentinel], laidTests := true, laidLooks := .later }
def FnExactAskOkCardSaid : Prop := Claim7.holds Tryd.pinned (.plain (OpenSpec.ofChange fnExactAskOkSpec)) fnExactAskOkCard

/-- THE TIED CARD OF 'laws.FnExactMeets'. -/
def fnExactMeetsCard : Claim7 := { stood := { row := fnExactMeetsRow, standIns := [], harness := (true, "43c504520087371bce286e546cab3ff60ebee0599631351e9d9a17ed5ac33bd1"), looks := true }, kinds := [], alts := [], laidByText := true, laidKinds := [.handle, .sentinel, .sentinel, .sentinel], laidTests := true, laidLooks := .later }
def FnExactMeetsCardSaid : Prop := Claim7.holds Tryd.pinned (.plain (OpenSpec.ofChange fnExactMeetsSpec)) fnExactMeetsCard

/-- THE TIED CARD OF 'laws.FnExactReadAsk'. -/
def fnExactReadAskCard : Claim7 := { stood := { row := fnExactReadAskRow, standIns := [], harness := (true, "43c504520087371bce286e546cab3ff60ebee0599631351e9d9a17ed5ac33bd1"), looks := true }, kinds := [], alts := [], laidByText := true, laidKinds := [.data, .sentinel, .pinned], laidTests := true, laidLooks := .later }
def FnExactReadAskCardSaid : Prop := Claim7.holds Tryd.pinned (.plain (OpenSpec.ofChange fnExactReadAskSpec)) fnExactReadAskCard

/-- THE SECOND FORM's CARD OF 'laws.FnAsks'. -/
def fnAsksUptoCard : Claim7 := { stood := { row := fnAsksUptoRow, standIns := [], harness := (true, "43c504520087371bce286e546cab3ff60ebee0599631351e9d9a17ed5ac33bd1"), looks := true }, kinds := [], alts := [], laidByText := true, laidKinds := [.data, .sentinel, .pinned], laidTests := true, laidLooks := .later }
def FnAsksUptoCardSaid : Prop := Claim7.holds Tryd.pinned (.plain (OpenSpec.upto fnAsksSpec)) fnAsksUptoCard

/-- THE SECOND FORM's CARD OF 'laws.FnExactAskOk'. -/
def fnExactAskOkUptoCard : Claim7 := { stood := { row := fnExactAskOkUptoRow, standIns := [], harness := (true, "43c504520087371bce286e546cab3ff60ebee0599631351e9d9a17ed5ac33bd1"), looks := true }, kinds := [], alts := [], laidByText := true, laidKinds := [.sentinel], laidTests := true, laidLooks := .later }
def FnExactAskOkUptoCardSaid : Prop := Claim7.holds Tryd.pinned (.plain (OpenSpec.upto fnExactAskOkSpec)) fnExactAskOkUptoCard

/-- THE SECOND FORM's CARD OF 'laws.FnExactMeets'. -/
def fnExactMeetsUptoCard : Claim7 := { stood := { row := fnExactMeetsUptoRow, standIns := [], harness := (true, "43c504520087371bce286e546cab3ff60ebee0599631351e9d9a17ed5ac33bd1"), looks := true }, kinds := [], alts := [], laidByText := true, laidKinds := [.handle, .sentinel, .sentinel, .sentinel], laidTests := true, laidLooks := .later }
def FnExactMeetsUptoCardSaid : Prop := Claim7.holds Tryd.pinned (.plain (OpenSpec.upto fnExactMeetsSpec)) fnExactMeetsUptoCard

/-- THE SECOND FORM's CARD OF 'laws.FnExactReadAsk'. -/
def fnExactReadAskUptoCard : Claim7 := { stood := { row := fnExactReadAskUptoRow, standIns := [], harness := (true, "43c504520087371bce286e546cab3ff60ebee0599631351e9d9a17ed5ac33bd1"), looks := true }, kinds := [], alts := [], laidByText := true, laidKinds := [.data, .sentinel, .pinned], laidTests := true, laidLooks := .later }
def FnExactReadAskUptoCardSaid : Prop := Claim7.holds Tryd.pinned (.plain (OpenSpec.upto fnExactReadAskSpec)) fnExactReadAskUptoCard
end Rows
end Go.Proofs.YtflehmepjhikcaaDoor
