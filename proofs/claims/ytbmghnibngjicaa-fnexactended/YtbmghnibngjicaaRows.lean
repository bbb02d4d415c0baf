/-
  No cell of these rows narrows 'for every input' (looked for: loops, veiled, ifaces, maps, wideKeys, modest, calm, conditions, laid).
  DERIVED. THE GIVEN ROWS OF THIS SEAT. 5 by the template 'for every input the law returns true; each argument reads behind the call as it read before'; 0 by the template 'total and deterministic' (their statements: YtbmghnibngjicaaTotals.lean).
  GIVEN WITH THE SEED: the statements are not yours to turn. If you find one false, say at which input.
  Laid BY PROGRAM, IN A SANDBOX (cutbox-rows.mjs): the forced cells as the released guide's own fill.sh prints them over the translation c644acdf7361fcea… (all of the seat's roots in one cut). By AI agents, Wed Nov 11 2026. No macro, syntax, notation, axiom, sorry.
-/
import Derived.Test.YtbmghnibngjicaaChecked
import GoSem.Claim
import GoSem.ClaimJoined
import GoSem.ClaimMapViews
import Derived.JoinedTies
import Derived.KernelRfl
namespace Go.Proofs.Ytbmghnibngjicaa
/- THE CELL 'sum', in the pinned program and in every row, IS THE sha256 OF THE DUMP (.gsa) THAT YtbmghnibngjicaaProg.lean LOADS. Nothing in Lean hashes anything: it is a label: what it is worth is what the hold of that sum in a sandbox is worth. -/
noncomputable def Try.pinned : Pinned := { name := "ytbmghnibngjicaa", sum := "c644acdf7361fcea43507b982751cf137829ddb696ac5a1e4d9755bc1c7501fa", checked := Try.checked }
namespace Rows
def none {H : Type} : Left H := { results := [], args := [] }

/-- 'laws.FnExactBoardOk': WHATEVER THE INPUT: true; the input reads as it did. -/
def fnExactBoardOkSpec : ChangeSpec := { name := "fnExactBoardOk", fn := fun _ => fun
  | [d] => { results := [.lit (.bool true)], args := [d] }
  | _ => none }
def fnExactBoardOkRow : OpenClaim := { program := "ytbmghnibngjicaa", sum := "c644acdf7361fcea43507b982751cf137829ddb696ac5a1e4d9755bc1c7501fa", func := "loop.example/g00411/laws.FnExactBoardOk", spec := "fnExactBoardOk", unfollowed := true, recurses := true, apart := false }
def FnExactBoardOkSaid : Prop := fnExactBoardOkRow.holds Try.pinned (OpenSpec.ofChange fnExactBoardOkSpec)

/-- ITS FALSE NEIGHBOUR: 'it returns false'. Refute it at one input. -/
def fnExactBoardOkWrong : ChangeSpec := { name := "fnExactBoardOk", fn := fun _ => fun
  | [d] => { results := [.lit (.bool false)], args := [d] }
  | _ => none }
def FnExactBoardOkWrongFalsely : Prop := fnExactBoardOkRow.holds Try.pinned (OpenSpec.ofChange fnExactBoardOkWrong)

/-- 'laws.FnExactNewBoard': WHATEVER THE INPUT: true; the input reads as it did. -/
def fnExactNewBoardSpec : ChangeSpec := { name := "fnExactNewBoard", fn := fun _ => fun
  | [d] => { results := [.lit (.bool true)], args := [d] }
  | _ => none }
def fnExactNewBoardRow : OpenClaim := { program := "ytbmghnibngjicaa", sum := "c644acdf7361fcea43507b982751cf137829ddb696ac5a1e4d9755bc1c7501fa", func := "loop.example/g00411/laws.FnExactNewBoard", spec := "fnExactNewBoard", unfollowed := true, recurses := true, apart := false }
def FnExactNewBoardSaid : Prop := fnExactNewBoardRow.holds Try.pinned (OpenSpec.ofChange fnExactNewBoardSpec)

/-- ITS FALSE NEIGHBOUR: 'it returns false'. Refute it at one input. -/
def fnExactNewBoardWrong : ChangeSpec := { name := "fnExactNewBoard", fn := fun _ => fun
  | [d] => { results := [.lit (.bool false)], args := [d] }
  | _ => none }
def FnExactNewBoardWrongFalsely : Prop := fnExactNewBoardRow.holds Try.pinned (OpenSpec.ofChange fnExactNewBoardWrong)

/-- 'laws.FnExactReading': WHATEVER THE INPUT: true; the input reads as it did. -/
def fnExactReadingSpec : ChangeSpec := { name := "fnExactReading", fn := fun _ => fun
  | [d1, d2, d3] => { results := [.lit (.bool true)], args := [d1, d2, d3] }
  | _ => none }
def fnExactReadingRow : OpenClaim := { program := "ytbmghnibngjicaa", sum := "c644acdf7361fcea43507b982751cf137829ddb696ac5a1e4d9755bc1c7501fa", func := "loop.example/g00411/laws.FnExactReading", spec := "fnExactReading", unfollowed := true, recurses := true, apart := false }
def FnExactReadingSaid : Prop := fnExactReadingRow.holds Try.pinned (OpenSpec.ofChange fnExactReadingSpec)

/-- ITS FALSE NEIGHBOUR: 'it returns false'. Refute it at one input. -/
def fnExactReadingWrong : ChangeSpec := { name := "fnExactReading", fn := fun _ => fun
  | [d1, d2, d3] => { results := [.lit (.bool false)], args := [d1, d2, d3] }
  | _ => none }
def FnExactReadingWrongFalsely : Prop := fnExactReadingRow.holds Try.pinned (OpenSpec.ofChange fnExactReadingWrong)

/-- 'laws.FnExactEnded': WHATEVER THE INPUT: true; the input reads as it did. -/
def fnExactEndedSpec : ChangeSpec := { name := "fnExactEnded", fn := fun _ => fun
  | [d] => { results := [.lit (.bool true)], args := [d] }
  | _ => none }
def fnExactEndedRow : OpenClaim := { program := "ytbmghnibngjicaa", sum := "c644acdf7361fcea43507b982751cf137829ddb696ac5a1e4d9755bc1c7501fa", func := "loop.example/g00411/laws.FnExactEnded", spec := "fnExactEnded", unfollowed := true, recurses := true, apart := false }
def FnExactEndedSaid : Prop := fnExactEndedRow.holds Try.pinned (OpenSpec.ofChange fnExactEndedSpec)

/-- ITS FALSE NEIGHBOUR: 'it returns false'. Refute it at one input. -/
def fnExactEndedWrong : ChangeSpec := { name := "fnExactEnded", fn := fun _ => fun
  | [d] => { results := [.lit (.bool false)], args := [d] }
  | _ => none }
def FnExactEndedWrongFalsely : Prop := fnExactEndedRow.holds Try.pinned (OpenSpec.ofChange fnExactEndedWrong)

/-- 'laws.FnExactShownBoard': WHATEVER THE INPUT: true; the input reads as it did. -/
def fnExactShownBoardSpec : ChangeSpec := { name := "fnExactShownBoard", fn := fun _ => fun
  | [d] => { results := [.lit (.bool true)], args := [d] }
  | _ => none }
def fnExactShownBoardRow : OpenClaim := { program := "ytbmghnibngjicaa", sum := "c644acdf7361fcea43507b982751cf137829ddb696ac5a1e4d9755bc1c7501fa", func := "loop.example/g00411/laws.FnExactShownBoard", spec := "fnExactShownBoard", unfollowed := true, recurses := true, apart := false }
def FnExactShownBoardSaid : Prop := fnExactShownBoardRow.holds Try.pinned (OpenSpec.ofChange fnExactShownBoardSpec)

/-- ITS FALSE NEIGHBOUR: 'it returns false'. Refute it at one input. -/
def fnExactShownBoardWrong : ChangeSpec := { name := "fnExactShownBoard", fn := fun _ => fun
  | [d] => { results := [.lit (.bool false)], args := [d] }
  | _ => none }
def FnExactShownBoardWrongFalsely : Prop := fnExactShownBoardRow.holds Try.pinned (OpenSpec.ofChange fnExactShownBoardWrong)

/- THE SECOND FORM. 'bulk': how many values and letters a reading holds, each counted each time it is reached (what is shared counts as often as it is met; a slice's spare places count too). A statement '..UptoSaid' is the law's where the arguments, and the package variables that the reading takes, are together of bulk at most 1048576: NARROWER than '..Said'. Prove '..Said' where nothing that the law and all that it calls make is longer than what came in: it says more and counts as full. Else prove '..UptoSaid'. A law counts once. -/
mutual
def uptoBulk {H : Type} : DataW H → Nat
  | .lit (.string bytes) => bytes.length + 1
  | .lit _ => 1
  | .nil => 1
  | .ptr d => uptoBulk d + 1
  | .slice elems spare => uptoBulkAll elems + uptoBulkAll spare + 1
  | .agg parts => uptoBulkAll parts + 1
  | .iface _ d => uptoBulk d + 1
  | .map entries => uptoBulkEntries entries + 1
  | .held _ => 1
def uptoBulkAll {H : Type} : List (DataW H) → Nat
  | [] => 0
  | d :: r => uptoBulk d + uptoBulkAll r
def uptoBulkEntries {H : Type} : List (Lit × DataW H) → Nat
  | [] => 0
  | x :: r => uptoBulkEntry x + uptoBulkEntries r
def uptoBulkEntry {H : Type} : Lit × DataW H → Nat
  | (.string bytes, d) => bytes.length + uptoBulk d + 1
  | (_, d) => uptoBulk d + 1
 end
def uptoSmall : (H : Type) → List (DataW H) → Bool := fun _ ds => decide (uptoBulkAll ds ≤ 1048576)
def OpenSpec.upto (s : _root_.Go.ChangeSpec) : _root_.Go.OpenSpec := { _root_.Go.OpenSpec.ofChange s with cond := some uptoSmall }

/-- 'laws.FnExactBoardOk', WHERE WHAT IT READS IS OF BULK AT MOST 1048576: true; the input reads as it did. -/
def fnExactBoardOkUptoRow : OpenClaim := { program := "ytbmghnibngjicaa", sum := "c644acdf7361fcea43507b982751cf137829ddb696ac5a1e4d9755bc1c7501fa", func := "loop.example/g00411/laws.FnExactBoardOk", spec := "fnExactBoardOk", unfollowed := true, recurses := true, apart := false, narrowed := true }
def FnExactBoardOkUptoSaid : Prop := fnExactBoardOkUptoRow.holds Try.pinned (OpenSpec.upto fnExactBoardOkSpec)

/-- 'laws.FnExactNewBoard', WHERE WHAT IT READS IS OF BULK AT MOST 1048576: true; the input reads as it did. -/
def fnExactNewBoardUptoRow : OpenClaim := { program := "ytbmghnibngjicaa", sum := "c644acdf7361fcea43507b982751cf137829ddb696ac5a1e4d9755bc1c7501fa", func := "loop.example/g00411/laws.FnExactNewBoard", spec := "fnExactNewBoard", unfollowed := true, recurses := true, apart := false, narrowed := true }
def FnExactNewBoardUptoSaid : Prop := fnExactNewBoardUptoRow.holds Try.pinned (OpenSpec.upto fnExactNewBoardSpec)

/-- 'laws.FnExactReading', WHERE WHAT IT READS IS OF BULK AT MOST 1048576: true; the input reads as it did. -/
def fnExactReadingUptoRow : OpenClaim := { program := "ytbmghnibngjicaa", sum := "c644acdf7361fcea43507b982751cf137829ddb696ac5a1e4d9755bc1c7501fa", func := "loop.example/g00411/laws.FnExactReading", spec := "fnExactReading", unfollowed := true, recurses := true, apart := false, narrowed := true }
def FnExactReadingUptoSaid : Prop := fnExactReadingUptoRow.holds Try.pinned (OpenSpec.upto fnExactReadingSpec)

/-- 'laws.FnExactEnded', WHERE WHAT IT READS IS OF BULK AT MOST 1048576: true; the input reads as it did. -/
def fnExactEndedUptoRow : OpenClaim := { program := "ytbmghnibngjicaa", sum := "c644acdf7361fcea43507b982751cf137829ddb696ac5a1e4d9755bc1c7501fa", func := "loop.example/g00411/laws.FnExactEnded", spec := "fnExactEnded", unfollowed := true, recurses := true, apart := false, narrowed := true }
def FnExactEndedUptoSaid : Prop := fnExactEndedUptoRow.holds Try.pinned (OpenSpec.upto fnExactEndedSpec)

/-- 'laws.FnExactShownBoard', WHERE WHAT IT READS IS OF BULK AT MOST 1048576: true; the input reads as it did. -/
def fnExactShownBoardUptoRow : OpenClaim := { program := "ytbmghnibngjicaa", sum := "c644acdf7361fcea43507b982751cf137829ddb696ac5a1e4d9755bc1c7501fa", func := "loop.example/g00411/laws.FnExactShownBoard", spec := "fnExactShownBoard", unfollowed := true, recurses := true, apart := false, narrowed := true }
def FnExactShownBoardUptoSaid : Prop := fnExactShownBoardUptoRow.holds Try.pinned (OpenSpec.upto fnExactShownBoardSpec)

end Rows
end Go.Proofs.Ytbmghnibngjicaa
