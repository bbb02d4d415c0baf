/-
  No cell of these rows narrows 'for every input' (looked for: loops, veiled, ifaces, maps, wideKeys, modest, calm, conditions, laid).
  DERIVED. THE GIVEN ROWS OF THIS SEAT. 3 by the template 'for every input the law returns true; each argument reads behind the call as it read before'; 0 by the template 'total and deterministic' (their statements: YtgakfkjjkobpiaaTotals.lean).
  GIVEN WITH THE SEED: the statements are not yours to turn. If you find one false, say at which input.
  Laid BY PROGRAM, IN A SANDBOX (cutbox-rows.mjs): the forced cells as the released guide's own fill.sh prints them over the translation f6f2f9b3dece3a9a… (all of the seat's roots in one cut). By AI agents, Wed Nov 11 2026. No macro, syntax, notation, axiom, sorry.
-/
import Derived.Test.YtgakfkjjkobpiaaChecked
import GoSem.Claim
import GoSem.ClaimJoined
import GoSem.ClaimMapViews
import Derived.JoinedTies
import Derived.KernelRfl
namespace Go.Proofs.Ytgakfkjjkobpiaa
/- THE CELL 'sum', in the pinned program and in every row, IS THE sha256 OF THE DUMP (.gsa) THAT YtgakfkjjkobpiaaProg.lean LOADS. Nothing in Lean hashes anything: it is a label: what it is worth is what the hold of that sum in a sandbox is worth. -/
noncomputable def Try.pinned : Pinned := { name := "ytgakfkjjkobpiaa", sum := "f6f2f9b3dece3a9a96937ad3bb4ffd4bb431427e4ab076897736b0bebbf6b771", checked := Try.checked }
namespace Rows
def none {H : Type} : Left H := { results := [], args := [] }

/-- 'laws.FnQuick': WHATEVER THE INPUT: true; the input reads as it did. -/
def fnQuickSpec : ChangeSpec := { name := "fnQuick", fn := fun _ => fun
  | [d] => { results := [.lit (.bool true)], args := [d] }
  | _ => none }
def fnQuickRow : OpenClaim := { program := "ytgakfkjjkobpiaa", sum := "f6f2f9b3dece3a9a96937ad3bb4ffd4bb431427e4ab076897736b0bebbf6b771", func := "loop.example/g00411/laws.FnQuick", spec := "fnQuick", unfollowed := true, recurses := true, apart := false }
def FnQuickSaid : Prop := fnQuickRow.holds Try.pinned (OpenSpec.ofChange fnQuickSpec)

/-- ITS FALSE NEIGHBOUR: 'it returns false'. Refute it at one input. -/
def fnQuickWrong : ChangeSpec := { name := "fnQuick", fn := fun _ => fun
  | [d] => { results := [.lit (.bool false)], args := [d] }
  | _ => none }
def FnQuickWrongFalsely : Prop := fnQuickRow.holds Try.pinned (OpenSpec.ofChange fnQuickWrong)

/-- 'laws.FnExactNewBoard': WHATEVER THE INPUT: true; the input reads as it did. -/
def fnExactNewBoardSpec : ChangeSpec := { name := "fnExactNewBoard", fn := fun _ => fun
  | [d] => { results := [.lit (.bool true)], args := [d] }
  | _ => none }
def fnExactNewBoardRow : OpenClaim := { program := "ytgakfkjjkobpiaa", sum := "f6f2f9b3dece3a9a96937ad3bb4ffd4bb431427e4ab076897736b0bebbf6b771", func := "loop.example/g00411/laws.FnExactNewBoard", spec := "fnExactNewBoard", unfollowed := true, recurses := true, apart := false }
def FnExactNewBoardSaid : Prop := fnExactNewBoardRow.holds Try.pinned (OpenSpec.ofChange fnExactNewBoardSpec)

/-- ITS FALSE NEIGHBOUR: 'it returns false'. Refute it at one input. -/
def fnExactNewBoardWrong : ChangeSpec := { name := "fnExactNewBoard", fn := fun _ => fun
  | [d] => { results := [.lit (.bool false)], args := [d] }
  | _ => none }
def FnExactNewBoardWrongFalsely : Prop := fnExactNewBoardRow.holds Try.pinned (OpenSpec.ofChange fnExactNewBoardWrong)

/-- 'laws.FnExactPossible': WHATEVER THE INPUT: true; the input reads as it did. -/
def fnExactPossibleSpec : ChangeSpec := { name := "fnExactPossible", fn := fun _ => fun
  | [d] => { results := [.lit (.bool true)], args := [d] }
  | _ => none }
def fnExactPossibleRow : OpenClaim := { program := "ytgakfkjjkobpiaa", sum := "f6f2f9b3dece3a9a96937ad3bb4ffd4bb431427e4ab076897736b0bebbf6b771", func := "loop.example/g00411/laws.FnExactPossible", spec := "fnExactPossible", unfollowed := true, recurses := true, apart := false }
def FnExactPossibleSaid : Prop := fnExactPossibleRow.holds Try.pinned (OpenSpec.ofChange fnExactPossibleSpec)

/-- ITS FALSE NEIGHBOUR: 'it returns false'. Refute it at one input. -/
def fnExactPossibleWrong : ChangeSpec := { name := "fnExactPossible", fn := fun _ => fun
  | [d] => { results := [.lit (.bool false)], args := [d] }
  | _ => none }
def FnExactPossibleWrongFalsely : Prop := fnExactPossibleRow.holds Try.pinned (OpenSpec.ofChange fnExactPossibleWrong)

/- THE SECOND FORM. 'bulk': how many values and letters a reading holds, each counted each time it is reached (what is shared counts as often as it is met; a slice's spare places count too). A statement '..UptoSaid' is the law's where the arguments, and the package variables that the reading takes, are together of bulk at most 1048576: NARROWER than '..Said'. Prove '..Said' where nothing that the law and all that it calls make is longer than what came in: it says more and counts as full. Else prove '..UptoSaid'. A law counts once. -/
mutual
def uptoBulk {H : Type} : DataW H → Nat
  | .lit (.string bytes) => bytes.length + 1
  | .lit _ => 1
  | .nil => 1
  | .ptr d => uptoBulk d + 1
  | .slice elems spare => uptoBulkAll elems + uptoBulkAll spare + 1
  | .agg parts => uptoBulkAll parts + 1
  | .iface _ d => uptoBulk d + 1
  | .map entries => uptoBulkEntries entries + 1
  | .held _ => 1
def uptoBulkAll {H : Type} : List (DataW H) → Nat
  | [] => 0
  | d :: r => uptoBulk d + uptoBulkAll r
def uptoBulkEntries {H : Type} : List (Lit × DataW H) → Nat
  | [] => 0
  | x :: r => uptoBulkEntry x + uptoBulkEntries r
def uptoBulkEntry {H : Type} : Lit × DataW H → Nat
  | (.string bytes, d) => bytes.length + uptoBulk d + 1
  | (_, d) => uptoBulk d + 1
 end
def uptoSmall : (H : Type) → List (DataW H) → Bool := fun _ ds => decide (uptoBulkAll ds ≤ 1048576)
def OpenSpec.upto (s : _root_.Go.ChangeSpec) : _root_.Go.OpenSpec := { _root_.Go.OpenSpec.ofChange s with cond := some uptoSmall }

/-- 'laws.FnQuick', WHERE WHAT IT READS IS OF BULK AT MOST 1048576: true; the input reads as it did. -/
def fnQuickUptoRow : OpenClaim := { program := "ytgakfkjjkobpiaa", sum := "f6f2f9b3dece3a9a96937ad3bb4ffd4bb431427e4ab076897736b0bebbf6b771", func := "loop.example/g00411/laws.FnQuick", spec := "fnQuick", unfollowed := true, recurses := true, apart := false, narrowed := true }
def FnQuickUptoSaid : Prop := fnQuickUptoRow.holds Try.pinned (OpenSpec.upto fnQuickSpec)

/-- 'laws.FnExactNewBoard', WHERE WHAT IT READS IS OF BULK AT MOST 1048576: true; the input reads as it did. -/
def fnExactNewBoardUptoRow : OpenClaim := { program := "ytgakfkjjkobpiaa", sum := "f6f2f9b3dece3a9a96937ad3bb4ffd4bb431427e4ab076897736b0bebbf6b771", func := "loop.example/g00411/laws.FnExactNewBoard", spec := "fnExactNewBoard", unfollowed := true, recurses := true, apart := false, narrowed := true }
def FnExactNewBoardUptoSaid : Prop := fnExactNewBoardUptoRow.holds Try.pinned (OpenSpec.upto fnExactNewBoardSpec)

/-- 'laws.FnExactPossible', WHERE WHAT IT READS IS OF BULK AT MOST 1048576: true; the input reads as it did. -/
def fnExactPossibleUptoRow : OpenClaim := { program := "ytgakfkjjkobpiaa", sum := "f6f2f9b3dece3a9a96937ad3bb4ffd4bb431427e4ab076897736b0bebbf6b771", func := "loop.example/g00411/laws.FnExactPossible", spec := "fnExactPossible", unfollowed := true, recurses := true, apart := false, narrowed := true }
def FnExactPossibleUptoSaid : Prop := fnExactPossibleUptoRow.holds Try.pinned (OpenSpec.upto fnExactPossibleSpec)

end Rows
end Go.Proofs.Ytgakfkjjkobpiaa
