/-
  NARROWER THAN 'FOR EVERY INPUT', by the rows' own cells (each row's printed sentence says how): FnJudged: ifaces, laid · FnExactJudged: ifaces, laid.
  DERIVED. THE GIVEN ROWS OF THIS SEAT. 2 by the template 'for every input the law returns true; each argument reads behind the call as it read before'; 0 by the template 'total and deterministic' (their statements: YtflehmepjhikcaaGreatDoorTotals.lean).
  GIVEN WITH THE SEED: the statements are not yours to turn. If you find one false, say at which input.
  Laid BY PROGRAM, IN A SANDBOX (cutbox-rows.mjs): the forced cells as the released guide's own fill.sh prints them over the translation 770041cd4c8dc5e9… (all of the seat's roots in one cut). By AI agents, Wed Nov 11 2026. No macro, syntax, notation, axiom, sorry.
-/
import Derived.Test.YtflehmepjhikcaaGreatDoorChecked
import GoSem.Claim
import GoSem.ClaimJoined
import GoSem.ClaimMapViews
import Derived.JoinedTies
import Derived.KernelRfl
namespace Go.Proofs.YtflehmepjhikcaaGreatDoor
/- THE CELL 'sum', in the pinned program and in every row, IS THE sha256 OF THE DUMP (.gsa) THAT YtflehmepjhikcaaGreatDoorProg.lean LOADS. Nothing in Lean hashes anything: it is a label: what it is worth is what the hold of that sum in a sandbox is worth. -/
noncomputable def Tryz.pinned : Pinned := { name := "ytflehmepjhikcaagreatdoor", sum := "770041cd4c8dc5e908f943943238852ac8a9dc22b1959fc53ba34b89ca9287a5", checked := Tryz.checked }
namespace Rows
def none {H : Type} : Left H := { results := [], args := [] }

/- WHAT THE LISTED PACKAGE-LEVEL VARIABLES READ AS WHEN THE CALL BEGINS. Each datum BY PROGRAM (the guide's laid-datum.mjs) off the statement by which the dump's own 'gosem.cut.vars' lays the variable. In a bare row this is a premise. The card (YtflehmepjhikcaaGreatDoorCards.lean) ties it to the program's text. -/
def laid_errors_errorType {H : Type} : DataW H := .iface "internal/reflectlite.rtype" (.agg [.ptr (.lit (.string [101, 114, 114, 111, 114]))])
def laid_loop_example_g00411_impl_errNoAsk {H : Type} : DataW H := .iface "*errors.errorString" (.ptr (.agg [.lit (.string [116, 104, 105, 115, 32, 99, 97, 110, 39, 116, 32, 98, 101, 32, 97, 115, 107, 101, 100])]))
def laid_loop_example_g00411_impl_errNoOutcome {H : Type} : DataW H := .iface "*errors.errorString" (.ptr (.agg [.lit (.string [116, 104, 105, 115, 32, 105, 115, 32, 110, 111, 32, 111, 117, 116, 99, 111, 109, 101])]))
def laid_loop_example_g00411_impl_errUnmet {H : Type} : DataW H := .iface "*errors.errorString" (.ptr (.agg [.lit (.string [116, 104, 105, 115, 32, 105, 115, 32, 97, 110, 111, 116, 104, 101, 114, 32, 118, 97, 108, 117, 101])]))

/-- 'laws.FnJudged': WHATEVER THE INPUT: true; the input reads as it did. -/
def fnJudgedSpec : ChangeSpec := { name := "fnJudged", vars := ["loop.example/g00411/impl.errNoAsk", "loop.example/g00411/impl.errNoOutcome", "loop.example/g00411/impl.errUnmet"], fn := fun _ => fun
  | [d, g1, g2, g3] => { results := [.lit (.bool true)], args := [d], vars := [g1, g2, g3] }
  | _ => none }
def fnJudgedRow : OpenClaim := { program := "ytflehmepjhikcaagreatdoor", sum := "770041cd4c8dc5e908f943943238852ac8a9dc22b1959fc53ba34b89ca9287a5", func := "loop.example/g00411/laws.FnJudged", spec := "fnJudged", inPlace := ["internal/reflectlite.TypeOf", "internal/reflectlite.ValueOf", "(internal/reflectlite.Value).Type", "(internal/reflectlite.Value).IsNil", "(internal/reflectlite.Value).Elem", "(internal/reflectlite.Value).Set"], unfollowed := true, recurses := true, named := ["loop.example/g00411/impl.errNoAsk", "loop.example/g00411/impl.errNoOutcome", "loop.example/g00411/impl.errUnmet", "errors.errorType"], ifaces := true, plainKeys := false, apart := false, laid := [("errors.errorType", laid_errors_errorType), ("loop.example/g00411/impl.errNoAsk", laid_loop_example_g00411_impl_errNoAsk), ("loop.example/g00411/impl.errNoOutcome", laid_loop_example_g00411_impl_errNoOutcome), ("loop.example/g00411/impl.errUnmet", laid_loop_example_g00411_impl_errUnmet)] }
def FnJudgedSaid : Prop := fnJudgedRow.holds Tryz.pinned (OpenSpec.ofChange fnJudgedSpec)

/-- ITS FALSE NEIGHBOUR: 'it returns false'. Refute it at one input. -/
def fnJudgedWrong : ChangeSpec := { name := "fnJudged", vars := ["loop.example/g00411/impl.errNoAsk", "loop.example/g00411/impl.errNoOutcome", "loop.example/g00411/impl.errUnmet"], fn := fun _ => fun
  | [d, g1, g2, g3] => { results := [.lit (.bool false)], args := [d], vars := [g1, g2, g3] }
  | _ => none }
def FnJudgedWrongFalsely : Prop := fnJudgedRow.holds Tryz.pinned (OpenSpec.ofChange fnJudgedWrong)

/-- 'laws.FnExactJudged': WHATEVER THE INPUT: true; the input reads as it did. -/
def fnExactJudgedSpec : ChangeSpec := { name := "fnExactJudged", vars := ["loop.example/g00411/impl.errNoAsk", "loop.example/g00411/impl.errNoOutcome", "loop.example/g00411/impl.errUnmet"], fn := fun _ => fun
  | [d1, d2, g1, g2, g3] => { results := [.lit (.bool true)], args := [d1, d2], vars := [g1, g2, g3] }
  | _ => none }
def fnExactJudgedRow : OpenClaim := { program := "ytflehmepjhikcaagreatdoor", sum := "770041cd4c8dc5e908f943943238852ac8a9dc22b1959fc53ba34b89ca9287a5", func := "loop.example/g00411/laws.FnExactJudged", spec := "fnExactJudged", inPlace := ["internal/reflectlite.TypeOf", "internal/reflectlite.ValueOf", "(internal/reflectlite.Value).Type", "(internal/reflectlite.Value).IsNil", "(internal/reflectlite.Value).Elem", "(internal/reflectlite.Value).Set"], unfollowed := true, recurses := true, named := ["loop.example/g00411/impl.errNoAsk", "loop.example/g00411/impl.errNoOutcome", "loop.example/g00411/impl.errUnmet", "errors.errorType"], ifaces := true, plainKeys := false, apart := false, laid := [("errors.errorType", laid_errors_errorType), ("loop.example/g00411/impl.errNoAsk", laid_loop_example_g00411_impl_errNoAsk), ("loop.example/g00411/impl.errNoOutcome", laid_loop_example_g00411_impl_errNoOutcome), ("loop.example/g00411/impl.errUnmet", laid_loop_example_g00411_impl_errUnmet)] }
def FnExactJudgedSaid : Prop := fnExactJudgedRow.holds Tryz.pinned (OpenSpec.ofChange fnExactJudgedSpec)

/-- ITS FALSE NEIGHBOUR: 'it returns false'. Refute it at one input. -/
def fnExactJudgedWrong : ChangeSpec := { name := "fnExactJudged", vars := ["loop.example/g00411/impl.errNoAsk", "loop.example/g00411/impl.errNoOutcome", "loop.example/g00411/impl.errUnmet"], fn := fun _ => fun
  | [d1, d2, g1, g2, g3] => { results := [.lit (.bool false)], args := [d1, d2], vars := [g1, g2, g3] }
  | _ => none }
def FnExactJudgedWrongFalsely : Prop := fnExactJudgedRow.holds Tryz.pinned (OpenSpec.ofChange fnExactJudgedWrong)

/- THE SECOND FORM. 'bulk': how many values and letters a reading holds, each counted each time it is reached (what is shared counts as often as it is met; a slice's spare places count too). A statement '..UptoSaid' is the law's where the arguments, and the package variables that the reading takes, are together of bulk at most 1048576: NARROWER than '..Said'. Prove '..Said' where nothing that the law and all that it calls make is longer than what came in: it says more and counts as full. Else prove '..UptoSaid'. A law counts once. -/
mutual
def uptoBulk {H : Type} : DataW H → Nat
  | .lit (.string bytes) => bytes.length + 1
  | .lit _ => 1
  | .nil => 1
  | .ptr d => uptoBulk d + 1
  | .slice elems spare => uptoBulkAll elems + uptoBulkAll spare + 1
  | .agg parts => uptoBulkAll parts + 1
  | .iface _ d => uptoBulk d + 1
  | .map entries => uptoBulkEntries entries + 1
  | .held _ => 1
def uptoBulkAll {H : Type} : List (DataW H) → Nat
  | [] => 0
  | d :: r => uptoBulk d + uptoBulkAll r
def uptoBulkEntries {H : Type} : List (Lit × DataW H) → Nat
  | [] => 0
  | x :: r => uptoBulkEntry x + uptoBulkEntries r
def uptoBulkEntry {H : Type} : Lit × DataW H → Nat
  | (.string bytes, d) => bytes.length + uptoBulk d + 1
  | (_, d) => uptoBulk d + 1
 end
def uptoSmall : (H : Type) → List (DataW H) → Bool := fun _ ds => decide (uptoBulkAll ds ≤ 1048576)
def OpenSpec.upto (s : _root_.Go.ChangeSpec) : _root_.Go.OpenSpec := { _root_.Go.OpenSpec.ofChange s with cond := some uptoSmall }

/-- 'laws.FnJudged', WHERE WHAT IT READS IS OF BULK AT MOST 1048576: true; the input reads as it did. -/
def fnJudgedUptoRow : OpenClaim := { program := "ytflehmepjhikcaagreatdoor", sum := "770041cd4c8dc5e908f943943238852ac8a9dc22b1959fc53ba34b89ca9287a5", func := "loop.example/g00411/laws.FnJudged", spec := "fnJudged", inPlace := ["internal/reflectlite.TypeOf", "internal/reflectlite.ValueOf", "(internal/reflectlite.Value).Type", "(internal/reflectlite.Value).IsNil", "(internal/reflectlite.Value).Elem", "(internal/reflectlite.Value).Set"], unfollowed := true, recurses := true, named := ["loop.example/g00411/impl.errNoAsk", "loop.example/g00411/impl.errNoOutcome", "loop.example/g00411/impl.errUnmet", "errors.errorType"], ifaces := true, plainKeys := false, apart := false, laid := [("errors.errorType", laid_errors_errorType), ("loop.example/g00411/impl.errNoAsk", laid_loop_example_g00411_impl_errNoAsk), ("loop.example/g00411/impl.errNoOutcome", laid_loop_example_g00411_impl_errNoOutcome), ("loop.example/g00411/impl.errUnmet", laid_loop_example_g00411_impl_errUnmet)], narrowed := true }
def FnJudgedUptoSaid : Prop := fnJudgedUptoRow.holds Tryz.pinned (OpenSpec.upto fnJudgedSpec)

/-- 'laws.FnExactJudged', WHERE WHAT IT READS IS OF BULK AT MOST 1048576: true; the input reads as it did. -/
def fnExactJudgedUptoRow : OpenClaim := { program := "ytflehmepjhikcaagreatdoor", sum := "770041cd4c8dc5e908f943943238852ac8a9dc22b1959fc53ba34b89ca9287a5", func := "loop.example/g00411/laws.FnExactJudged", spec := "fnExactJudged", inPlace := ["internal/reflectlite.TypeOf", "internal/reflectlite.ValueOf", "(internal/reflectlite.Value).Type", "(internal/reflectlite.Value).IsNil", "(internal/reflectlite.Value).Elem", "(internal/reflectlite.Value).Set"], unfollowed := true, recurses := true, named := ["loop.example/g00411/impl.errNoAsk", "loop.example/g00411/impl.errNoOutcome", "loop.example/g00411/impl.errUnmet", "errors.errorType"], ifaces := true, plainKeys := false, apart := false, laid := [("errors.errorType", laid_errors_errorType), ("loop.example/g00411/impl.errNoAsk", laid_loop_example_g00411_impl_errNoAsk), ("loop.example/g00411/impl.errNoOutcome", laid_loop_example_g00411_impl_errNoOutcome), ("loop.example/g00411/impl.errUnmet", laid_loop_example_g00411_impl_errUnmet)], narrowed := true }
def FnExactJudgedUptoSaid : Prop := fnExactJudgedUptoRow.holds Tryz.pinned (OpenSpec.upto fnExactJudgedSpec)

end Rows
end Go.Proofs.YtflehmepjhikcaaGreatDoor
