/-
  NARROWER THAN 'FOR EVERY INPUT', by the rows' own cells (each row's printed sentence says how): FnAsks: ifaces, laid · FnExactAskOk: ifaces, laid · FnExactMeets: ifaces, laid · FnExactReadAsk: ifaces, laid.
  DERIVED. THE GIVEN ROWS OF THIS SEAT. 4 by the template 'for every input the law returns true; each argument reads behind the call as it read before'; 0 by the template 'total and deterministic' (their statements: YtflehmepjhikcaaDoorTotals.lean).
  GIVEN WITH THE SEED: the statements are not yours to turn. If you find one false, say at which input.
  Laid BY PROGRAM, IN A SANDBOX (cutbox-rows.mjs): the forced cells as the released guide's own fill.sh prints them over the translation 3ad1afd63af21c65… (all of the seat's roots in one cut). By AI agents, Wed Nov 11 2026. No macro, syntax, notation, axiom, sorry.
-/
import Derived.Test.YtflehmepjhikcaaDoorChecked
import GoSem.PinnedTables
import GoSem.Claim
import GoSem.ClaimJoined
import GoSem.ClaimMapViews
import Derived.JoinedTies
import Derived.KernelRfl
namespace Go.Proofs.YtflehmepjhikcaaDoor
/- THE CELL 'sum', in the pinned program and in every row, IS THE sha256 OF THE DUMP (.gsa) THAT YtflehmepjhikcaaDoorProg.lean LOADS. Nothing in Lean hashes anything: it is a label: what it is worth is what the hold of that sum in a sandbox is worth. -/
noncomputable def Tryd.pinned : Pinned := { name := "ytflehmepjhikcaadoor", sum := "3ad1afd63af21c6555e2b7ef368676faf3ea77561389f6d780bc570c13df569c", checked := Tryd.checked }
namespace Rows
def none {H : Type} : Left H := { results := [], args := [] }

/- WHAT THE LISTED PACKAGE-LEVEL VARIABLES READ AS WHEN THE CALL BEGINS. Each datum BY PROGRAM (the guide's laid-datum.mjs) off the statement by which the dump's own 'gosem.cut.vars' lays the variable. In a bare row this is a premise. The card (YtflehmepjhikcaaDoorCards.lean) ties it to the program's text. -/
def laid_unicode_utf8_acceptRanges {H : Type} : DataW H := .agg [.agg [.lit (.int .u8 128), .lit (.int .u8 191)], .agg [.lit (.int .u8 160), .lit (.int .u8 191)], .agg [.lit (.int .u8 128), .lit (.int .u8 159)], .agg [.lit (.int .u8 144), .lit (.int .u8 191)], .agg [.lit (.int .u8 128), .lit (.int .u8 143)], .agg [.lit (.int .u8 0), .lit (.int .u8 0)], .agg [.lit (.int .u8 0), .lit (.int .u8 0)], .agg [.lit (.int .u8 0), .lit (.int .u8 0)], .agg [.lit (.int .u8 0), .lit (.int .u8 0)], .agg [.lit (.int .u8 0), .lit (.int .u8 0)], .agg [.lit (.int .u8 0), .lit (.int .u8 0)], .agg [.lit (.int .u8 0), .lit (.int .u8 0)], .agg [.lit (.int .u8 0), .lit (.int .u8 0)], .agg [.lit (.int .u8 0), .lit (.int .u8 0)], .agg [.lit (.int .u8 0), .lit (.int .u8 0)], .agg [.lit (.int .u8 0), .lit (.int .u8 0)]]
def laid_loop_example_g00411_impl_errNoAsk {H : Type} : DataW H := .iface "*errors.errorString" (.ptr (.agg [.lit (.string [116, 104, 105, 115, 32, 99, 97, 110, 39, 116, 32, 98, 101, 32, 97, 115, 107, 101, 100])]))
/-- One of Go's own tables, pinned by name: the form's constant. -/
def laid_unicode_utf8_first : DataW Unit := Go.Pinned.utf8First
def laid_errors_errorType {H : Type} : DataW H := .iface "internal/reflectlite.rtype" (.agg [.ptr (.lit (.string [101, 114, 114, 111, 114]))])
def laid_loop_example_g00411_impl_errNoOutcome {H : Type} : DataW H := .iface "*errors.errorString" (.ptr (.agg [.lit (.string [116, 104, 105, 115, 32, 105, 115, 32, 110, 111, 32, 111, 117, 116, 99, 111, 109, 101])]))
def laid_loop_example_g00411_impl_errUnmet {H : Type} : DataW H := .iface "*errors.errorString" (.ptr (.agg [.lit (.string [116, 104, 105, 115, 32, 105, 115, 32, 97, 110, 111, 116, 104, 101, 114, 32, 118, 97, 108, 117, 101])]))

/-- 'laws.FnAsks': WHATEVER THE INPUT: true; the input reads as it did. -/
def fnAsksSpec : ChangeSpec := { name := "fnAsks", vars := ["loop.example/g00411/impl.errNoAsk"], fn := fun _ => fun
  | [d, g1] => { results := [.lit (.bool true)], args := [d], vars := [g1] }
  | _ => none }
def fnAsksRow : OpenClaim := { program := "ytflehmepjhikcaadoor", sum := "3ad1afd63af21c6555e2b7ef368676faf3ea77561389f6d780bc570c13df569c", func := "loop.example/g00411/laws.FnAsks", spec := "fnAsks", inPlace := ["internal/bytealg.CountString", "internal/bytealg.IndexByteString", "internal/bytealg.IndexString", "internal/reflectlite.TypeOf"], unfollowed := true, recurses := true, named := ["loop.example/g00411/impl.errNoAsk", "unicode/utf8.first", "unicode/utf8.acceptRanges", "internal/bytealg.MaxLen"], ifaces := true, apart := false, laid := [("unicode/utf8.acceptRanges", laid_unicode_utf8_acceptRanges), ("loop.example/g00411/impl.errNoAsk", laid_loop_example_g00411_impl_errNoAsk), ("unicode/utf8.first", laid_unicode_utf8_first)] }
def FnAsksSaid : Prop := fnAsksRow.holds Tryd.pinned (OpenSpec.ofChange fnAsksSpec)

/-- ITS FALSE NEIGHBOUR: 'it returns false'. Refute it at one input. -/
def fnAsksWrong : ChangeSpec := { name := "fnAsks", vars := ["loop.example/g00411/impl.errNoAsk"], fn := fun _ => fun
  | [d, g1] => { results := [.lit (.bool false)], args := [d], vars := [g1] }
  | _ => none }
def FnAsksWrongFalsely : Prop := fnAsksRow.holds Tryd.pinned (OpenSpec.ofChange fnAsksWrong)

/-- 'laws.FnExactAskOk': WHATEVER THE INPUT: true; the input reads as it did. -/
def fnExactAskOkSpec : ChangeSpec := { name := "fnExactAskOk", vars := ["loop.example/g00411/impl.errNoAsk"], fn := fun _ => fun
  | [d1, d2, g1] => { results := [.lit (.bool true)], args := [d1, d2], vars := [g1] }
  | _ => none }
def fnExactAskOkRow : OpenClaim := { program := "ytflehmepjhikcaadoor", sum := "3ad1afd63af21c6555e2b7ef368676faf3ea77561389f6d780bc570c13df569c", func := "loop.example/g00411/laws.FnExactAskOk", spec := "fnExactAskOk", inPlace := ["internal/reflectlite.TypeOf"], unfollowed := true, recurses := true, named := ["loop.example/g00411/impl.errNoAsk"], ifaces := true, apart := false, laid := [("loop.example/g00411/impl.errNoAsk", laid_loop_example_g00411_impl_errNoAsk)] }
def FnExactAskOkSaid : Prop := fnExactAskOkRow.holds Tryd.pinned (OpenSpec.ofChange fnExactAskOkSpec)

/-- ITS FALSE NEIGHBOUR: 'it returns false'. Refute it at one input. -/
def fnExactAskOkWrong : ChangeSpec := { name := "fnExactAskOk", vars := ["loop.example/g00411/impl.errNoAsk"], fn := fun _ => fun
  | [d1, d2, g1] => { results := [.lit (.bool false)], args := [d1, d2], vars := [g1] }
  | _ => none }
def FnExactAskOkWrongFalsely : Prop := fnExactAskOkRow.holds Tryd.pinned (OpenSpec.ofChange fnExactAskOkWrong)

/-- 'laws.FnExactMeets': WHATEVER THE INPUT: true; the input reads as it did. -/
def fnExactMeetsSpec : ChangeSpec := { name := "fnExactMeets", vars := ["loop.example/g00411/impl.errNoOutcome", "loop.example/g00411/impl.errUnmet", "loop.example/g00411/impl.errNoAsk"], fn := fun _ => fun
  | [d1, d2, d3, g1, g2, g3] => { results := [.lit (.bool true)], args := [d1, d2, d3], vars := [g1, g2, g3] }
  | _ => none }
def fnExactMeetsRow : OpenClaim := { program := "ytflehmepjhikcaadoor", sum := "3ad1afd63af21c6555e2b7ef368676faf3ea77561389f6d780bc570c13df569c", func := "loop.example/g00411/laws.FnExactMeets", spec := "fnExactMeets", inPlace := ["internal/reflectlite.ValueOf", "(internal/reflectlite.Value).Type", "(internal/reflectlite.Value).IsNil", "internal/reflectlite.TypeOf", "(internal/reflectlite.Value).Elem", "(internal/reflectlite.Value).Set"], unfollowed := true, recurses := true, named := ["loop.example/g00411/impl.errNoOutcome", "loop.example/g00411/impl.errUnmet", "loop.example/g00411/impl.errNoAsk", "errors.errorType"], ifaces := true, apart := false, laid := [("errors.errorType", laid_errors_errorType), ("loop.example/g00411/impl.errNoAsk", laid_loop_example_g00411_impl_errNoAsk), ("loop.example/g00411/impl.errNoOutcome", laid_loop_example_g00411_impl_errNoOutcome), ("loop.example/g00411/impl.errUnmet", laid_loop_example_g00411_impl_errUnmet)] }
def FnExactMeetsSaid : Prop := fnExactMeetsRow.holds Tryd.pinned (OpenSpec.ofChange fnExactMeetsSpec)

/-- ITS FALSE NEIGHBOUR: 'it returns false'. Refute it at one input. -/
def fnExactMeetsWrong : ChangeSpec := { name := "fnExactMeets", vars := ["loop.example/g00411/impl.errNoOutcome", "loop.example/g00411/impl.errUnmet", "loop.example/g00411/impl.errNoAsk"], fn := fun _ => fun
  | [d1, d2, d3, g1, g2, g3] => { results := [.lit (.bool false)], args := [d1, d2, d3], vars := [g1, g2, g3] }
  | _ => none }
def FnExactMeetsWrongFalsely : Prop := fnExactMeetsRow.holds Tryd.pinned (OpenSpec.ofChange fnExactMeetsWrong)

/-- 'laws.FnExactReadAsk': WHATEVER THE INPUT: true; the input reads as it did. -/
def fnExactReadAskSpec : ChangeSpec := { name := "fnExactReadAsk", vars := ["loop.example/g00411/impl.errNoAsk"], fn := fun _ => fun
  | [d, g1] => { results := [.lit (.bool true)], args := [d], vars := [g1] }
  | _ => none }
def fnExactReadAskRow : OpenClaim := { program := "ytflehmepjhikcaadoor", sum := "3ad1afd63af21c6555e2b7ef368676faf3ea77561389f6d780bc570c13df569c", func := "loop.example/g00411/laws.FnExactReadAsk", spec := "fnExactReadAsk", inPlace := ["internal/bytealg.CountString", "internal/bytealg.IndexByteString", "internal/bytealg.IndexString", "internal/reflectlite.TypeOf"], unfollowed := true, recurses := true, named := ["loop.example/g00411/impl.errNoAsk", "unicode/utf8.first", "unicode/utf8.acceptRanges", "internal/bytealg.MaxLen"], ifaces := true, apart := false, laid := [("unicode/utf8.acceptRanges", laid_unicode_utf8_acceptRanges), ("loop.example/g00411/impl.errNoAsk", laid_loop_example_g00411_impl_errNoAsk), ("unicode/utf8.first", laid_unicode_utf8_first)] }
def FnExactReadAskSaid : Prop := fnExactReadAskRow.holds Tryd.pinned (OpenSpec.ofChange fnExactReadAskSpec)

/-- ITS FALSE NEIGHBOUR: 'it returns false'. Refute it at one input. -/
def fnExactReadAskWrong : ChangeSpec := { name := "fnExactReadAsk", vars := ["loop.example/g00411/impl.errNoAsk"], fn := fun _ => fun
  | [d, g1] => { results := [.lit (.bool false)], args := [d], vars := [g1] }
  | _ => none }
def FnExactReadAskWrongFalsely : Prop := fnExactReadAskRow.holds Tryd.pinned (OpenSpec.ofChange fnExactReadAskWrong)

/- THE SECOND FORM. 'bulk': how many values and letters a reading holds, each counted each time it is reached (what is shared counts as often as it is met; a slice's spare places count too). A statement '..UptoSaid' is the law's where the arguments, and the package variables that the reading takes, are together of bulk at most 1048576: NARROWER than '..Said'. Prove '..Said' where nothing that the law and all that it calls make is longer than what came in: it says more and counts as full. Else prove '..UptoSaid'. A law counts once. -/
mutual
def uptoBulk {H : Type} : DataW H → Nat
  | .lit (.string bytes) => bytes.length + 1
  | .lit _ => 1
  | .nil => 1
  | .ptr d => uptoBulk d + 1
  | .slice elems spare => uptoBulkAll elems + uptoBulkAll spare + 1
  | .agg parts => uptoBulkAll parts + 1
  | .iface _ d => uptoBulk d + 1
  | .map entries => uptoBulkEntries entries + 1
  | .held _ => 1
def uptoBulkAll {H : Type} : List (DataW H) → Nat
  | [] => 0
  | d :: r => uptoBulk d + uptoBulkAll r
def uptoBulkEntries {H : Type} : List (Lit × DataW H) → Nat
  | [] => 0
  | x :: r => uptoBulkEntry x + uptoBulkEntries r
def uptoBulkEntry {H : Type} : Lit × DataW H → Nat
  | (.string bytes, d) => bytes.length + uptoBulk d + 1
  | (_, d) => uptoBulk d + 1
 end
def uptoSmall : (H : Type) → List (DataW H) → Bool := fun _ ds => decide (uptoBulkAll ds ≤ 1048576)
def OpenSpec.upto (s : _root_.Go.ChangeSpec) : _root_.Go.OpenSpec := { _root_.Go.OpenSpec.ofChange s with cond := some uptoSmall }

/-- 'laws.FnAsks', WHERE WHAT IT READS IS OF BULK AT MOST 1048576: true; the input reads as it did. -/
def fnAsksUptoRow : OpenClaim := { program := "ytflehmepjhikcaadoor", sum := "3ad1afd63af21c6555e2b7ef368676faf3ea77561389f6d780bc570c13df569c", func := "loop.example/g00411/laws.FnAsks", spec := "fnAsks", inPlace := ["internal/bytealg.CountString", "internal/bytealg.IndexByteString", "internal/bytealg.IndexString", "internal/reflectlite.TypeOf"], unfollowed := true, recurses := true, named := ["loop.example/g00411/impl.errNoAsk", "unicode/utf8.first", "unicode/utf8.acceptRanges", "internal/bytealg.MaxLen"], ifaces := true, apart := false, laid := [("unicode/utf8.acceptRanges", laid_unicode_utf8_acceptRanges), ("loop.example/g00411/impl.errNoAsk", laid_loop_example_g00411_impl_errNoAsk), ("unicode/utf8.first", laid_unicode_utf8_first)], narrowed := true }
def FnAsksUptoSaid : Prop := fnAsksUptoRow.holds Tryd.pinned (OpenSpec.upto fnAsksSpec)

/-- 'laws.FnExactAskOk', WHERE WHAT IT READS IS OF BULK AT MOST 1048576: true; the input reads as it did. -/
def fnExactAskOkUptoRow : OpenClaim := { program := "ytflehmepjhikcaadoor", sum := "3ad1afd63af21c6555e2b7ef368676faf3ea77561389f6d780bc570c13df569c", func := "loop.example/g00411/laws.FnExactAskOk", spec := "fnExactAskOk", inPlace := ["internal/reflectlite.TypeOf"], unfollowed := true, recurses := true, named := ["loop.example/g00411/impl.errNoAsk"], ifaces := true, apart := false, laid := [("loop.example/g00411/impl.errNoAsk", laid_loop_example_g00411_impl_errNoAsk)], narrowed := true }
def FnExactAskOkUptoSaid : Prop := fnExactAskOkUptoRow.holds Tryd.pinned (OpenSpec.upto fnExactAskOkSpec)

/-- 'laws.FnExactMeets', WHERE WHAT IT READS IS OF BULK AT MOST 1048576: true; the input reads as it did. -/
def fnExactMeetsUptoRow : OpenClaim := { program := "ytflehmepjhikcaadoor", sum := "3ad1afd63af21c6555e2b7ef368676faf3ea77561389f6d780bc570c13df569c", func := "loop.example/g00411/laws.FnExactMeets", spec := "fnExactMeets", inPlace := ["internal/reflectlite.ValueOf", "(internal/reflectlite.Value).Type", "(internal/reflectlite.Value).IsNil", "internal/reflectlite.TypeOf", "(internal/reflectlite.Value).Elem", "(internal/reflectlite.Value).Set"], unfollowed := true, recurses := true, named := ["loop.example/g00411/impl.errNoOutcome", "loop.example/g00411/impl.errUnmet", "loop.example/g00411/impl.errNoAsk", "errors.errorType"], ifaces := true, apart := false, laid := [("errors.errorType", laid_errors_errorType), ("loop.example/g00411/impl.errNoAsk", laid_loop_example_g00411_impl_errNoAsk), ("loop.example/g00411/impl.errNoOutcome", laid_loop_example_g00411_impl_errNoOutcome), ("loop.example/g00411/impl.errUnmet", laid_loop_example_g00411_impl_errUnmet)], narrowed := true }
def FnExactMeetsUptoSaid : Prop := fnExactMeetsUptoRow.holds Tryd.pinned (OpenSpec.upto fnExactMeetsSpec)

/-- 'laws.FnExactReadAsk', WHERE WHAT IT READS IS OF BULK AT MOST 1048576: true; the input reads as it did. -/
def fnExactReadAskUptoRow : OpenClaim := { program := "ytflehmepjhikcaadoor", sum := "3ad1afd63af21c6555e2b7ef368676faf3ea77561389f6d780bc570c13df569c", func := "loop.example/g00411/laws.FnExactReadAsk", spec := "fnExactReadAsk", inPlace := ["internal/bytealg.CountString", "internal/bytealg.IndexByteString", "internal/bytealg.IndexString", "internal/reflectlite.TypeOf"], unfollowed := true, recurses := true, named := ["loop.example/g00411/impl.errNoAsk", "unicode/utf8.first", "unicode/utf8.acceptRanges", "internal/bytealg.MaxLen"], ifaces := true, apart := false, laid := [("unicode/utf8.acceptRanges", laid_unicode_utf8_acceptRanges), ("loop.example/g00411/impl.errNoAsk", laid_loop_example_g00411_impl_errNoAsk), ("unicode/utf8.first", laid_unicode_utf8_first)], narrowed := true }
def FnExactReadAskUptoSaid : Prop := fnExactReadAskUptoRow.holds Tryd.pinned (OpenSpec.upto fnExactReadAskSpec)

end Rows
end Go.Proofs.YtflehmepjhikcaaDoor
