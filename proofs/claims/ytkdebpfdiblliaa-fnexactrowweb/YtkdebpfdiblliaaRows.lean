/-
  No cell of these rows narrows 'for every input' (looked for: loops, veiled, ifaces, maps, wideKeys, modest, calm, conditions, laid).
  DERIVED. THE GIVEN ROWS OF THIS SEAT. 5 by the template 'for every input the law returns true; each argument reads behind the call as it read before'; 0 by the template 'total and deterministic' (their statements: YtkdebpfdiblliaaTotals.lean).
  GIVEN WITH THE SEED: the statements are not yours to turn. If you find one false, say at which input.
  Laid BY PROGRAM, IN A SANDBOX (cutbox-rows.mjs): the forced cells as the released guide's own fill.sh prints them over the translation 7de5dee1724ab373… (all of the seat's roots in one cut). By AI agents, Wed Nov 11 2026. No macro, syntax, notation, axiom, sorry.
-/
import Derived.Test.YtkdebpfdiblliaaChecked
import GoSem.Claim
import GoSem.ClaimJoined
import GoSem.ClaimMapViews
import Derived.JoinedTies
import Derived.KernelRfl
namespace Go.Proofs.Ytkdebpfdiblliaa
/- THE CELL 'sum', in the pinned program and in every row, IS THE sha256 OF THE DUMP (.gsa) THAT YtkdebpfdiblliaaProg.lean LOADS. Nothing in Lean hashes anything: it is a label: what it is worth is what the hold of that sum in a sandbox is worth. -/
noncomputable def Try.pinned : Pinned := { name := "ytkdebpfdiblliaa", sum := "7de5dee1724ab3736a2ebeb7fe92864648f3eaf4086969e9301142b39cefb50c", checked := Try.checked }
namespace Rows
def none {H : Type} : Left H := { results := [], args := [] }

/-- 'laws.FnRows': WHATEVER THE INPUT: true; the input reads as it did. -/
def fnRowsSpec : ChangeSpec := { name := "fnRows", fn := fun _ => fun
  | [d] => { results := [.lit (.bool true)], args := [d] }
  | _ => none }
def fnRowsRow : OpenClaim := { program := "ytkdebpfdiblliaa", sum := "7de5dee1724ab3736a2ebeb7fe92864648f3eaf4086969e9301142b39cefb50c", func := "loop.example/g00411/laws.FnRows", spec := "fnRows", unfollowed := true, recurses := true, apart := false }
def FnRowsSaid : Prop := fnRowsRow.holds Try.pinned (OpenSpec.ofChange fnRowsSpec)

/-- ITS FALSE NEIGHBOUR: 'it returns false'. Refute it at one input. -/
def fnRowsWrong : ChangeSpec := { name := "fnRows", fn := fun _ => fun
  | [d] => { results := [.lit (.bool false)], args := [d] }
  | _ => none }
def FnRowsWrongFalsely : Prop := fnRowsRow.holds Try.pinned (OpenSpec.ofChange fnRowsWrong)

/-- 'laws.FnExactRowsOk': WHATEVER THE INPUT: true; the input reads as it did. -/
def fnExactRowsOkSpec : ChangeSpec := { name := "fnExactRowsOk", fn := fun _ => fun
  | [d1, d2] => { results := [.lit (.bool true)], args := [d1, d2] }
  | _ => none }
def fnExactRowsOkRow : OpenClaim := { program := "ytkdebpfdiblliaa", sum := "7de5dee1724ab3736a2ebeb7fe92864648f3eaf4086969e9301142b39cefb50c", func := "loop.example/g00411/laws.FnExactRowsOk", spec := "fnExactRowsOk", unfollowed := true, recurses := true, apart := false }
def FnExactRowsOkSaid : Prop := fnExactRowsOkRow.holds Try.pinned (OpenSpec.ofChange fnExactRowsOkSpec)

/-- ITS FALSE NEIGHBOUR: 'it returns false'. Refute it at one input. -/
def fnExactRowsOkWrong : ChangeSpec := { name := "fnExactRowsOk", fn := fun _ => fun
  | [d1, d2] => { results := [.lit (.bool false)], args := [d1, d2] }
  | _ => none }
def FnExactRowsOkWrongFalsely : Prop := fnExactRowsOkRow.holds Try.pinned (OpenSpec.ofChange fnExactRowsOkWrong)

/-- 'laws.FnExactRowsCount': WHATEVER THE INPUT: true; the input reads as it did. -/
def fnExactRowsCountSpec : ChangeSpec := { name := "fnExactRowsCount", fn := fun _ => fun
  | [d] => { results := [.lit (.bool true)], args := [d] }
  | _ => none }
def fnExactRowsCountRow : OpenClaim := { program := "ytkdebpfdiblliaa", sum := "7de5dee1724ab3736a2ebeb7fe92864648f3eaf4086969e9301142b39cefb50c", func := "loop.example/g00411/laws.FnExactRowsCount", spec := "fnExactRowsCount", unfollowed := true, recurses := true, apart := false }
def FnExactRowsCountSaid : Prop := fnExactRowsCountRow.holds Try.pinned (OpenSpec.ofChange fnExactRowsCountSpec)

/-- ITS FALSE NEIGHBOUR: 'it returns false'. Refute it at one input. -/
def fnExactRowsCountWrong : ChangeSpec := { name := "fnExactRowsCount", fn := fun _ => fun
  | [d] => { results := [.lit (.bool false)], args := [d] }
  | _ => none }
def FnExactRowsCountWrongFalsely : Prop := fnExactRowsCountRow.holds Try.pinned (OpenSpec.ofChange fnExactRowsCountWrong)

/-- 'laws.FnExactRowsAt': WHATEVER THE INPUT: true; the input reads as it did. -/
def fnExactRowsAtSpec : ChangeSpec := { name := "fnExactRowsAt", fn := fun _ => fun
  | [d1, d2] => { results := [.lit (.bool true)], args := [d1, d2] }
  | _ => none }
def fnExactRowsAtRow : OpenClaim := { program := "ytkdebpfdiblliaa", sum := "7de5dee1724ab3736a2ebeb7fe92864648f3eaf4086969e9301142b39cefb50c", func := "loop.example/g00411/laws.FnExactRowsAt", spec := "fnExactRowsAt", unfollowed := true, recurses := true, apart := false }
def FnExactRowsAtSaid : Prop := fnExactRowsAtRow.holds Try.pinned (OpenSpec.ofChange fnExactRowsAtSpec)

/-- ITS FALSE NEIGHBOUR: 'it returns false'. Refute it at one input. -/
def fnExactRowsAtWrong : ChangeSpec := { name := "fnExactRowsAt", fn := fun _ => fun
  | [d1, d2] => { results := [.lit (.bool false)], args := [d1, d2] }
  | _ => none }
def FnExactRowsAtWrongFalsely : Prop := fnExactRowsAtRow.holds Try.pinned (OpenSpec.ofChange fnExactRowsAtWrong)

/-- 'laws.FnExactRowWeb': WHATEVER THE INPUT: true; the input reads as it did. -/
def fnExactRowWebSpec : ChangeSpec := { name := "fnExactRowWeb", fn := fun _ => fun
  | [d1, d2] => { results := [.lit (.bool true)], args := [d1, d2] }
  | _ => none }
def fnExactRowWebRow : OpenClaim := { program := "ytkdebpfdiblliaa", sum := "7de5dee1724ab3736a2ebeb7fe92864648f3eaf4086969e9301142b39cefb50c", func := "loop.example/g00411/laws.FnExactRowWeb", spec := "fnExactRowWeb", unfollowed := true, recurses := true, apart := false }
def FnExactRowWebSaid : Prop := fnExactRowWebRow.holds Try.pinned (OpenSpec.ofChange fnExactRowWebSpec)

/-- ITS FALSE NEIGHBOUR: 'it returns false'. Refute it at one input. -/
def fnExactRowWebWrong : ChangeSpec := { name := "fnExactRowWeb", fn := fun _ => fun
  | [d1, d2] => { results := [.lit (.bool false)], args := [d1, d2] }
  | _ => none }
def FnExactRowWebWrongFalsely : Prop := fnExactRowWebRow.holds Try.pinned (OpenSpec.ofChange fnExactRowWebWrong)

/- THE SECOND FORM. 'bulk': how many values and letters a reading holds, each counted each time it is reached (what is shared counts as often as it is met; a slice's spare places count too). A statement '..UptoSaid' is the law's where the arguments, and the package variables that the reading takes, are together of bulk at most 1048576: NARROWER than '..Said'. Prove '..Said' where nothing that the law and all that it calls make is longer than what came in: it says more and counts as full. Else prove '..UptoSaid'. A law counts once. -/
mutual
def uptoBulk {H : Type} : DataW H → Nat
  | .lit (.string bytes) => bytes.length + 1
  | .lit _ => 1
  | .nil => 1
  | .ptr d => uptoBulk d + 1
  | .slice elems spare => uptoBulkAll elems + uptoBulkAll spare + 1
  | .agg parts => uptoBulkAll parts + 1
  | .iface _ d => uptoBulk d + 1
  | .map entries => uptoBulkEntries entries + 1
  | .held _ => 1
def uptoBulkAll {H : Type} : List (DataW H) → Nat
  | [] => 0
  | d :: r => uptoBulk d + uptoBulkAll r
def uptoBulkEntries {H : Type} : List (Lit × DataW H) → Nat
  | [] => 0
  | x :: r => uptoBulkEntry x + uptoBulkEntries r
def uptoBulkEntry {H : Type} : Lit × DataW H → Nat
  | (.string bytes, d) => bytes.length + uptoBulk d + 1
  | (_, d) => uptoBulk d + 1
 end
def uptoSmall : (H : Type) → List (DataW H) → Bool := fun _ ds => decide (uptoBulkAll ds ≤ 1048576)
def OpenSpec.upto (s : _root_.Go.ChangeSpec) : _root_.Go.OpenSpec := { _root_.Go.OpenSpec.ofChange s with cond := some uptoSmall }

/-- 'laws.FnRows', WHERE WHAT IT READS IS OF BULK AT MOST 1048576: true; the input reads as it did. -/
def fnRowsUptoRow : OpenClaim := { program := "ytkdebpfdiblliaa", sum := "7de5dee1724ab3736a2ebeb7fe92864648f3eaf4086969e9301142b39cefb50c", func := "loop.example/g00411/laws.FnRows", spec := "fnRows", unfollowed := true, recurses := true, apart := false, narrowed := true }
def FnRowsUptoSaid : Prop := fnRowsUptoRow.holds Try.pinned (OpenSpec.upto fnRowsSpec)

/-- 'laws.FnExactRowsOk', WHERE WHAT IT READS IS OF BULK AT MOST 1048576: true; the input reads as it did. -/
def fnExactRowsOkUptoRow : OpenClaim := { program := "ytkdebpfdiblliaa", sum := "7de5dee1724ab3736a2ebeb7fe92864648f3eaf4086969e9301142b39cefb50c", func := "loop.example/g00411/laws.FnExactRowsOk", spec := "fnExactRowsOk", unfollowed := true, recurses := true, apart := false, narrowed := true }
def FnExactRowsOkUptoSaid : Prop := fnExactRowsOkUptoRow.holds Try.pinned (OpenSpec.upto fnExactRowsOkSpec)

/-- 'laws.FnExactRowsCount', WHERE WHAT IT READS IS OF BULK AT MOST 1048576: true; the input reads as it did. -/
def fnExactRowsCountUptoRow : OpenClaim := { program := "ytkdebpfdiblliaa", sum := "7de5dee1724ab3736a2ebeb7fe92864648f3eaf4086969e9301142b39cefb50c", func := "loop.example/g00411/laws.FnExactRowsCount", spec := "fnExactRowsCount", unfollowed := true, recurses := true, apart := false, narrowed := true }
def FnExactRowsCountUptoSaid : Prop := fnExactRowsCountUptoRow.holds Try.pinned (OpenSpec.upto fnExactRowsCountSpec)

/-- 'laws.FnExactRowsAt', WHERE WHAT IT READS IS OF BULK AT MOST 1048576: true; the input reads as it did. -/
def fnExactRowsAtUptoRow : OpenClaim := { program := "ytkdebpfdiblliaa", sum := "7de5dee1724ab3736a2ebeb7fe92864648f3eaf4086969e9301142b39cefb50c", func := "loop.example/g00411/laws.FnExactRowsAt", spec := "fnExactRowsAt", unfollowed := true, recurses := true, apart := false, narrowed := true }
def FnExactRowsAtUptoSaid : Prop := fnExactRowsAtUptoRow.holds Try.pinned (OpenSpec.upto fnExactRowsAtSpec)

/-- 'laws.FnExactRowWeb', WHERE WHAT IT READS IS OF BULK AT MOST 1048576: true; the input reads as it did. -/
def fnExactRowWebUptoRow : OpenClaim := { program := "ytkdebpfdiblliaa", sum := "7de5dee1724ab3736a2ebeb7fe92864648f3eaf4086969e9301142b39cefb50c", func := "loop.example/g00411/laws.FnExactRowWeb", spec := "fnExactRowWeb", unfollowed := true, recurses := true, apart := false, narrowed := true }
def FnExactRowWebUptoSaid : Prop := fnExactRowWebUptoRow.holds Try.pinned (OpenSpec.upto fnExactRowWebSpec)

end Rows
end Go.Proofs.Ytkdebpfdiblliaa
