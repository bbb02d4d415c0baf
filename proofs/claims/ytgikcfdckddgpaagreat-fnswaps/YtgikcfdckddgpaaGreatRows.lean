/-
  No cell of these rows narrows 'for every input' (looked for: loops, veiled, ifaces, maps, wideKeys, modest, calm, conditions, laid).
  DERIVED. THE GIVEN ROWS OF THIS SEAT. 6 by the template 'for every input the law returns true; each argument reads behind the call as it read before'; 0 by the template 'total and deterministic' (their statements: YtgikcfdckddgpaaGreatTotals.lean).
  GIVEN WITH THE SEED: the statements are not yours to turn. If you find one false, say at which input.
  Laid BY PROGRAM, IN A SANDBOX (cutbox-rows.mjs): the forced cells as the released guide's own fill.sh prints them over the translation c6f2c196f3002aec… (all of the seat's roots in one cut). By AI agents, Wed Nov 11 2026. No macro, syntax, notation, axiom, sorry.
-/
import Derived.Test.YtgikcfdckddgpaaGreatChecked
import GoSem.Claim
import GoSem.ClaimJoined
import GoSem.ClaimMapViews
import Derived.JoinedTies
import Derived.KernelRfl
namespace Go.Proofs.YtgikcfdckddgpaaGreat
/- THE CELL 'sum', in the pinned program and in every row, IS THE sha256 OF THE DUMP (.gsa) THAT YtgikcfdckddgpaaGreatProg.lean LOADS. Nothing in Lean hashes anything: it is a label: what it is worth is what the hold of that sum in a sandbox is worth. -/
noncomputable def Tryz.pinned : Pinned := { name := "ytgikcfdckddgpaagreat", sum := "c6f2c196f3002aece5dec234659ecd5022cc9cf4c9f18c6076921e5c4bf5522a", checked := Tryz.checked }
namespace Rows
def none {H : Type} : Left H := { results := [], args := [] }

/-- 'laws.FnSlow': WHATEVER THE INPUT: true; the input reads as it did. -/
def fnSlowSpec : ChangeSpec := { name := "fnSlow", fn := fun _ => fun
  | [d] => { results := [.lit (.bool true)], args := [d] }
  | _ => none }
def fnSlowRow : OpenClaim := { program := "ytgikcfdckddgpaagreat", sum := "c6f2c196f3002aece5dec234659ecd5022cc9cf4c9f18c6076921e5c4bf5522a", func := "loop.example/g00411/laws.FnSlow", spec := "fnSlow", unfollowed := true, recurses := true, apart := false }
def FnSlowSaid : Prop := fnSlowRow.holds Tryz.pinned (OpenSpec.ofChange fnSlowSpec)

/-- ITS FALSE NEIGHBOUR: 'it returns false'. Refute it at one input. -/
def fnSlowWrong : ChangeSpec := { name := "fnSlow", fn := fun _ => fun
  | [d] => { results := [.lit (.bool false)], args := [d] }
  | _ => none }
def FnSlowWrongFalsely : Prop := fnSlowRow.holds Tryz.pinned (OpenSpec.ofChange fnSlowWrong)

/-- 'laws.FnStricter': WHATEVER THE INPUT: true; the input reads as it did. -/
def fnStricterSpec : ChangeSpec := { name := "fnStricter", fn := fun _ => fun
  | [d] => { results := [.lit (.bool true)], args := [d] }
  | _ => none }
def fnStricterRow : OpenClaim := { program := "ytgikcfdckddgpaagreat", sum := "c6f2c196f3002aece5dec234659ecd5022cc9cf4c9f18c6076921e5c4bf5522a", func := "loop.example/g00411/laws.FnStricter", spec := "fnStricter", unfollowed := true, recurses := true, apart := false }
def FnStricterSaid : Prop := fnStricterRow.holds Tryz.pinned (OpenSpec.ofChange fnStricterSpec)

/-- ITS FALSE NEIGHBOUR: 'it returns false'. Refute it at one input. -/
def fnStricterWrong : ChangeSpec := { name := "fnStricter", fn := fun _ => fun
  | [d] => { results := [.lit (.bool false)], args := [d] }
  | _ => none }
def FnStricterWrongFalsely : Prop := fnStricterRow.holds Tryz.pinned (OpenSpec.ofChange fnStricterWrong)

/-- 'laws.FnOneClerk': WHATEVER THE INPUT: true; the input reads as it did. -/
def fnOneClerkSpec : ChangeSpec := { name := "fnOneClerk", fn := fun _ => fun
  | [d] => { results := [.lit (.bool true)], args := [d] }
  | _ => none }
def fnOneClerkRow : OpenClaim := { program := "ytgikcfdckddgpaagreat", sum := "c6f2c196f3002aece5dec234659ecd5022cc9cf4c9f18c6076921e5c4bf5522a", func := "loop.example/g00411/laws.FnOneClerk", spec := "fnOneClerk", unfollowed := true, recurses := true, apart := false }
def FnOneClerkSaid : Prop := fnOneClerkRow.holds Tryz.pinned (OpenSpec.ofChange fnOneClerkSpec)

/-- ITS FALSE NEIGHBOUR: 'it returns false'. Refute it at one input. -/
def fnOneClerkWrong : ChangeSpec := { name := "fnOneClerk", fn := fun _ => fun
  | [d] => { results := [.lit (.bool false)], args := [d] }
  | _ => none }
def FnOneClerkWrongFalsely : Prop := fnOneClerkRow.holds Tryz.pinned (OpenSpec.ofChange fnOneClerkWrong)

/-- 'laws.FnWaitedStrict': WHATEVER THE INPUT: true; the input reads as it did. -/
def fnWaitedStrictSpec : ChangeSpec := { name := "fnWaitedStrict", fn := fun _ => fun
  | [d] => { results := [.lit (.bool true)], args := [d] }
  | _ => none }
def fnWaitedStrictRow : OpenClaim := { program := "ytgikcfdckddgpaagreat", sum := "c6f2c196f3002aece5dec234659ecd5022cc9cf4c9f18c6076921e5c4bf5522a", func := "loop.example/g00411/laws.FnWaitedStrict", spec := "fnWaitedStrict", unfollowed := true, recurses := true, apart := false }
def FnWaitedStrictSaid : Prop := fnWaitedStrictRow.holds Tryz.pinned (OpenSpec.ofChange fnWaitedStrictSpec)

/-- ITS FALSE NEIGHBOUR: 'it returns false'. Refute it at one input. -/
def fnWaitedStrictWrong : ChangeSpec := { name := "fnWaitedStrict", fn := fun _ => fun
  | [d] => { results := [.lit (.bool false)], args := [d] }
  | _ => none }
def FnWaitedStrictWrongFalsely : Prop := fnWaitedStrictRow.holds Tryz.pinned (OpenSpec.ofChange fnWaitedStrictWrong)

/-- 'laws.FnSwaps': WHATEVER THE INPUT: true; the input reads as it did. -/
def fnSwapsSpec : ChangeSpec := { name := "fnSwaps", fn := fun _ => fun
  | [d] => { results := [.lit (.bool true)], args := [d] }
  | _ => none }
def fnSwapsRow : OpenClaim := { program := "ytgikcfdckddgpaagreat", sum := "c6f2c196f3002aece5dec234659ecd5022cc9cf4c9f18c6076921e5c4bf5522a", func := "loop.example/g00411/laws.FnSwaps", spec := "fnSwaps", unfollowed := true, recurses := true, apart := false }
def FnSwapsSaid : Prop := fnSwapsRow.holds Tryz.pinned (OpenSpec.ofChange fnSwapsSpec)

/-- ITS FALSE NEIGHBOUR: 'it returns false'. Refute it at one input. -/
def fnSwapsWrong : ChangeSpec := { name := "fnSwaps", fn := fun _ => fun
  | [d] => { results := [.lit (.bool false)], args := [d] }
  | _ => none }
def FnSwapsWrongFalsely : Prop := fnSwapsRow.holds Tryz.pinned (OpenSpec.ofChange fnSwapsWrong)

/-- 'laws.FnExactSlowWeb': WHATEVER THE INPUT: true; the input reads as it did. -/
def fnExactSlowWebSpec : ChangeSpec := { name := "fnExactSlowWeb", fn := fun _ => fun
  | [d1, d2] => { results := [.lit (.bool true)], args := [d1, d2] }
  | _ => none }
def fnExactSlowWebRow : OpenClaim := { program := "ytgikcfdckddgpaagreat", sum := "c6f2c196f3002aece5dec234659ecd5022cc9cf4c9f18c6076921e5c4bf5522a", func := "loop.example/g00411/laws.FnExactSlowWeb", spec := "fnExactSlowWeb", unfollowed := true, recurses := true, apart := false }
def FnExactSlowWebSaid : Prop := fnExactSlowWebRow.holds Tryz.pinned (OpenSpec.ofChange fnExactSlowWebSpec)

/-- ITS FALSE NEIGHBOUR: 'it returns false'. Refute it at one input. -/
def fnExactSlowWebWrong : ChangeSpec := { name := "fnExactSlowWeb", fn := fun _ => fun
  | [d1, d2] => { results := [.lit (.bool false)], args := [d1, d2] }
  | _ => none }
def FnExactSlowWebWrongFalsely : Prop := fnExactSlowWebRow.holds Tryz.pinned (OpenSpec.ofChange fnExactSlowWebWrong)

/- THE SECOND FORM. 'bulk': how many values and letters a reading holds, each counted each time it is reached (what is shared counts as often as it is met; a slice's spare places count too). A statement '..UptoSaid' is the law's where the arguments, and the package variables that the reading takes, are together of bulk at most 1048576: NARROWER than '..Said'. Prove '..Said' where nothing that the law and all that it calls make is longer than what came in: it says more and counts as full. Else prove '..UptoSaid'. A law counts once. -/
mutual
def uptoBulk {H : Type} : DataW H → Nat
  | .lit (.string bytes) => bytes.length + 1
  | .lit _ => 1
  | .nil => 1
  | .ptr d => uptoBulk d + 1
  | .slice elems spare => uptoBulkAll elems + uptoBulkAll spare + 1
  | .agg parts => uptoBulkAll parts + 1
  | .iface _ d => uptoBulk d + 1
  | .map entries => uptoBulkEntries entries + 1
  | .held _ => 1
def uptoBulkAll {H : Type} : List (DataW H) → Nat
  | [] => 0
  | d :: r => uptoBulk d + uptoBulkAll r
def uptoBulkEntries {H : Type} : List (Lit × DataW H) → Nat
  | [] => 0
  | x :: r => uptoBulkEntry x + uptoBulkEntries r
def uptoBulkEntry {H : Type} : Lit × DataW H → Nat
  | (.string bytes, d) => bytes.length + uptoBulk d + 1
  | (_, d) => uptoBulk d + 1
 end
def uptoSmall : (H : Type) → List (DataW H) → Bool := fun _ ds => decide (uptoBulkAll ds ≤ 1048576)
def OpenSpec.upto (s : _root_.Go.ChangeSpec) : _root_.Go.OpenSpec := { _root_.Go.OpenSpec.ofChange s with cond := some uptoSmall }

/-- 'laws.FnSlow', WHERE WHAT IT READS IS OF BULK AT MOST 1048576: true; the input reads as it did. -/
def fnSlowUptoRow : OpenClaim := { program := "ytgikcfdckddgpaagreat", sum := "c6f2c196f3002aece5dec234659ecd5022cc9cf4c9f18c6076921e5c4bf5522a", func := "loop.example/g00411/laws.FnSlow", spec := "fnSlow", unfollowed := true, recurses := true, apart := false, narrowed := true }
def FnSlowUptoSaid : Prop := fnSlowUptoRow.holds Tryz.pinned (OpenSpec.upto fnSlowSpec)

/-- 'laws.FnStricter', WHERE WHAT IT READS IS OF BULK AT MOST 1048576: true; the input reads as it did. -/
def fnStricterUptoRow : OpenClaim := { program := "ytgikcfdckddgpaagreat", sum := "c6f2c196f3002aece5dec234659ecd5022cc9cf4c9f18c6076921e5c4bf5522a", func := "loop.example/g00411/laws.FnStricter", spec := "fnStricter", unfollowed := true, recurses := true, apart := false, narrowed := true }
def FnStricterUptoSaid : Prop := fnStricterUptoRow.holds Tryz.pinned (OpenSpec.upto fnStricterSpec)

/-- 'laws.FnOneClerk', WHERE WHAT IT READS IS OF BULK AT MOST 1048576: true; the input reads as it did. -/
def fnOneClerkUptoRow : OpenClaim := { program := "ytgikcfdckddgpaagreat", sum := "c6f2c196f3002aece5dec234659ecd5022cc9cf4c9f18c6076921e5c4bf5522a", func := "loop.example/g00411/laws.FnOneClerk", spec := "fnOneClerk", unfollowed := true, recurses := true, apart := false, narrowed := true }
def FnOneClerkUptoSaid : Prop := fnOneClerkUptoRow.holds Tryz.pinned (OpenSpec.upto fnOneClerkSpec)

/-- 'laws.FnWaitedStrict', WHERE WHAT IT READS IS OF BULK AT MOST 1048576: true; the input reads as it did. -/
def fnWaitedStrictUptoRow : OpenClaim := { program := "ytgikcfdckddgpaagreat", sum := "c6f2c196f3002aece5dec234659ecd5022cc9cf4c9f18c6076921e5c4bf5522a", func := "loop.example/g00411/laws.FnWaitedStrict", spec := "fnWaitedStrict", unfollowed := true, recurses := true, apart := false, narrowed := true }
def FnWaitedStrictUptoSaid : Prop := fnWaitedStrictUptoRow.holds Tryz.pinned (OpenSpec.upto fnWaitedStrictSpec)

/-- 'laws.FnSwaps', WHERE WHAT IT READS IS OF BULK AT MOST 1048576: true; the input reads as it did. -/
def fnSwapsUptoRow : OpenClaim := { program := "ytgikcfdckddgpaagreat", sum := "c6f2c196f3002aece5dec234659ecd5022cc9cf4c9f18c6076921e5c4bf5522a", func := "loop.example/g00411/laws.FnSwaps", spec := "fnSwaps", unfollowed := true, recurses := true, apart := false, narrowed := true }
def FnSwapsUptoSaid : Prop := fnSwapsUptoRow.holds Tryz.pinned (OpenSpec.upto fnSwapsSpec)

/-- 'laws.FnExactSlowWeb', WHERE WHAT IT READS IS OF BULK AT MOST 1048576: true; the input reads as it did. -/
def fnExactSlowWebUptoRow : OpenClaim := { program := "ytgikcfdckddgpaagreat", sum := "c6f2c196f3002aece5dec234659ecd5022cc9cf4c9f18c6076921e5c4bf5522a", func := "loop.example/g00411/laws.FnExactSlowWeb", spec := "fnExactSlowWeb", unfollowed := true, recurses := true, apart := false, narrowed := true }
def FnExactSlowWebUptoSaid : Prop := fnExactSlowWebUptoRow.holds Tryz.pinned (OpenSpec.upto fnExactSlowWebSpec)

end Rows
end Go.Proofs.YtgikcfdckddgpaaGreat
