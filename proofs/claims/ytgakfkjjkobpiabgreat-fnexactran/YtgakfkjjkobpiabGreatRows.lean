/-
  No cell of these rows narrows 'for every input' (looked for: loops, veiled, ifaces, maps, wideKeys, modest, calm, conditions, laid).
  DERIVED. THE GIVEN ROWS OF THIS SEAT. 3 by the template 'for every input the law returns true; each argument reads behind the call as it read before'; 0 by the template 'total and deterministic' (their statements: YtgakfkjjkobpiabGreatTotals.lean).
  GIVEN WITH THE SEED: the statements are not yours to turn. If you find one false, say at which input.
  Laid BY PROGRAM, IN A SANDBOX (cutbox-rows.mjs): the forced cells as the released guide's own fill.sh prints them over the translation fb8ffff488ff6bea… (all of the seat's roots in one cut). By AI agents, Wed Nov 11 2026. No macro, syntax, notation, axiom, sorry.
-/
import Derived.Test.YtgakfkjjkobpiabGreatChecked
import GoSem.Claim
import GoSem.ClaimJoined
import GoSem.ClaimMapViews
import Derived.JoinedTies
import Derived.KernelRfl
namespace Go.Proofs.YtgakfkjjkobpiabGreat
/- THE CELL 'sum', in the pinned program and in every row, IS THE sha256 OF THE DUMP (.gsa) THAT YtgakfkjjkobpiabGreatProg.lean LOADS. Nothing in Lean hashes anything: it is a label: what it is worth is what the hold of that sum in a sandbox is worth. -/
noncomputable def Tryz.pinned : Pinned := { name := "ytgakfkjjkobpiabgreat", sum := "fb8ffff488ff6bea25e61fedd9266d840b6794d5c730920c1ec52d31b0a1543b", checked := Tryz.checked }
namespace Rows
def none {H : Type} : Left H := { results := [], args := [] }

/-- 'laws.FnExactStepped': WHATEVER THE INPUT: true; the input reads as it did. -/
def fnExactSteppedSpec : ChangeSpec := { name := "fnExactStepped", fn := fun _ => fun
  | [d1, d2] => { results := [.lit (.bool true)], args := [d1, d2] }
  | _ => none }
def fnExactSteppedRow : OpenClaim := { program := "ytgakfkjjkobpiabgreat", sum := "fb8ffff488ff6bea25e61fedd9266d840b6794d5c730920c1ec52d31b0a1543b", func := "loop.example/g00411/laws.FnExactStepped", spec := "fnExactStepped", unfollowed := true, recurses := true, apart := false }
def FnExactSteppedSaid : Prop := fnExactSteppedRow.holds Tryz.pinned (OpenSpec.ofChange fnExactSteppedSpec)

/-- ITS FALSE NEIGHBOUR: 'it returns false'. Refute it at one input. -/
def fnExactSteppedWrong : ChangeSpec := { name := "fnExactStepped", fn := fun _ => fun
  | [d1, d2] => { results := [.lit (.bool false)], args := [d1, d2] }
  | _ => none }
def FnExactSteppedWrongFalsely : Prop := fnExactSteppedRow.holds Tryz.pinned (OpenSpec.ofChange fnExactSteppedWrong)

/-- 'laws.FnExactRan': WHATEVER THE INPUT: true; the input reads as it did. -/
def fnExactRanSpec : ChangeSpec := { name := "fnExactRan", fn := fun _ => fun
  | [d1, d2] => { results := [.lit (.bool true)], args := [d1, d2] }
  | _ => none }
def fnExactRanRow : OpenClaim := { program := "ytgakfkjjkobpiabgreat", sum := "fb8ffff488ff6bea25e61fedd9266d840b6794d5c730920c1ec52d31b0a1543b", func := "loop.example/g00411/laws.FnExactRan", spec := "fnExactRan", unfollowed := true, recurses := true, apart := false }
def FnExactRanSaid : Prop := fnExactRanRow.holds Tryz.pinned (OpenSpec.ofChange fnExactRanSpec)

/-- ITS FALSE NEIGHBOUR: 'it returns false'. Refute it at one input. -/
def fnExactRanWrong : ChangeSpec := { name := "fnExactRan", fn := fun _ => fun
  | [d1, d2] => { results := [.lit (.bool false)], args := [d1, d2] }
  | _ => none }
def FnExactRanWrongFalsely : Prop := fnExactRanRow.holds Tryz.pinned (OpenSpec.ofChange fnExactRanWrong)

/-- 'laws.FnExactQuick': WHATEVER THE INPUT: true; the input reads as it did. -/
def fnExactQuickSpec : ChangeSpec := { name := "fnExactQuick", fn := fun _ => fun
  | [d1, d2] => { results := [.lit (.bool true)], args := [d1, d2] }
  | _ => none }
def fnExactQuickRow : OpenClaim := { program := "ytgakfkjjkobpiabgreat", sum := "fb8ffff488ff6bea25e61fedd9266d840b6794d5c730920c1ec52d31b0a1543b", func := "loop.example/g00411/laws.FnExactQuick", spec := "fnExactQuick", unfollowed := true, recurses := true, apart := false }
def FnExactQuickSaid : Prop := fnExactQuickRow.holds Tryz.pinned (OpenSpec.ofChange fnExactQuickSpec)

/-- ITS FALSE NEIGHBOUR: 'it returns false'. Refute it at one input. -/
def fnExactQuickWrong : ChangeSpec := { name := "fnExactQuick", fn := fun _ => fun
  | [d1, d2] => { results := [.lit (.bool false)], args := [d1, d2] }
  | _ => none }
def FnExactQuickWrongFalsely : Prop := fnExactQuickRow.holds Tryz.pinned (OpenSpec.ofChange fnExactQuickWrong)

/- THE SECOND FORM. 'bulk': how many values and letters a reading holds, each counted each time it is reached (what is shared counts as often as it is met; a slice's spare places count too). A statement '..UptoSaid' is the law's where the arguments, and the package variables that the reading takes, are together of bulk at most 1048576: NARROWER than '..Said'. Prove '..Said' where nothing that the law and all that it calls make is longer than what came in: it says more and counts as full. Else prove '..UptoSaid'. A law counts once. -/
mutual
def uptoBulk {H : Type} : DataW H → Nat
  | .lit (.string bytes) => bytes.length + 1
  | .lit _ => 1
  | .nil => 1
  | .ptr d => uptoBulk d + 1
  | .slice elems spare => uptoBulkAll elems + uptoBulkAll spare + 1
  | .agg parts => uptoBulkAll parts + 1
  | .iface _ d => uptoBulk d + 1
  | .map entries => uptoBulkEntries entries + 1
  | .held _ => 1
def uptoBulkAll {H : Type} : List (DataW H) → Nat
  | [] => 0
  | d :: r => uptoBulk d + uptoBulkAll r
def uptoBulkEntries {H : Type} : List (Lit × DataW H) → Nat
  | [] => 0
  | x :: r => uptoBulkEntry x + uptoBulkEntries r
def uptoBulkEntry {H : Type} : Lit × DataW H → Nat
  | (.string bytes, d) => bytes.length + uptoBulk d + 1
  | (_, d) => uptoBulk d + 1
 end
def uptoSmall : (H : Type) → List (DataW H) → Bool := fun _ ds => decide (uptoBulkAll ds ≤ 1048576)
def OpenSpec.upto (s : _root_.Go.ChangeSpec) : _root_.Go.OpenSpec := { _root_.Go.OpenSpec.ofChange s with cond := some uptoSmall }

/-- 'laws.FnExactStepped', WHERE WHAT IT READS IS OF BULK AT MOST 1048576: true; the input reads as it did. -/
def fnExactSteppedUptoRow : OpenClaim := { program := "ytgakfkjjkobpiabgreat", sum := "fb8ffff488ff6bea25e61fedd9266d840b6794d5c730920c1ec52d31b0a1543b", func := "loop.example/g00411/laws.FnExactStepped", spec := "fnExactStepped", unfollowed := true, recurses := true, apart := false, narrowed := true }
def FnExactSteppedUptoSaid : Prop := fnExactSteppedUptoRow.holds Tryz.pinned (OpenSpec.upto fnExactSteppedSpec)

/-- 'laws.FnExactRan', WHERE WHAT IT READS IS OF BULK AT MOST 1048576: true; the input reads as it did. -/
def fnExactRanUptoRow : OpenClaim := { program := "ytgakfkjjkobpiabgreat", sum := "fb8ffff488ff6bea25e61fedd9266d840b6794d5c730920c1ec52d31b0a1543b", func := "loop.example/g00411/laws.FnExactRan", spec := "fnExactRan", unfollowed := true, recurses := true, apart := false, narrowed := true }
def FnExactRanUptoSaid : Prop := fnExactRanUptoRow.holds Tryz.pinned (OpenSpec.upto fnExactRanSpec)

/-- 'laws.FnExactQuick', WHERE WHAT IT READS IS OF BULK AT MOST 1048576: true; the input reads as it did. -/
def fnExactQuickUptoRow : OpenClaim := { program := "ytgakfkjjkobpiabgreat", sum := "fb8ffff488ff6bea25e61fedd9266d840b6794d5c730920c1ec52d31b0a1543b", func := "loop.example/g00411/laws.FnExactQuick", spec := "fnExactQuick", unfollowed := true, recurses := true, apart := false, narrowed := true }
def FnExactQuickUptoSaid : Prop := fnExactQuickUptoRow.holds Tryz.pinned (OpenSpec.upto fnExactQuickSpec)

end Rows
end Go.Proofs.YtgakfkjjkobpiabGreat
