/-
  No cell of these rows narrows 'for every input' (looked for: loops, veiled, ifaces, maps, wideKeys, modest, calm, conditions, laid).
  DERIVED. THE GIVEN ROWS OF THIS SEAT. 4 by the template 'for every input the law returns true; each argument reads behind the call as it read before'; 0 by the template 'total and deterministic' (their statements: YtgclnfhkjnomaaiTotals.lean).
  GIVEN WITH THE SEED: the statements are not yours to turn. If you find one false, say at which input.
  Laid BY PROGRAM, IN A SANDBOX (cutbox-rows.mjs): the forced cells as the released guide's own fill.sh prints them over the translation ecb03479fe709c1d… (all of the seat's roots in one cut). By AI agents, Wed Nov 11 2026. No macro, syntax, notation, axiom, sorry.
-/
import Derived.Test.YtgclnfhkjnomaaiChecked
import GoSem.Claim
import GoSem.ClaimJoined
import GoSem.ClaimMapViews
import Derived.JoinedTies
import Derived.KernelRfl
namespace Go.Proofs.Ytgclnfhkjnomaai
/- THE CELL 'sum', in the pinned program and in every row, IS THE sha256 OF THE DUMP (.gsa) THAT YtgclnfhkjnomaaiProg.lean LOADS. Nothing in Lean hashes anything: it is a label: what it is worth is what the hold of that sum in a sandbox is worth. -/
noncomputable def Try.pinned : Pinned := { name := "ytgclnfhkjnomaai", sum := "ecb03479fe709c1d30e8674baf68fb08bb03c8b90c348ce943053dd6f6cc5926", checked := Try.checked }
namespace Rows
def none {H : Type} : Left H := { results := [], args := [] }

/-- 'laws.FnExactSorted': WHATEVER THE INPUT: true; the input reads as it did. -/
def fnExactSortedSpec : ChangeSpec := { name := "fnExactSorted", fn := fun _ => fun
  | [d] => { results := [.lit (.bool true)], args := [d] }
  | _ => none }
def fnExactSortedRow : OpenClaim := { program := "ytgclnfhkjnomaai", sum := "ecb03479fe709c1d30e8674baf68fb08bb03c8b90c348ce943053dd6f6cc5926", func := "loop.example/g00411/laws.FnExactSorted", spec := "fnExactSorted", unfollowed := true, recurses := true, apart := false }
def FnExactSortedSaid : Prop := fnExactSortedRow.holds Try.pinned (OpenSpec.ofChange fnExactSortedSpec)

/-- ITS FALSE NEIGHBOUR: 'it returns false'. Refute it at one input. -/
def fnExactSortedWrong : ChangeSpec := { name := "fnExactSorted", fn := fun _ => fun
  | [d] => { results := [.lit (.bool false)], args := [d] }
  | _ => none }
def FnExactSortedWrongFalsely : Prop := fnExactSortedRow.holds Try.pinned (OpenSpec.ofChange fnExactSortedWrong)

/-- 'laws.FnExactLifted': WHATEVER THE INPUT: true; the input reads as it did. -/
def fnExactLiftedSpec : ChangeSpec := { name := "fnExactLifted", fn := fun _ => fun
  | [d1, d2] => { results := [.lit (.bool true)], args := [d1, d2] }
  | _ => none }
def fnExactLiftedRow : OpenClaim := { program := "ytgclnfhkjnomaai", sum := "ecb03479fe709c1d30e8674baf68fb08bb03c8b90c348ce943053dd6f6cc5926", func := "loop.example/g00411/laws.FnExactLifted", spec := "fnExactLifted", unfollowed := true, recurses := true, apart := false }
def FnExactLiftedSaid : Prop := fnExactLiftedRow.holds Try.pinned (OpenSpec.ofChange fnExactLiftedSpec)

/-- ITS FALSE NEIGHBOUR: 'it returns false'. Refute it at one input. -/
def fnExactLiftedWrong : ChangeSpec := { name := "fnExactLifted", fn := fun _ => fun
  | [d1, d2] => { results := [.lit (.bool false)], args := [d1, d2] }
  | _ => none }
def FnExactLiftedWrongFalsely : Prop := fnExactLiftedRow.holds Try.pinned (OpenSpec.ofChange fnExactLiftedWrong)

/-- 'laws.FnExactFollows': WHATEVER THE INPUT: true; the input reads as it did. -/
def fnExactFollowsSpec : ChangeSpec := { name := "fnExactFollows", fn := fun _ => fun
  | [d1, d2] => { results := [.lit (.bool true)], args := [d1, d2] }
  | _ => none }
def fnExactFollowsRow : OpenClaim := { program := "ytgclnfhkjnomaai", sum := "ecb03479fe709c1d30e8674baf68fb08bb03c8b90c348ce943053dd6f6cc5926", func := "loop.example/g00411/laws.FnExactFollows", spec := "fnExactFollows", apart := false }
def FnExactFollowsSaid : Prop := fnExactFollowsRow.holds Try.pinned (OpenSpec.ofChange fnExactFollowsSpec)

/-- ITS FALSE NEIGHBOUR: 'it returns false'. Refute it at one input. -/
def fnExactFollowsWrong : ChangeSpec := { name := "fnExactFollows", fn := fun _ => fun
  | [d1, d2] => { results := [.lit (.bool false)], args := [d1, d2] }
  | _ => none }
def FnExactFollowsWrongFalsely : Prop := fnExactFollowsRow.holds Try.pinned (OpenSpec.ofChange fnExactFollowsWrong)

/-- 'laws.FnExactReadDeed': WHATEVER THE INPUT: true; the input reads as it did. -/
def fnExactReadDeedSpec : ChangeSpec := { name := "fnExactReadDeed", fn := fun _ => fun
  | [d] => { results := [.lit (.bool true)], args := [d] }
  | _ => none }
def fnExactReadDeedRow : OpenClaim := { program := "ytgclnfhkjnomaai", sum := "ecb03479fe709c1d30e8674baf68fb08bb03c8b90c348ce943053dd6f6cc5926", func := "loop.example/g00411/laws.FnExactReadDeed", spec := "fnExactReadDeed", apart := false }
def FnExactReadDeedSaid : Prop := fnExactReadDeedRow.holds Try.pinned (OpenSpec.ofChange fnExactReadDeedSpec)

/-- ITS FALSE NEIGHBOUR: 'it returns false'. Refute it at one input. -/
def fnExactReadDeedWrong : ChangeSpec := { name := "fnExactReadDeed", fn := fun _ => fun
  | [d] => { results := [.lit (.bool false)], args := [d] }
  | _ => none }
def FnExactReadDeedWrongFalsely : Prop := fnExactReadDeedRow.holds Try.pinned (OpenSpec.ofChange fnExactReadDeedWrong)

/- THE SECOND FORM. 'bulk': how many values and letters a reading holds, each counted each time it is reached (what is shared counts as often as it is met; a slice's spare places count too). A statement '..UptoSaid' is the law's where the arguments, and the package variables that the reading takes, are together of bulk at most 1048576: NARROWER than '..Said'. Prove '..Said' where nothing that the law and all that it calls make is longer than what came in: it says more and counts as full. Else prove '..UptoSaid'. A law counts once. -/
mutual
def uptoBulk {H : Type} : DataW H → Nat
  | .lit (.string bytes) => bytes.length + 1
  | .lit _ => 1
  | .nil => 1
  | .ptr d => uptoBulk d + 1
  | .slice elems spare => uptoBulkAll elems + uptoBulkAll spare + 1
  | .agg parts => uptoBulkAll parts + 1
  | .iface _ d => uptoBulk d + 1
  | .map entries => uptoBulkEntries entries + 1
  | .held _ => 1
def uptoBulkAll {H : Type} : List (DataW H) → Nat
  | [] => 0
  | d :: r => uptoBulk d + uptoBulkAll r
def uptoBulkEntries {H : Type} : List (Lit × DataW H) → Nat
  | [] => 0
  | x :: r => uptoBulkEntry x + uptoBulkEntries r
def uptoBulkEntry {H : Type} : Lit × DataW H → Nat
  | (.string bytes, d) => bytes.length + uptoBulk d + 1
  | (_, d) => uptoBulk d + 1
 end
def uptoSmall : (H : Type) → List (DataW H) → Bool := fun _ ds => decide (uptoBulkAll ds ≤ 1048576)
def OpenSpec.upto (s : _root_.Go.ChangeSpec) : _root_.Go.OpenSpec := { _root_.Go.OpenSpec.ofChange s with cond := some uptoSmall }

/-- 'laws.FnExactSorted', WHERE WHAT IT READS IS OF BULK AT MOST 1048576: true; the input reads as it did. -/
def fnExactSortedUptoRow : OpenClaim := { program := "ytgclnfhkjnomaai", sum := "ecb03479fe709c1d30e8674baf68fb08bb03c8b90c348ce943053dd6f6cc5926", func := "loop.example/g00411/laws.FnExactSorted", spec := "fnExactSorted", unfollowed := true, recurses := true, apart := false, narrowed := true }
def FnExactSortedUptoSaid : Prop := fnExactSortedUptoRow.holds Try.pinned (OpenSpec.upto fnExactSortedSpec)

/-- 'laws.FnExactLifted', WHERE WHAT IT READS IS OF BULK AT MOST 1048576: true; the input reads as it did. -/
def fnExactLiftedUptoRow : OpenClaim := { program := "ytgclnfhkjnomaai", sum := "ecb03479fe709c1d30e8674baf68fb08bb03c8b90c348ce943053dd6f6cc5926", func := "loop.example/g00411/laws.FnExactLifted", spec := "fnExactLifted", unfollowed := true, recurses := true, apart := false, narrowed := true }
def FnExactLiftedUptoSaid : Prop := fnExactLiftedUptoRow.holds Try.pinned (OpenSpec.upto fnExactLiftedSpec)

/-- 'laws.FnExactFollows', WHERE WHAT IT READS IS OF BULK AT MOST 1048576: true; the input reads as it did. -/
def fnExactFollowsUptoRow : OpenClaim := { program := "ytgclnfhkjnomaai", sum := "ecb03479fe709c1d30e8674baf68fb08bb03c8b90c348ce943053dd6f6cc5926", func := "loop.example/g00411/laws.FnExactFollows", spec := "fnExactFollows", apart := false, narrowed := true }
def FnExactFollowsUptoSaid : Prop := fnExactFollowsUptoRow.holds Try.pinned (OpenSpec.upto fnExactFollowsSpec)

/-- 'laws.FnExactReadDeed', WHERE WHAT IT READS IS OF BULK AT MOST 1048576: true; the input reads as it did. -/
def fnExactReadDeedUptoRow : OpenClaim := { program := "ytgclnfhkjnomaai", sum := "ecb03479fe709c1d30e8674baf68fb08bb03c8b90c348ce943053dd6f6cc5926", func := "loop.example/g00411/laws.FnExactReadDeed", spec := "fnExactReadDeed", apart := false, narrowed := true }
def FnExactReadDeedUptoSaid : Prop := fnExactReadDeedUptoRow.holds Try.pinned (OpenSpec.upto fnExactReadDeedSpec)

end Rows
end Go.Proofs.Ytgclnfhkjnomaai
