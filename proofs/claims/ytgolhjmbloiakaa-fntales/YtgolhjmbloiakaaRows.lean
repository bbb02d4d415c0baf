/-
  No cell of these rows narrows 'for every input' (looked for: loops, veiled, ifaces, maps, wideKeys, modest, calm, conditions, laid).
  DERIVED. THE GIVEN ROWS OF THIS SEAT. 5 by the template 'for every input the law returns true; each argument reads behind the call as it read before'; 0 by the template 'total and deterministic' (their statements: YtgolhjmbloiakaaTotals.lean).
  GIVEN WITH THE SEED: the statements are not yours to turn. If you find one false, say at which input.
  Laid BY PROGRAM, IN A SANDBOX (cutbox-rows.mjs): the forced cells as the released guide's own fill.sh prints them over the translation 60d06eb474529d41… (all of the seat's roots in one cut). By AI agents, Wed Nov 11 2026. No macro, syntax, notation, axiom, sorry.
-/
import Derived.Test.YtgolhjmbloiakaaChecked
import GoSem.Claim
import GoSem.ClaimJoined
import GoSem.ClaimMapViews
import Derived.JoinedTies
import Derived.KernelRfl
namespace Go.Proofs.Ytgolhjmbloiakaa
/- THE CELL 'sum', in the pinned program and in every row, IS THE sha256 OF THE DUMP (.gsa) THAT YtgolhjmbloiakaaProg.lean LOADS. Nothing in Lean hashes anything: it is a label: what it is worth is what the hold of that sum in a sandbox is worth. -/
noncomputable def Try.pinned : Pinned := { name := "ytgolhjmbloiakaa", sum := "60d06eb474529d41b36b52e63adf4a0c810476d95956123686c0524f2b2f591e", checked := Try.checked }
namespace Rows
def none {H : Type} : Left H := { results := [], args := [] }

/-- 'laws.FnTales': WHATEVER THE INPUT: true; the input reads as it did. -/
def fnTalesSpec : ChangeSpec := { name := "fnTales", fn := fun _ => fun
  | [d] => { results := [.lit (.bool true)], args := [d] }
  | _ => none }
def fnTalesRow : OpenClaim := { program := "ytgolhjmbloiakaa", sum := "60d06eb474529d41b36b52e63adf4a0c810476d95956123686c0524f2b2f591e", func := "loop.example/g00411/laws.FnTales", spec := "fnTales", unfollowed := true, recurses := true, apart := false }
def FnTalesSaid : Prop := fnTalesRow.holds Try.pinned (OpenSpec.ofChange fnTalesSpec)

/-- ITS FALSE NEIGHBOUR: 'it returns false'. Refute it at one input. -/
def fnTalesWrong : ChangeSpec := { name := "fnTales", fn := fun _ => fun
  | [d] => { results := [.lit (.bool false)], args := [d] }
  | _ => none }
def FnTalesWrongFalsely : Prop := fnTalesRow.holds Try.pinned (OpenSpec.ofChange fnTalesWrong)

/-- 'laws.FnExactTaleOk': WHATEVER THE INPUT: true; the input reads as it did. -/
def fnExactTaleOkSpec : ChangeSpec := { name := "fnExactTaleOk", fn := fun _ => fun
  | [d1, d2] => { results := [.lit (.bool true)], args := [d1, d2] }
  | _ => none }
def fnExactTaleOkRow : OpenClaim := { program := "ytgolhjmbloiakaa", sum := "60d06eb474529d41b36b52e63adf4a0c810476d95956123686c0524f2b2f591e", func := "loop.example/g00411/laws.FnExactTaleOk", spec := "fnExactTaleOk", unfollowed := true, recurses := true, apart := false }
def FnExactTaleOkSaid : Prop := fnExactTaleOkRow.holds Try.pinned (OpenSpec.ofChange fnExactTaleOkSpec)

/-- ITS FALSE NEIGHBOUR: 'it returns false'. Refute it at one input. -/
def fnExactTaleOkWrong : ChangeSpec := { name := "fnExactTaleOk", fn := fun _ => fun
  | [d1, d2] => { results := [.lit (.bool false)], args := [d1, d2] }
  | _ => none }
def FnExactTaleOkWrongFalsely : Prop := fnExactTaleOkRow.holds Try.pinned (OpenSpec.ofChange fnExactTaleOkWrong)

/-- 'laws.FnExactAgainstWeb': WHATEVER THE INPUT: true; the input reads as it did. -/
def fnExactAgainstWebSpec : ChangeSpec := { name := "fnExactAgainstWeb", fn := fun _ => fun
  | [d1, d2] => { results := [.lit (.bool true)], args := [d1, d2] }
  | _ => none }
def fnExactAgainstWebRow : OpenClaim := { program := "ytgolhjmbloiakaa", sum := "60d06eb474529d41b36b52e63adf4a0c810476d95956123686c0524f2b2f591e", func := "loop.example/g00411/laws.FnExactAgainstWeb", spec := "fnExactAgainstWeb", unfollowed := true, recurses := true, apart := false }
def FnExactAgainstWebSaid : Prop := fnExactAgainstWebRow.holds Try.pinned (OpenSpec.ofChange fnExactAgainstWebSpec)

/-- ITS FALSE NEIGHBOUR: 'it returns false'. Refute it at one input. -/
def fnExactAgainstWebWrong : ChangeSpec := { name := "fnExactAgainstWeb", fn := fun _ => fun
  | [d1, d2] => { results := [.lit (.bool false)], args := [d1, d2] }
  | _ => none }
def FnExactAgainstWebWrongFalsely : Prop := fnExactAgainstWebRow.holds Try.pinned (OpenSpec.ofChange fnExactAgainstWebWrong)

/-- 'laws.FnExactOutcomeOf': WHATEVER THE INPUT: true; the input reads as it did. -/
def fnExactOutcomeOfSpec : ChangeSpec := { name := "fnExactOutcomeOf", fn := fun _ => fun
  | [d1, d2] => { results := [.lit (.bool true)], args := [d1, d2] }
  | _ => none }
def fnExactOutcomeOfRow : OpenClaim := { program := "ytgolhjmbloiakaa", sum := "60d06eb474529d41b36b52e63adf4a0c810476d95956123686c0524f2b2f591e", func := "loop.example/g00411/laws.FnExactOutcomeOf", spec := "fnExactOutcomeOf", unfollowed := true, recurses := true, apart := false }
def FnExactOutcomeOfSaid : Prop := fnExactOutcomeOfRow.holds Try.pinned (OpenSpec.ofChange fnExactOutcomeOfSpec)

/-- ITS FALSE NEIGHBOUR: 'it returns false'. Refute it at one input. -/
def fnExactOutcomeOfWrong : ChangeSpec := { name := "fnExactOutcomeOf", fn := fun _ => fun
  | [d1, d2] => { results := [.lit (.bool false)], args := [d1, d2] }
  | _ => none }
def FnExactOutcomeOfWrongFalsely : Prop := fnExactOutcomeOfRow.holds Try.pinned (OpenSpec.ofChange fnExactOutcomeOfWrong)

/-- 'laws.FnExactTalesCount': WHATEVER THE INPUT: true; the input reads as it did. -/
def fnExactTalesCountSpec : ChangeSpec := { name := "fnExactTalesCount", fn := fun _ => fun
  | [d] => { results := [.lit (.bool true)], args := [d] }
  | _ => none }
def fnExactTalesCountRow : OpenClaim := { program := "ytgolhjmbloiakaa", sum := "60d06eb474529d41b36b52e63adf4a0c810476d95956123686c0524f2b2f591e", func := "loop.example/g00411/laws.FnExactTalesCount", spec := "fnExactTalesCount", unfollowed := true, recurses := true, apart := false }
def FnExactTalesCountSaid : Prop := fnExactTalesCountRow.holds Try.pinned (OpenSpec.ofChange fnExactTalesCountSpec)

/-- ITS FALSE NEIGHBOUR: 'it returns false'. Refute it at one input. -/
def fnExactTalesCountWrong : ChangeSpec := { name := "fnExactTalesCount", fn := fun _ => fun
  | [d] => { results := [.lit (.bool false)], args := [d] }
  | _ => none }
def FnExactTalesCountWrongFalsely : Prop := fnExactTalesCountRow.holds Try.pinned (OpenSpec.ofChange fnExactTalesCountWrong)

/- THE SECOND FORM. 'bulk': how many values and letters a reading holds, each counted each time it is reached (what is shared counts as often as it is met; a slice's spare places count too). A statement '..UptoSaid' is the law's where the arguments, and the package variables that the reading takes, are together of bulk at most 1048576: NARROWER than '..Said'. Prove '..Said' where nothing that the law and all that it calls make is longer than what came in: it says more and counts as full. Else prove '..UptoSaid'. A law counts once. -/
mutual
def uptoBulk {H : Type} : DataW H → Nat
  | .lit (.string bytes) => bytes.length + 1
  | .lit _ => 1
  | .nil => 1
  | .ptr d => uptoBulk d + 1
  | .slice elems spare => uptoBulkAll elems + uptoBulkAll spare + 1
  | .agg parts => uptoBulkAll parts + 1
  | .iface _ d => uptoBulk d + 1
  | .map entries => uptoBulkEntries entries + 1
  | .held _ => 1
def uptoBulkAll {H : Type} : List (DataW H) → Nat
  | [] => 0
  | d :: r => uptoBulk d + uptoBulkAll r
def uptoBulkEntries {H : Type} : List (Lit × DataW H) → Nat
  | [] => 0
  | x :: r => uptoBulkEntry x + uptoBulkEntries r
def uptoBulkEntry {H : Type} : Lit × DataW H → Nat
  | (.string bytes, d) => bytes.length + uptoBulk d + 1
  | (_, d) => uptoBulk d + 1
 end
def uptoSmall : (H : Type) → List (DataW H) → Bool := fun _ ds => decide (uptoBulkAll ds ≤ 1048576)
def OpenSpec.upto (s : _root_.Go.ChangeSpec) : _root_.Go.OpenSpec := { _root_.Go.OpenSpec.ofChange s with cond := some uptoSmall }

/-- 'laws.FnTales', WHERE WHAT IT READS IS OF BULK AT MOST 1048576: true; the input reads as it did. -/
def fnTalesUptoRow : OpenClaim := { program := "ytgolhjmbloiakaa", sum := "60d06eb474529d41b36b52e63adf4a0c810476d95956123686c0524f2b2f591e", func := "loop.example/g00411/laws.FnTales", spec := "fnTales", unfollowed := true, recurses := true, apart := false, narrowed := true }
def FnTalesUptoSaid : Prop := fnTalesUptoRow.holds Try.pinned (OpenSpec.upto fnTalesSpec)

/-- 'laws.FnExactTaleOk', WHERE WHAT IT READS IS OF BULK AT MOST 1048576: true; the input reads as it did. -/
def fnExactTaleOkUptoRow : OpenClaim := { program := "ytgolhjmbloiakaa", sum := "60d06eb474529d41b36b52e63adf4a0c810476d95956123686c0524f2b2f591e", func := "loop.example/g00411/laws.FnExactTaleOk", spec := "fnExactTaleOk", unfollowed := true, recurses := true, apart := false, narrowed := true }
def FnExactTaleOkUptoSaid : Prop := fnExactTaleOkUptoRow.holds Try.pinned (OpenSpec.upto fnExactTaleOkSpec)

/-- 'laws.FnExactAgainstWeb', WHERE WHAT IT READS IS OF BULK AT MOST 1048576: true; the input reads as it did. -/
def fnExactAgainstWebUptoRow : OpenClaim := { program := "ytgolhjmbloiakaa", sum := "60d06eb474529d41b36b52e63adf4a0c810476d95956123686c0524f2b2f591e", func := "loop.example/g00411/laws.FnExactAgainstWeb", spec := "fnExactAgainstWeb", unfollowed := true, recurses := true, apart := false, narrowed := true }
def FnExactAgainstWebUptoSaid : Prop := fnExactAgainstWebUptoRow.holds Try.pinned (OpenSpec.upto fnExactAgainstWebSpec)

/-- 'laws.FnExactOutcomeOf', WHERE WHAT IT READS IS OF BULK AT MOST 1048576: true; the input reads as it did. -/
def fnExactOutcomeOfUptoRow : OpenClaim := { program := "ytgolhjmbloiakaa", sum := "60d06eb474529d41b36b52e63adf4a0c810476d95956123686c0524f2b2f591e", func := "loop.example/g00411/laws.FnExactOutcomeOf", spec := "fnExactOutcomeOf", unfollowed := true, recurses := true, apart := false, narrowed := true }
def FnExactOutcomeOfUptoSaid : Prop := fnExactOutcomeOfUptoRow.holds Try.pinned (OpenSpec.upto fnExactOutcomeOfSpec)

/-- 'laws.FnExactTalesCount', WHERE WHAT IT READS IS OF BULK AT MOST 1048576: true; the input reads as it did. -/
def fnExactTalesCountUptoRow : OpenClaim := { program := "ytgolhjmbloiakaa", sum := "60d06eb474529d41b36b52e63adf4a0c810476d95956123686c0524f2b2f591e", func := "loop.example/g00411/laws.FnExactTalesCount", spec := "fnExactTalesCount", unfollowed := true, recurses := true, apart := false, narrowed := true }
def FnExactTalesCountUptoSaid : Prop := fnExactTalesCountUptoRow.holds Try.pinned (OpenSpec.upto fnExactTalesCountSpec)

end Rows
end Go.Proofs.Ytgolhjmbloiakaa
