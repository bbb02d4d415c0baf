/-
  No cell of these rows narrows 'for every input' (looked for: loops, veiled, ifaces, maps, wideKeys, modest, calm, conditions, laid).
  DERIVED. THE GIVEN ROWS OF THIS SEAT. 3 by the template 'for every input the law returns true; each argument reads behind the call as it read before'; 0 by the template 'total and deterministic' (their statements: YtgikcfdckddgpabGreatTotals.lean).
  GIVEN WITH THE SEED: the statements are not yours to turn. If you find one false, say at which input.
  Laid BY PROGRAM, IN A SANDBOX (cutbox-rows.mjs): the forced cells as the released guide's own fill.sh prints them over the translation 297cebcc6c4431ae… (all of the seat's roots in one cut). By AI agents, Wed Nov 11 2026. No macro, syntax, notation, axiom, sorry.
-/
import Derived.Test.YtgikcfdckddgpabGreatChecked
import GoSem.Claim
import GoSem.ClaimJoined
import GoSem.ClaimMapViews
import Derived.JoinedTies
import Derived.KernelRfl
namespace Go.Proofs.YtgikcfdckddgpabGreat
/- THE CELL 'sum', in the pinned program and in every row, IS THE sha256 OF THE DUMP (.gsa) THAT YtgikcfdckddgpabGreatProg.lean LOADS. Nothing in Lean hashes anything: it is a label: what it is worth is what the hold of that sum in a sandbox is worth. -/
noncomputable def Tryz.pinned : Pinned := { name := "ytgikcfdckddgpabgreat", sum := "297cebcc6c4431ae6616166fe9bc9aaf9b4edef879056824eebaa2dff50b4490", checked := Tryz.checked }
namespace Rows
def none {H : Type} : Left H := { results := [], args := [] }

/-- 'laws.FnExactSlowOk': WHATEVER THE INPUT: true; the input reads as it did. -/
def fnExactSlowOkSpec : ChangeSpec := { name := "fnExactSlowOk", fn := fun _ => fun
  | [d1, d2] => { results := [.lit (.bool true)], args := [d1, d2] }
  | _ => none }
def fnExactSlowOkRow : OpenClaim := { program := "ytgikcfdckddgpabgreat", sum := "297cebcc6c4431ae6616166fe9bc9aaf9b4edef879056824eebaa2dff50b4490", func := "loop.example/g00411/laws.FnExactSlowOk", spec := "fnExactSlowOk", unfollowed := true, recurses := true, apart := false }
def FnExactSlowOkSaid : Prop := fnExactSlowOkRow.holds Tryz.pinned (OpenSpec.ofChange fnExactSlowOkSpec)

/-- ITS FALSE NEIGHBOUR: 'it returns false'. Refute it at one input. -/
def fnExactSlowOkWrong : ChangeSpec := { name := "fnExactSlowOk", fn := fun _ => fun
  | [d1, d2] => { results := [.lit (.bool false)], args := [d1, d2] }
  | _ => none }
def FnExactSlowOkWrongFalsely : Prop := fnExactSlowOkRow.holds Tryz.pinned (OpenSpec.ofChange fnExactSlowOkWrong)

/-- 'laws.FnExactStrictWeb': WHATEVER THE INPUT: true; the input reads as it did. -/
def fnExactStrictWebSpec : ChangeSpec := { name := "fnExactStrictWeb", fn := fun _ => fun
  | [d1, d2] => { results := [.lit (.bool true)], args := [d1, d2] }
  | _ => none }
def fnExactStrictWebRow : OpenClaim := { program := "ytgikcfdckddgpabgreat", sum := "297cebcc6c4431ae6616166fe9bc9aaf9b4edef879056824eebaa2dff50b4490", func := "loop.example/g00411/laws.FnExactStrictWeb", spec := "fnExactStrictWeb", unfollowed := true, recurses := true, apart := false }
def FnExactStrictWebSaid : Prop := fnExactStrictWebRow.holds Tryz.pinned (OpenSpec.ofChange fnExactStrictWebSpec)

/-- ITS FALSE NEIGHBOUR: 'it returns false'. Refute it at one input. -/
def fnExactStrictWebWrong : ChangeSpec := { name := "fnExactStrictWeb", fn := fun _ => fun
  | [d1, d2] => { results := [.lit (.bool false)], args := [d1, d2] }
  | _ => none }
def FnExactStrictWebWrongFalsely : Prop := fnExactStrictWebRow.holds Tryz.pinned (OpenSpec.ofChange fnExactStrictWebWrong)

/-- 'laws.FnExactStrictOk': WHATEVER THE INPUT: true; the input reads as it did. -/
def fnExactStrictOkSpec : ChangeSpec := { name := "fnExactStrictOk", fn := fun _ => fun
  | [d1, d2] => { results := [.lit (.bool true)], args := [d1, d2] }
  | _ => none }
def fnExactStrictOkRow : OpenClaim := { program := "ytgikcfdckddgpabgreat", sum := "297cebcc6c4431ae6616166fe9bc9aaf9b4edef879056824eebaa2dff50b4490", func := "loop.example/g00411/laws.FnExactStrictOk", spec := "fnExactStrictOk", unfollowed := true, recurses := true, apart := false }
def FnExactStrictOkSaid : Prop := fnExactStrictOkRow.holds Tryz.pinned (OpenSpec.ofChange fnExactStrictOkSpec)

/-- ITS FALSE NEIGHBOUR: 'it returns false'. Refute it at one input. -/
def fnExactStrictOkWrong : ChangeSpec := { name := "fnExactStrictOk", fn := fun _ => fun
  | [d1, d2] => { results := [.lit (.bool false)], args := [d1, d2] }
  | _ => none }
def FnExactStrictOkWrongFalsely : Prop := fnExactStrictOkRow.holds Tryz.pinned (OpenSpec.ofChange fnExactStrictOkWrong)

/- THE SECOND FORM. 'bulk': how many values and letters a reading holds, each counted each time it is reached (what is shared counts as often as it is met; a slice's spare places count too). A statement '..UptoSaid' is the law's where the arguments, and the package variables that the reading takes, are together of bulk at most 1048576: NARROWER than '..Said'. Prove '..Said' where nothing that the law and all that it calls make is longer than what came in: it says more and counts as full. Else prove '..UptoSaid'. A law counts once. -/
mutual
def uptoBulk {H : Type} : DataW H → Nat
  | .lit (.string bytes) => bytes.length + 1
  | .lit _ => 1
  | .nil => 1
  | .ptr d => uptoBulk d + 1
  | .slice elems spare => uptoBulkAll elems + uptoBulkAll spare + 1
  | .agg parts => uptoBulkAll parts + 1
  | .iface _ d => uptoBulk d + 1
  | .map entries => uptoBulkEntries entries + 1
  | .held _ => 1
def uptoBulkAll {H : Type} : List (DataW H) → Nat
  | [] => 0
  | d :: r => uptoBulk d + uptoBulkAll r
def uptoBulkEntries {H : Type} : List (Lit × DataW H) → Nat
  | [] => 0
  | x :: r => uptoBulkEntry x + uptoBulkEntries r
def uptoBulkEntry {H : Type} : Lit × DataW H → Nat
  | (.string bytes, d) => bytes.length + uptoBulk d + 1
  | (_, d) => uptoBulk d + 1
 end
def uptoSmall : (H : Type) → List (DataW H) → Bool := fun _ ds => decide (uptoBulkAll ds ≤ 1048576)
def OpenSpec.upto (s : _root_.Go.ChangeSpec) : _root_.Go.OpenSpec := { _root_.Go.OpenSpec.ofChange s with cond := some uptoSmall }

/-- 'laws.FnExactSlowOk', WHERE WHAT IT READS IS OF BULK AT MOST 1048576: true; the input reads as it did. -/
def fnExactSlowOkUptoRow : OpenClaim := { program := "ytgikcfdckddgpabgreat", sum := "297cebcc6c4431ae6616166fe9bc9aaf9b4edef879056824eebaa2dff50b4490", func := "loop.example/g00411/laws.FnExactSlowOk", spec := "fnExactSlowOk", unfollowed := true, recurses := true, apart := false, narrowed := true }
def FnExactSlowOkUptoSaid : Prop := fnExactSlowOkUptoRow.holds Tryz.pinned (OpenSpec.upto fnExactSlowOkSpec)

/-- 'laws.FnExactStrictWeb', WHERE WHAT IT READS IS OF BULK AT MOST 1048576: true; the input reads as it did. -/
def fnExactStrictWebUptoRow : OpenClaim := { program := "ytgikcfdckddgpabgreat", sum := "297cebcc6c4431ae6616166fe9bc9aaf9b4edef879056824eebaa2dff50b4490", func := "loop.example/g00411/laws.FnExactStrictWeb", spec := "fnExactStrictWeb", unfollowed := true, recurses := true, apart := false, narrowed := true }
def FnExactStrictWebUptoSaid : Prop := fnExactStrictWebUptoRow.holds Tryz.pinned (OpenSpec.upto fnExactStrictWebSpec)

/-- 'laws.FnExactStrictOk', WHERE WHAT IT READS IS OF BULK AT MOST 1048576: true; the input reads as it did. -/
def fnExactStrictOkUptoRow : OpenClaim := { program := "ytgikcfdckddgpabgreat", sum := "297cebcc6c4431ae6616166fe9bc9aaf9b4edef879056824eebaa2dff50b4490", func := "loop.example/g00411/laws.FnExactStrictOk", spec := "fnExactStrictOk", unfollowed := true, recurses := true, apart := false, narrowed := true }
def FnExactStrictOkUptoSaid : Prop := fnExactStrictOkUptoRow.holds Tryz.pinned (OpenSpec.upto fnExactStrictOkSpec)

end Rows
end Go.Proofs.YtgikcfdckddgpabGreat
