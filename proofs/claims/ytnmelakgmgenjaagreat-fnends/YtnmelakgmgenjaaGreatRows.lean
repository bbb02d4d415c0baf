/-
  No cell of these rows narrows 'for every input' (looked for: loops, veiled, ifaces, maps, wideKeys, modest, calm, conditions, laid).
  DERIVED. THE GIVEN ROWS OF THIS SEAT. 3 by the template 'for every input the law returns true; each argument reads behind the call as it read before'; 0 by the template 'total and deterministic' (their statements: YtnmelakgmgenjaaGreatTotals.lean).
  GIVEN WITH THE SEED: the statements are not yours to turn. If you find one false, say at which input.
  Laid BY PROGRAM, IN A SANDBOX (cutbox-rows.mjs): the forced cells as the released guide's own fill.sh prints them over the translation bdaf998b2c24df1a… (all of the seat's roots in one cut). By AI agents, Wed Nov 11 2026. No macro, syntax, notation, axiom, sorry.
-/
import Derived.Test.YtnmelakgmgenjaaGreatChecked
import GoSem.Claim
import GoSem.ClaimJoined
import GoSem.ClaimMapViews
import Derived.JoinedTies
import Derived.KernelRfl
namespace Go.Proofs.YtnmelakgmgenjaaGreat
/- THE CELL 'sum', in the pinned program and in every row, IS THE sha256 OF THE DUMP (.gsa) THAT YtnmelakgmgenjaaGreatProg.lean LOADS. Nothing in Lean hashes anything: it is a label: what it is worth is what the hold of that sum in a sandbox is worth. -/
noncomputable def Tryz.pinned : Pinned := { name := "ytnmelakgmgenjaagreat", sum := "bdaf998b2c24df1a44f5b781a87468fcffdd3fe816afc11aee2f8cf27e86bd22", checked := Tryz.checked }
namespace Rows
def none {H : Type} : Left H := { results := [], args := [] }

/-- 'laws.FnEnds': WHATEVER THE INPUT: true; the input reads as it did. -/
def fnEndsSpec : ChangeSpec := { name := "fnEnds", fn := fun _ => fun
  | [d] => { results := [.lit (.bool true)], args := [d] }
  | _ => none }
def fnEndsRow : OpenClaim := { program := "ytnmelakgmgenjaagreat", sum := "bdaf998b2c24df1a44f5b781a87468fcffdd3fe816afc11aee2f8cf27e86bd22", func := "loop.example/g00411/laws.FnEnds", spec := "fnEnds", unfollowed := true, recurses := true, plainKeys := false, apart := false }
def FnEndsSaid : Prop := fnEndsRow.holds Tryz.pinned (OpenSpec.ofChange fnEndsSpec)

/-- ITS FALSE NEIGHBOUR: 'it returns false'. Refute it at one input. -/
def fnEndsWrong : ChangeSpec := { name := "fnEnds", fn := fun _ => fun
  | [d] => { results := [.lit (.bool false)], args := [d] }
  | _ => none }
def FnEndsWrongFalsely : Prop := fnEndsRow.holds Tryz.pinned (OpenSpec.ofChange fnEndsWrong)

/-- 'laws.FnExactEnds': WHATEVER THE INPUT: true; the input reads as it did. -/
def fnExactEndsSpec : ChangeSpec := { name := "fnExactEnds", fn := fun _ => fun
  | [d] => { results := [.lit (.bool true)], args := [d] }
  | _ => none }
def fnExactEndsRow : OpenClaim := { program := "ytnmelakgmgenjaagreat", sum := "bdaf998b2c24df1a44f5b781a87468fcffdd3fe816afc11aee2f8cf27e86bd22", func := "loop.example/g00411/laws.FnExactEnds", spec := "fnExactEnds", unfollowed := true, recurses := true, plainKeys := false, apart := false }
def FnExactEndsSaid : Prop := fnExactEndsRow.holds Tryz.pinned (OpenSpec.ofChange fnExactEndsSpec)

/-- ITS FALSE NEIGHBOUR: 'it returns false'. Refute it at one input. -/
def fnExactEndsWrong : ChangeSpec := { name := "fnExactEnds", fn := fun _ => fun
  | [d] => { results := [.lit (.bool false)], args := [d] }
  | _ => none }
def FnExactEndsWrongFalsely : Prop := fnExactEndsRow.holds Tryz.pinned (OpenSpec.ofChange fnExactEndsWrong)

/-- 'laws.FnExactQuickEnds': WHATEVER THE INPUT: true; the input reads as it did. -/
def fnExactQuickEndsSpec : ChangeSpec := { name := "fnExactQuickEnds", fn := fun _ => fun
  | [d] => { results := [.lit (.bool true)], args := [d] }
  | _ => none }
def fnExactQuickEndsRow : OpenClaim := { program := "ytnmelakgmgenjaagreat", sum := "bdaf998b2c24df1a44f5b781a87468fcffdd3fe816afc11aee2f8cf27e86bd22", func := "loop.example/g00411/laws.FnExactQuickEnds", spec := "fnExactQuickEnds", unfollowed := true, recurses := true, plainKeys := false, apart := false }
def FnExactQuickEndsSaid : Prop := fnExactQuickEndsRow.holds Tryz.pinned (OpenSpec.ofChange fnExactQuickEndsSpec)

/-- ITS FALSE NEIGHBOUR: 'it returns false'. Refute it at one input. -/
def fnExactQuickEndsWrong : ChangeSpec := { name := "fnExactQuickEnds", fn := fun _ => fun
  | [d] => { results := [.lit (.bool false)], args := [d] }
  | _ => none }
def FnExactQuickEndsWrongFalsely : Prop := fnExactQuickEndsRow.holds Tryz.pinned (OpenSpec.ofChange fnExactQuickEndsWrong)

/- THE SECOND FORM. 'bulk': how many values and letters a reading holds, each counted each time it is reached (what is shared counts as often as it is met; a slice's spare places count too). A statement '..UptoSaid' is the law's where the arguments, and the package variables that the reading takes, are together of bulk at most 1048576: NARROWER than '..Said'. Prove '..Said' where nothing that the law and all that it calls make is longer than what came in: it says more and counts as full. Else prove '..UptoSaid'. A law counts once. -/
mutual
def uptoBulk {H : Type} : DataW H → Nat
  | .lit (.string bytes) => bytes.length + 1
  | .lit _ => 1
  | .nil => 1
  | .ptr d => uptoBulk d + 1
  | .slice elems spare => uptoBulkAll elems + uptoBulkAll spare + 1
  | .agg parts => uptoBulkAll parts + 1
  | .iface _ d => uptoBulk d + 1
  | .map entries => uptoBulkEntries entries + 1
  | .held _ => 1
def uptoBulkAll {H : Type} : List (DataW H) → Nat
  | [] => 0
  | d :: r => uptoBulk d + uptoBulkAll r
def uptoBulkEntries {H : Type} : List (Lit × DataW H) → Nat
  | [] => 0
  | x :: r => uptoBulkEntry x + uptoBulkEntries r
def uptoBulkEntry {H : Type} : Lit × DataW H → Nat
  | (.string bytes, d) => bytes.length + uptoBulk d + 1
  | (_, d) => uptoBulk d + 1
 end
def uptoSmall : (H : Type) → List (DataW H) → Bool := fun _ ds => decide (uptoBulkAll ds ≤ 1048576)
def OpenSpec.upto (s : _root_.Go.ChangeSpec) : _root_.Go.OpenSpec := { _root_.Go.OpenSpec.ofChange s with cond := some uptoSmall }

/-- 'laws.FnEnds', WHERE WHAT IT READS IS OF BULK AT MOST 1048576: true; the input reads as it did. -/
def fnEndsUptoRow : OpenClaim := { program := "ytnmelakgmgenjaagreat", sum := "bdaf998b2c24df1a44f5b781a87468fcffdd3fe816afc11aee2f8cf27e86bd22", func := "loop.example/g00411/laws.FnEnds", spec := "fnEnds", unfollowed := true, recurses := true, plainKeys := false, apart := false, narrowed := true }
def FnEndsUptoSaid : Prop := fnEndsUptoRow.holds Tryz.pinned (OpenSpec.upto fnEndsSpec)

/-- 'laws.FnExactEnds', WHERE WHAT IT READS IS OF BULK AT MOST 1048576: true; the input reads as it did. -/
def fnExactEndsUptoRow : OpenClaim := { program := "ytnmelakgmgenjaagreat", sum := "bdaf998b2c24df1a44f5b781a87468fcffdd3fe816afc11aee2f8cf27e86bd22", func := "loop.example/g00411/laws.FnExactEnds", spec := "fnExactEnds", unfollowed := true, recurses := true, plainKeys := false, apart := false, narrowed := true }
def FnExactEndsUptoSaid : Prop := fnExactEndsUptoRow.holds Tryz.pinned (OpenSpec.upto fnExactEndsSpec)

/-- 'laws.FnExactQuickEnds', WHERE WHAT IT READS IS OF BULK AT MOST 1048576: true; the input reads as it did. -/
def fnExactQuickEndsUptoRow : OpenClaim := { program := "ytnmelakgmgenjaagreat", sum := "bdaf998b2c24df1a44f5b781a87468fcffdd3fe816afc11aee2f8cf27e86bd22", func := "loop.example/g00411/laws.FnExactQuickEnds", spec := "fnExactQuickEnds", unfollowed := true, recurses := true, plainKeys := false, apart := false, narrowed := true }
def FnExactQuickEndsUptoSaid : Prop := fnExactQuickEndsUptoRow.holds Tryz.pinned (OpenSpec.upto fnExactQuickEndsSpec)

end Rows
end Go.Proofs.YtnmelakgmgenjaaGreat
