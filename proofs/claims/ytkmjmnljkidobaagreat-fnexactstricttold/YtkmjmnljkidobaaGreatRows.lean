/-
  No cell of these rows narrows 'for every input' (looked for: loops, veiled, ifaces, maps, wideKeys, modest, calm, conditions, laid).
  DERIVED. THE GIVEN ROWS OF THIS SEAT. 6 by the template 'for every input the law returns true; each argument reads behind the call as it read before'; 0 by the template 'total and deterministic' (their statements: YtkmjmnljkidobaaGreatTotals.lean).
  GIVEN WITH THE SEED: the statements are not yours to turn. If you find one false, say at which input.
  Laid BY PROGRAM, IN A SANDBOX (cutbox-rows.mjs): the forced cells as the released guide's own fill.sh prints them over the translation 2cffd359294d1e1c… (all of the seat's roots in one cut). By AI agents, Wed Nov 11 2026. No macro, syntax, notation, axiom, sorry.
-/
import Derived.Test.YtkmjmnljkidobaaGreatChecked
import GoSem.Claim
import GoSem.ClaimJoined
import GoSem.ClaimMapViews
import Derived.JoinedTies
import Derived.KernelRfl
namespace Go.Proofs.YtkmjmnljkidobaaGreat
/- THE CELL 'sum', in the pinned program and in every row, IS THE sha256 OF THE DUMP (.gsa) THAT YtkmjmnljkidobaaGreatProg.lean LOADS. Nothing in Lean hashes anything: it is a label: what it is worth is what the hold of that sum in a sandbox is worth. -/
noncomputable def Tryz.pinned : Pinned := { name := "ytkmjmnljkidobaagreat", sum := "2cffd359294d1e1c603ad7124b1b76974c8a49f3cbccb1a3785892e31ed4460e", checked := Tryz.checked }
namespace Rows
def none {H : Type} : Left H := { results := [], args := [] }

/-- 'laws.FnSameEnds': WHATEVER THE INPUT: true; the input reads as it did. -/
def fnSameEndsSpec : ChangeSpec := { name := "fnSameEnds", fn := fun _ => fun
  | [d] => { results := [.lit (.bool true)], args := [d] }
  | _ => none }
def fnSameEndsRow : OpenClaim := { program := "ytkmjmnljkidobaagreat", sum := "2cffd359294d1e1c603ad7124b1b76974c8a49f3cbccb1a3785892e31ed4460e", func := "loop.example/g00411/laws.FnSameEnds", spec := "fnSameEnds", inPlace := ["(*sync.WaitGroup).Go", "(*sync.WaitGroup).Add", "internal/race.ReleaseMerge", "internal/race.Disable", "internal/race.Enable", "internal/synctest.IsInBubble", "internal/synctest.Associate[sync.WaitGroup]", "sync.fatal", "sync/atomic.OrUint64", "sync/atomic.AddUint64", "internal/race.Read", "sync/atomic.LoadUint64", "sync/atomic.StoreUint64", "internal/synctest.Disassociate[sync.WaitGroup]", "sync.runtime_Semrelease", "(*sync.WaitGroup).Go$1", "(*sync.WaitGroup).Go$1$1", "(*sync.WaitGroup).Done", "(*sync.WaitGroup).Wait", "internal/race.Acquire", "internal/synctest.IsAssociated[sync.WaitGroup]", "sync/atomic.CompareAndSwapUint64", "internal/race.Write", "sync.runtime_SemacquireWaitGroup"], unfollowed := true, recurses := true, plainKeys := false, leaving := true, apart := false }
def FnSameEndsSaid : Prop := fnSameEndsRow.holds Tryz.pinned (OpenSpec.ofChange fnSameEndsSpec)

/-- ITS FALSE NEIGHBOUR: 'it returns false'. Refute it at one input. -/
def fnSameEndsWrong : ChangeSpec := { name := "fnSameEnds", fn := fun _ => fun
  | [d] => { results := [.lit (.bool false)], args := [d] }
  | _ => none }
def FnSameEndsWrongFalsely : Prop := fnSameEndsRow.holds Tryz.pinned (OpenSpec.ofChange fnSameEndsWrong)

/-- 'laws.FnSameQuick': WHATEVER THE INPUT: true; the input reads as it did. -/
def fnSameQuickSpec : ChangeSpec := { name := "fnSameQuick", fn := fun _ => fun
  | [d] => { results := [.lit (.bool true)], args := [d] }
  | _ => none }
def fnSameQuickRow : OpenClaim := { program := "ytkmjmnljkidobaagreat", sum := "2cffd359294d1e1c603ad7124b1b76974c8a49f3cbccb1a3785892e31ed4460e", func := "loop.example/g00411/laws.FnSameQuick", spec := "fnSameQuick", unfollowed := true, recurses := true, plainKeys := false, leaving := true, apart := false }
def FnSameQuickSaid : Prop := fnSameQuickRow.holds Tryz.pinned (OpenSpec.ofChange fnSameQuickSpec)

/-- ITS FALSE NEIGHBOUR: 'it returns false'. Refute it at one input. -/
def fnSameQuickWrong : ChangeSpec := { name := "fnSameQuick", fn := fun _ => fun
  | [d] => { results := [.lit (.bool false)], args := [d] }
  | _ => none }
def FnSameQuickWrongFalsely : Prop := fnSameQuickRow.holds Tryz.pinned (OpenSpec.ofChange fnSameQuickWrong)

/-- 'laws.FnStronger': WHATEVER THE INPUT: true; the input reads as it did. -/
def fnStrongerSpec : ChangeSpec := { name := "fnStronger", fn := fun _ => fun
  | [d] => { results := [.lit (.bool true)], args := [d] }
  | _ => none }
def fnStrongerRow : OpenClaim := { program := "ytkmjmnljkidobaagreat", sum := "2cffd359294d1e1c603ad7124b1b76974c8a49f3cbccb1a3785892e31ed4460e", func := "loop.example/g00411/laws.FnStronger", spec := "fnStronger", inPlace := ["(*sync.WaitGroup).Go", "(*sync.WaitGroup).Add", "internal/race.ReleaseMerge", "internal/race.Disable", "internal/race.Enable", "internal/synctest.IsInBubble", "internal/synctest.Associate[sync.WaitGroup]", "sync.fatal", "sync/atomic.OrUint64", "sync/atomic.AddUint64", "internal/race.Read", "sync/atomic.LoadUint64", "sync/atomic.StoreUint64", "internal/synctest.Disassociate[sync.WaitGroup]", "sync.runtime_Semrelease", "(*sync.WaitGroup).Go$1", "(*sync.WaitGroup).Go$1$1", "(*sync.WaitGroup).Done", "(*sync.WaitGroup).Wait", "internal/race.Acquire", "internal/synctest.IsAssociated[sync.WaitGroup]", "sync/atomic.CompareAndSwapUint64", "internal/race.Write", "sync.runtime_SemacquireWaitGroup"], unfollowed := true, recurses := true, plainKeys := false, leaving := true, apart := false }
def FnStrongerSaid : Prop := fnStrongerRow.holds Tryz.pinned (OpenSpec.ofChange fnStrongerSpec)

/-- ITS FALSE NEIGHBOUR: 'it returns false'. Refute it at one input. -/
def fnStrongerWrong : ChangeSpec := { name := "fnStronger", fn := fun _ => fun
  | [d] => { results := [.lit (.bool false)], args := [d] }
  | _ => none }
def FnStrongerWrongFalsely : Prop := fnStrongerRow.holds Tryz.pinned (OpenSpec.ofChange fnStrongerWrong)

/-- 'laws.FnExactSlowTold': WHATEVER THE INPUT: true; the input reads as it did. -/
def fnExactSlowToldSpec : ChangeSpec := { name := "fnExactSlowTold", fn := fun _ => fun
  | [d] => { results := [.lit (.bool true)], args := [d] }
  | _ => none }
def fnExactSlowToldRow : OpenClaim := { program := "ytkmjmnljkidobaagreat", sum := "2cffd359294d1e1c603ad7124b1b76974c8a49f3cbccb1a3785892e31ed4460e", func := "loop.example/g00411/laws.FnExactSlowTold", spec := "fnExactSlowTold", inPlace := ["(*sync.WaitGroup).Go", "(*sync.WaitGroup).Add", "internal/race.ReleaseMerge", "internal/race.Disable", "internal/race.Enable", "internal/synctest.IsInBubble", "internal/synctest.Associate[sync.WaitGroup]", "sync.fatal", "sync/atomic.OrUint64", "sync/atomic.AddUint64", "internal/race.Read", "sync/atomic.LoadUint64", "sync/atomic.StoreUint64", "internal/synctest.Disassociate[sync.WaitGroup]", "sync.runtime_Semrelease", "(*sync.WaitGroup).Go$1", "(*sync.WaitGroup).Go$1$1", "(*sync.WaitGroup).Done", "(*sync.WaitGroup).Wait", "internal/race.Acquire", "internal/synctest.IsAssociated[sync.WaitGroup]", "sync/atomic.CompareAndSwapUint64", "internal/race.Write", "sync.runtime_SemacquireWaitGroup"], unfollowed := true, recurses := true, plainKeys := false, leaving := true, apart := false }
def FnExactSlowToldSaid : Prop := fnExactSlowToldRow.holds Tryz.pinned (OpenSpec.ofChange fnExactSlowToldSpec)

/-- ITS FALSE NEIGHBOUR: 'it returns false'. Refute it at one input. -/
def fnExactSlowToldWrong : ChangeSpec := { name := "fnExactSlowTold", fn := fun _ => fun
  | [d] => { results := [.lit (.bool false)], args := [d] }
  | _ => none }
def FnExactSlowToldWrongFalsely : Prop := fnExactSlowToldRow.holds Tryz.pinned (OpenSpec.ofChange fnExactSlowToldWrong)

/-- 'laws.FnExactStrictTold': WHATEVER THE INPUT: true; the input reads as it did. -/
def fnExactStrictToldSpec : ChangeSpec := { name := "fnExactStrictTold", fn := fun _ => fun
  | [d] => { results := [.lit (.bool true)], args := [d] }
  | _ => none }
def fnExactStrictToldRow : OpenClaim := { program := "ytkmjmnljkidobaagreat", sum := "2cffd359294d1e1c603ad7124b1b76974c8a49f3cbccb1a3785892e31ed4460e", func := "loop.example/g00411/laws.FnExactStrictTold", spec := "fnExactStrictTold", unfollowed := true, recurses := true, plainKeys := false, leaving := true, apart := false }
def FnExactStrictToldSaid : Prop := fnExactStrictToldRow.holds Tryz.pinned (OpenSpec.ofChange fnExactStrictToldSpec)

/-- ITS FALSE NEIGHBOUR: 'it returns false'. Refute it at one input. -/
def fnExactStrictToldWrong : ChangeSpec := { name := "fnExactStrictTold", fn := fun _ => fun
  | [d] => { results := [.lit (.bool false)], args := [d] }
  | _ => none }
def FnExactStrictToldWrongFalsely : Prop := fnExactStrictToldRow.holds Tryz.pinned (OpenSpec.ofChange fnExactStrictToldWrong)

/-- 'laws.FnExactStronger': WHATEVER THE INPUT: true; the input reads as it did. -/
def fnExactStrongerSpec : ChangeSpec := { name := "fnExactStronger", fn := fun _ => fun
  | [d] => { results := [.lit (.bool true)], args := [d] }
  | _ => none }
def fnExactStrongerRow : OpenClaim := { program := "ytkmjmnljkidobaagreat", sum := "2cffd359294d1e1c603ad7124b1b76974c8a49f3cbccb1a3785892e31ed4460e", func := "loop.example/g00411/laws.FnExactStronger", spec := "fnExactStronger", inPlace := ["(*sync.WaitGroup).Go", "(*sync.WaitGroup).Add", "internal/race.ReleaseMerge", "internal/race.Disable", "internal/race.Enable", "internal/synctest.IsInBubble", "internal/synctest.Associate[sync.WaitGroup]", "sync.fatal", "sync/atomic.OrUint64", "sync/atomic.AddUint64", "internal/race.Read", "sync/atomic.LoadUint64", "sync/atomic.StoreUint64", "internal/synctest.Disassociate[sync.WaitGroup]", "sync.runtime_Semrelease", "(*sync.WaitGroup).Go$1", "(*sync.WaitGroup).Go$1$1", "(*sync.WaitGroup).Done", "(*sync.WaitGroup).Wait", "internal/race.Acquire", "internal/synctest.IsAssociated[sync.WaitGroup]", "sync/atomic.CompareAndSwapUint64", "internal/race.Write", "sync.runtime_SemacquireWaitGroup"], unfollowed := true, recurses := true, plainKeys := false, leaving := true, apart := false }
def FnExactStrongerSaid : Prop := fnExactStrongerRow.holds Tryz.pinned (OpenSpec.ofChange fnExactStrongerSpec)

/-- ITS FALSE NEIGHBOUR: 'it returns false'. Refute it at one input. -/
def fnExactStrongerWrong : ChangeSpec := { name := "fnExactStronger", fn := fun _ => fun
  | [d] => { results := [.lit (.bool false)], args := [d] }
  | _ => none }
def FnExactStrongerWrongFalsely : Prop := fnExactStrongerRow.holds Tryz.pinned (OpenSpec.ofChange fnExactStrongerWrong)

/- THE SECOND FORM. 'bulk': how many values and letters a reading holds, each counted each time it is reached (what is shared counts as often as it is met; a slice's spare places count too). A statement '..UptoSaid' is the law's where the arguments, and the package variables that the reading takes, are together of bulk at most 1048576: NARROWER than '..Said'. Prove '..Said' where nothing that the law and all that it calls make is longer than what came in: it says more and counts as full. Else prove '..UptoSaid'. A law counts once. -/
mutual
def uptoBulk {H : Type} : DataW H → Nat
  | .lit (.string bytes) => bytes.length + 1
  | .lit _ => 1
  | .nil => 1
  | .ptr d => uptoBulk d + 1
  | .slice elems spare => uptoBulkAll elems + uptoBulkAll spare + 1
  | .agg parts => uptoBulkAll parts + 1
  | .iface _ d => uptoBulk d + 1
  | .map entries => uptoBulkEntries entries + 1
  | .held _ => 1
def uptoBulkAll {H : Type} : List (DataW H) → Nat
  | [] => 0
  | d :: r => uptoBulk d + uptoBulkAll r
def uptoBulkEntries {H : Type} : List (Lit × DataW H) → Nat
  | [] => 0
  | x :: r => uptoBulkEntry x + uptoBulkEntries r
def uptoBulkEntry {H : Type} : Lit × DataW H → Nat
  | (.string bytes, d) => bytes.length + uptoBulk d + 1
  | (_, d) => uptoBulk d + 1
 end
def uptoSmall : (H : Type) → List (DataW H) → Bool := fun _ ds => decide (uptoBulkAll ds ≤ 1048576)
def OpenSpec.upto (s : _root_.Go.ChangeSpec) : _root_.Go.OpenSpec := { _root_.Go.OpenSpec.ofChange s with cond := some uptoSmall }

/-- 'laws.FnSameEnds', WHERE WHAT IT READS IS OF BULK AT MOST 1048576: true; the input reads as it did. -/
def fnSameEndsUptoRow : OpenClaim := { program := "ytkmjmnljkidobaagreat", sum := "2cffd359294d1e1c603ad7124b1b76974c8a49f3cbccb1a3785892e31ed4460e", func := "loop.example/g00411/laws.FnSameEnds", spec := "fnSameEnds", inPlace := ["(*sync.WaitGroup).Go", "(*sync.WaitGroup).Add", "internal/race.ReleaseMerge", "internal/race.Disable", "internal/race.Enable", "internal/synctest.IsInBubble", "internal/synctest.Associate[sync.WaitGroup]", "sync.fatal", "sync/atomic.OrUint64", "sync/atomic.AddUint64", "internal/race.Read", "sync/atomic.LoadUint64", "sync/atomic.StoreUint64", "internal/synctest.Disassociate[sync.WaitGroup]", "sync.runtime_Semrelease", "(*sync.WaitGroup).Go$1", "(*sync.WaitGroup).Go$1$1", "(*sync.WaitGroup).Done", "(*sync.WaitGroup).Wait", "internal/race.Acquire", "internal/synctest.IsAssociated[sync.WaitGroup]", "sync/atomic.CompareAndSwapUint64", "internal/race.Write", "sync.runtime_SemacquireWaitGroup"], unfollowed := true, recurses := true, plainKeys := false, leaving := true, apart := false, narrowed := true }
def FnSameEndsUptoSaid : Prop := fnSameEndsUptoRow.holds Tryz.pinned (OpenSpec.upto fnSameEndsSpec)

/-- 'laws.FnSameQuick', WHERE WHAT IT READS IS OF BULK AT MOST 1048576: true; the input reads as it did. -/
def fnSameQuickUptoRow : OpenClaim := { program := "ytkmjmnljkidobaagreat", sum := "2cffd359294d1e1c603ad7124b1b76974c8a49f3cbccb1a3785892e31ed4460e", func := "loop.example/g00411/laws.FnSameQuick", spec := "fnSameQuick", unfollowed := true, recurses := true, plainKeys := false, leaving := true, apart := false, narrowed := true }
def FnSameQuickUptoSaid : Prop := fnSameQuickUptoRow.holds Tryz.pinned (OpenSpec.upto fnSameQuickSpec)

/-- 'laws.FnStronger', WHERE WHAT IT READS IS OF BULK AT MOST 1048576: true; the input reads as it did. -/
def fnStrongerUptoRow : OpenClaim := { program := "ytkmjmnljkidobaagreat", sum := "2cffd359294d1e1c603ad7124b1b76974c8a49f3cbccb1a3785892e31ed4460e", func := "loop.example/g00411/laws.FnStronger", spec := "fnStronger", inPlace := ["(*sync.WaitGroup).Go", "(*sync.WaitGroup).Add", "internal/race.ReleaseMerge", "internal/race.Disable", "internal/race.Enable", "internal/synctest.IsInBubble", "internal/synctest.Associate[sync.WaitGroup]", "sync.fatal", "sync/atomic.OrUint64", "sync/atomic.AddUint64", "internal/race.Read", "sync/atomic.LoadUint64", "sync/atomic.StoreUint64", "internal/synctest.Disassociate[sync.WaitGroup]", "sync.runtime_Semrelease", "(*sync.WaitGroup).Go$1", "(*sync.WaitGroup).Go$1$1", "(*sync.WaitGroup).Done", "(*sync.WaitGroup).Wait", "internal/race.Acquire", "internal/synctest.IsAssociated[sync.WaitGroup]", "sync/atomic.CompareAndSwapUint64", "internal/race.Write", "sync.runtime_SemacquireWaitGroup"], unfollowed := true, recurses := true, plainKeys := false, leaving := true, apart := false, narrowed := true }
def FnStrongerUptoSaid : Prop := fnStrongerUptoRow.holds Tryz.pinned (OpenSpec.upto fnStrongerSpec)

/-- 'laws.FnExactSlowTold', WHERE WHAT IT READS IS OF BULK AT MOST 1048576: true; the input reads as it did. -/
def fnExactSlowToldUptoRow : OpenClaim := { program := "ytkmjmnljkidobaagreat", sum := "2cffd359294d1e1c603ad7124b1b76974c8a49f3cbccb1a3785892e31ed4460e", func := "loop.example/g00411/laws.FnExactSlowTold", spec := "fnExactSlowTold", inPlace := ["(*sync.WaitGroup).Go", "(*sync.WaitGroup).Add", "internal/race.ReleaseMerge", "internal/race.Disable", "internal/race.Enable", "internal/synctest.IsInBubble", "internal/synctest.Associate[sync.WaitGroup]", "sync.fatal", "sync/atomic.OrUint64", "sync/atomic.AddUint64", "internal/race.Read", "sync/atomic.LoadUint64", "sync/atomic.StoreUint64", "internal/synctest.Disassociate[sync.WaitGroup]", "sync.runtime_Semrelease", "(*sync.WaitGroup).Go$1", "(*sync.WaitGroup).Go$1$1", "(*sync.WaitGroup).Done", "(*sync.WaitGroup).Wait", "internal/race.Acquire", "internal/synctest.IsAssociated[sync.WaitGroup]", "sync/atomic.CompareAndSwapUint64", "internal/race.Write", "sync.runtime_SemacquireWaitGroup"], unfollowed := true, recurses := true, plainKeys := false, leaving := true, apart := false, narrowed := true }
def FnExactSlowToldUptoSaid : Prop := fnExactSlowToldUptoRow.holds Tryz.pinned (OpenSpec.upto fnExactSlowToldSpec)

/-- 'laws.FnExactStrictTold', WHERE WHAT IT READS IS OF BULK AT MOST 1048576: true; the input reads as it did. -/
def fnExactStrictToldUptoRow : OpenClaim := { program := "ytkmjmnljkidobaagreat", sum := "2cffd359294d1e1c603ad7124b1b76974c8a49f3cbccb1a3785892e31ed4460e", func := "loop.example/g00411/laws.FnExactStrictTold", spec := "fnExactStrictTold", unfollowed := true, recurses := true, plainKeys := false, leaving := true, apart := false, narrowed := true }
def FnExactStrictToldUptoSaid : Prop := fnExactStrictToldUptoRow.holds Tryz.pinned (OpenSpec.upto fnExactStrictToldSpec)

/-- 'laws.FnExactStronger', WHERE WHAT IT READS IS OF BULK AT MOST 1048576: true; the input reads as it did. -/
def fnExactStrongerUptoRow : OpenClaim := { program := "ytkmjmnljkidobaagreat", sum := "2cffd359294d1e1c603ad7124b1b76974c8a49f3cbccb1a3785892e31ed4460e", func := "loop.example/g00411/laws.FnExactStronger", spec := "fnExactStronger", inPlace := ["(*sync.WaitGroup).Go", "(*sync.WaitGroup).Add", "internal/race.ReleaseMerge", "internal/race.Disable", "internal/race.Enable", "internal/synctest.IsInBubble", "internal/synctest.Associate[sync.WaitGroup]", "sync.fatal", "sync/atomic.OrUint64", "sync/atomic.AddUint64", "internal/race.Read", "sync/atomic.LoadUint64", "sync/atomic.StoreUint64", "internal/synctest.Disassociate[sync.WaitGroup]", "sync.runtime_Semrelease", "(*sync.WaitGroup).Go$1", "(*sync.WaitGroup).Go$1$1", "(*sync.WaitGroup).Done", "(*sync.WaitGroup).Wait", "internal/race.Acquire", "internal/synctest.IsAssociated[sync.WaitGroup]", "sync/atomic.CompareAndSwapUint64", "internal/race.Write", "sync.runtime_SemacquireWaitGroup"], unfollowed := true, recurses := true, plainKeys := false, leaving := true, apart := false, narrowed := true }
def FnExactStrongerUptoSaid : Prop := fnExactStrongerUptoRow.holds Tryz.pinned (OpenSpec.upto fnExactStrongerSpec)

end Rows
end Go.Proofs.YtkmjmnljkidobaaGreat
