/-
  No cell of these rows narrows 'for every input' (looked for: loops, veiled, ifaces, maps, wideKeys, modest, calm, conditions, laid).
  DERIVED. THE GIVEN ROWS OF THIS SEAT. 5 by the template 'for every input the law returns true; each argument reads behind the call as it read before'; 0 by the template 'total and deterministic' (their statements: YtdgalmimkhoanaaTotals.lean).
  GIVEN WITH THE SEED: the statements are not yours to turn. If you find one false, say at which input.
  Laid BY PROGRAM, IN A SANDBOX (cutbox-rows.mjs): the forced cells as the released guide's own fill.sh prints them over the translation feedb64cd81eda4f… (all of the seat's roots in one cut). By AI agents, Wed Nov 11 2026. No macro, syntax, notation, axiom, sorry.
-/
import Derived.Test.YtdgalmimkhoanaaChecked
import GoSem.Claim
import GoSem.ClaimJoined
import GoSem.ClaimMapViews
import Derived.JoinedTies
import Derived.KernelRfl
namespace Go.Proofs.Ytdgalmimkhoanaa
/- THE CELL 'sum', in the pinned program and in every row, IS THE sha256 OF THE DUMP (.gsa) THAT YtdgalmimkhoanaaProg.lean LOADS. Nothing in Lean hashes anything: it is a label: what it is worth is what the hold of that sum in a sandbox is worth. -/
noncomputable def Try.pinned : Pinned := { name := "ytdgalmimkhoanaa", sum := "feedb64cd81eda4f2fc07411344ccd9f913c05dcd30a443f9e79a51ee242fbc3", checked := Try.checked }
namespace Rows
def none {H : Type} : Left H := { results := [], args := [] }

/-- 'laws.FnSources': WHATEVER THE INPUT: true; the input reads as it did. -/
def fnSourcesSpec : ChangeSpec := { name := "fnSources", fn := fun _ => fun
  | [d] => { results := [.lit (.bool true)], args := [d] }
  | _ => none }
def fnSourcesRow : OpenClaim := { program := "ytdgalmimkhoanaa", sum := "feedb64cd81eda4f2fc07411344ccd9f913c05dcd30a443f9e79a51ee242fbc3", func := "loop.example/g00411/laws.FnSources", spec := "fnSources", unfollowed := true, recurses := true, apart := false }
def FnSourcesSaid : Prop := fnSourcesRow.holds Try.pinned (OpenSpec.ofChange fnSourcesSpec)

/-- ITS FALSE NEIGHBOUR: 'it returns false'. Refute it at one input. -/
def fnSourcesWrong : ChangeSpec := { name := "fnSources", fn := fun _ => fun
  | [d] => { results := [.lit (.bool false)], args := [d] }
  | _ => none }
def FnSourcesWrongFalsely : Prop := fnSourcesRow.holds Try.pinned (OpenSpec.ofChange fnSourcesWrong)

/-- 'laws.FnExactSourceOk': WHATEVER THE INPUT: true; the input reads as it did. -/
def fnExactSourceOkSpec : ChangeSpec := { name := "fnExactSourceOk", fn := fun _ => fun
  | [d1, d2] => { results := [.lit (.bool true)], args := [d1, d2] }
  | _ => none }
def fnExactSourceOkRow : OpenClaim := { program := "ytdgalmimkhoanaa", sum := "feedb64cd81eda4f2fc07411344ccd9f913c05dcd30a443f9e79a51ee242fbc3", func := "loop.example/g00411/laws.FnExactSourceOk", spec := "fnExactSourceOk", unfollowed := true, recurses := true, apart := false }
def FnExactSourceOkSaid : Prop := fnExactSourceOkRow.holds Try.pinned (OpenSpec.ofChange fnExactSourceOkSpec)

/-- ITS FALSE NEIGHBOUR: 'it returns false'. Refute it at one input. -/
def fnExactSourceOkWrong : ChangeSpec := { name := "fnExactSourceOk", fn := fun _ => fun
  | [d1, d2] => { results := [.lit (.bool false)], args := [d1, d2] }
  | _ => none }
def FnExactSourceOkWrongFalsely : Prop := fnExactSourceOkRow.holds Try.pinned (OpenSpec.ofChange fnExactSourceOkWrong)

/-- 'laws.FnExactSourcesCount': WHATEVER THE INPUT: true; the input reads as it did. -/
def fnExactSourcesCountSpec : ChangeSpec := { name := "fnExactSourcesCount", fn := fun _ => fun
  | [d] => { results := [.lit (.bool true)], args := [d] }
  | _ => none }
def fnExactSourcesCountRow : OpenClaim := { program := "ytdgalmimkhoanaa", sum := "feedb64cd81eda4f2fc07411344ccd9f913c05dcd30a443f9e79a51ee242fbc3", func := "loop.example/g00411/laws.FnExactSourcesCount", spec := "fnExactSourcesCount", unfollowed := true, recurses := true, apart := false }
def FnExactSourcesCountSaid : Prop := fnExactSourcesCountRow.holds Try.pinned (OpenSpec.ofChange fnExactSourcesCountSpec)

/-- ITS FALSE NEIGHBOUR: 'it returns false'. Refute it at one input. -/
def fnExactSourcesCountWrong : ChangeSpec := { name := "fnExactSourcesCount", fn := fun _ => fun
  | [d] => { results := [.lit (.bool false)], args := [d] }
  | _ => none }
def FnExactSourcesCountWrongFalsely : Prop := fnExactSourcesCountRow.holds Try.pinned (OpenSpec.ofChange fnExactSourcesCountWrong)

/-- 'laws.FnExactSourceAt': WHATEVER THE INPUT: true; the input reads as it did. -/
def fnExactSourceAtSpec : ChangeSpec := { name := "fnExactSourceAt", fn := fun _ => fun
  | [d1, d2] => { results := [.lit (.bool true)], args := [d1, d2] }
  | _ => none }
def fnExactSourceAtRow : OpenClaim := { program := "ytdgalmimkhoanaa", sum := "feedb64cd81eda4f2fc07411344ccd9f913c05dcd30a443f9e79a51ee242fbc3", func := "loop.example/g00411/laws.FnExactSourceAt", spec := "fnExactSourceAt", unfollowed := true, recurses := true, apart := false }
def FnExactSourceAtSaid : Prop := fnExactSourceAtRow.holds Try.pinned (OpenSpec.ofChange fnExactSourceAtSpec)

/-- ITS FALSE NEIGHBOUR: 'it returns false'. Refute it at one input. -/
def fnExactSourceAtWrong : ChangeSpec := { name := "fnExactSourceAt", fn := fun _ => fun
  | [d1, d2] => { results := [.lit (.bool false)], args := [d1, d2] }
  | _ => none }
def FnExactSourceAtWrongFalsely : Prop := fnExactSourceAtRow.holds Try.pinned (OpenSpec.ofChange fnExactSourceAtWrong)

/-- 'laws.FnExactFromWeb': WHATEVER THE INPUT: true; the input reads as it did. -/
def fnExactFromWebSpec : ChangeSpec := { name := "fnExactFromWeb", fn := fun _ => fun
  | [d1, d2] => { results := [.lit (.bool true)], args := [d1, d2] }
  | _ => none }
def fnExactFromWebRow : OpenClaim := { program := "ytdgalmimkhoanaa", sum := "feedb64cd81eda4f2fc07411344ccd9f913c05dcd30a443f9e79a51ee242fbc3", func := "loop.example/g00411/laws.FnExactFromWeb", spec := "fnExactFromWeb", unfollowed := true, recurses := true, apart := false }
def FnExactFromWebSaid : Prop := fnExactFromWebRow.holds Try.pinned (OpenSpec.ofChange fnExactFromWebSpec)

/-- ITS FALSE NEIGHBOUR: 'it returns false'. Refute it at one input. -/
def fnExactFromWebWrong : ChangeSpec := { name := "fnExactFromWeb", fn := fun _ => fun
  | [d1, d2] => { results := [.lit (.bool false)], args := [d1, d2] }
  | _ => none }
def FnExactFromWebWrongFalsely : Prop := fnExactFromWebRow.holds Try.pinned (OpenSpec.ofChange fnExactFromWebWrong)

/- THE SECOND FORM. 'bulk': how many values and letters a reading holds, each counted each time it is reached (what is shared counts as often as it is met; a slice's spare places count too). A statement '..UptoSaid' is the law's where the arguments, and the package variables that the reading takes, are together of bulk at most 1048576: NARROWER than '..Said'. Prove '..Said' where nothing that the law and all that it calls make is longer than what came in: it says more and counts as full. Else prove '..UptoSaid'. A law counts once. -/
mutual
def uptoBulk {H : Type} : DataW H → Nat
  | .lit (.string bytes) => bytes.length + 1
  | .lit _ => 1
  | .nil => 1
  | .ptr d => uptoBulk d + 1
  | .slice elems spare => uptoBulkAll elems + uptoBulkAll spare + 1
  | .agg parts => uptoBulkAll parts + 1
  | .iface _ d => uptoBulk d + 1
  | .map entries => uptoBulkEntries entries + 1
  | .held _ => 1
def uptoBulkAll {H : Type} : List (DataW H) → Nat
  | [] => 0
  | d :: r => uptoBulk d + uptoBulkAll r
def uptoBulkEntries {H : Type} : List (Lit × DataW H) → Nat
  | [] => 0
  | x :: r => uptoBulkEntry x + uptoBulkEntries r
def uptoBulkEntry {H : Type} : Lit × DataW H → Nat
  | (.string bytes, d) => bytes.length + uptoBulk d + 1
  | (_, d) => uptoBulk d + 1
 end
def uptoSmall : (H : Type) → List (DataW H) → Bool := fun _ ds => decide (uptoBulkAll ds ≤ 1048576)
def OpenSpec.upto (s : _root_.Go.ChangeSpec) : _root_.Go.OpenSpec := { _root_.Go.OpenSpec.ofChange s with cond := some uptoSmall }

/-- 'laws.FnSources', WHERE WHAT IT READS IS OF BULK AT MOST 1048576: true; the input reads as it did. -/
def fnSourcesUptoRow : OpenClaim := { program := "ytdgalmimkhoanaa", sum := "feedb64cd81eda4f2fc07411344ccd9f913c05dcd30a443f9e79a51ee242fbc3", func := "loop.example/g00411/laws.FnSources", spec := "fnSources", unfollowed := true, recurses := true, apart := false, narrowed := true }
def FnSourcesUptoSaid : Prop := fnSourcesUptoRow.holds Try.pinned (OpenSpec.upto fnSourcesSpec)

/-- 'laws.FnExactSourceOk', WHERE WHAT IT READS IS OF BULK AT MOST 1048576: true; the input reads as it did. -/
def fnExactSourceOkUptoRow : OpenClaim := { program := "ytdgalmimkhoanaa", sum := "feedb64cd81eda4f2fc07411344ccd9f913c05dcd30a443f9e79a51ee242fbc3", func := "loop.example/g00411/laws.FnExactSourceOk", spec := "fnExactSourceOk", unfollowed := true, recurses := true, apart := false, narrowed := true }
def FnExactSourceOkUptoSaid : Prop := fnExactSourceOkUptoRow.holds Try.pinned (OpenSpec.upto fnExactSourceOkSpec)

/-- 'laws.FnExactSourcesCount', WHERE WHAT IT READS IS OF BULK AT MOST 1048576: true; the input reads as it did. -/
def fnExactSourcesCountUptoRow : OpenClaim := { program := "ytdgalmimkhoanaa", sum := "feedb64cd81eda4f2fc07411344ccd9f913c05dcd30a443f9e79a51ee242fbc3", func := "loop.example/g00411/laws.FnExactSourcesCount", spec := "fnExactSourcesCount", unfollowed := true, recurses := true, apart := false, narrowed := true }
def FnExactSourcesCountUptoSaid : Prop := fnExactSourcesCountUptoRow.holds Try.pinned (OpenSpec.upto fnExactSourcesCountSpec)

/-- 'laws.FnExactSourceAt', WHERE WHAT IT READS IS OF BULK AT MOST 1048576: true; the input reads as it did. -/
def fnExactSourceAtUptoRow : OpenClaim := { program := "ytdgalmimkhoanaa", sum := "feedb64cd81eda4f2fc07411344ccd9f913c05dcd30a443f9e79a51ee242fbc3", func := "loop.example/g00411/laws.FnExactSourceAt", spec := "fnExactSourceAt", unfollowed := true, recurses := true, apart := false, narrowed := true }
def FnExactSourceAtUptoSaid : Prop := fnExactSourceAtUptoRow.holds Try.pinned (OpenSpec.upto fnExactSourceAtSpec)

/-- 'laws.FnExactFromWeb', WHERE WHAT IT READS IS OF BULK AT MOST 1048576: true; the input reads as it did. -/
def fnExactFromWebUptoRow : OpenClaim := { program := "ytdgalmimkhoanaa", sum := "feedb64cd81eda4f2fc07411344ccd9f913c05dcd30a443f9e79a51ee242fbc3", func := "loop.example/g00411/laws.FnExactFromWeb", spec := "fnExactFromWeb", unfollowed := true, recurses := true, apart := false, narrowed := true }
def FnExactFromWebUptoSaid : Prop := fnExactFromWebUptoRow.holds Try.pinned (OpenSpec.upto fnExactFromWebSpec)

end Rows
end Go.Proofs.Ytdgalmimkhoanaa
