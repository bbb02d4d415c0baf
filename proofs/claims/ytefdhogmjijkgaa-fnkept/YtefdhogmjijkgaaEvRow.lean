/- Lists of events in memory. -/
import Derived.Test.YtefdhogmjijkgaaRowT
import Derived.Test.YtefdhogmjijkgaaMA
namespace Go.Proofs.Ytefdhogmjijkgaa
open Go.ChangeShapes Go.WideShapes Go.ChangeAt Go.RowKit

def cE (e : Ev) : List Value := [.int .i64 e.1, .int .i64 e.2.1, .bool e.2.2.1, .int .i64 e.2.2.2.1, .int .i64 e.2.2.2.2.1, .int .i64 e.2.2.2.2.2]
theorem cE_len (e : Ev) : (cE e).length = 6 := rfl
theorem Try.infoE : (Try.prog.info? 36).map (fun i => (i.zero, i.size, i.bytes)) = some (some (.agg #[.int .i64 0, .int .i64 0, .bool false, .int .i64 0, .int .i64 0, .int .i64 0]), 6, 48) := by kernel_rfl
abbrev RdE (w : World) (v : Value) (es : List Ev) : Prop := RdT cE 6 w v es
abbrev AppE (w : World) (base : Nat) (v : Value) (es : List Ev) : Prop := AppT cE 36 6 w base v es
theorem atE {w : World} {b o : Nat} {x0 x1 : Int} {r : Bool} {x3 x4 x5 : Int} (h : AtT cE w b o (x0, x1, r, x3, x4, x5)) :
    w.cell? ⟨b, o, none⟩ = some (.int .i64 x0) ∧ w.cell? ⟨b, o + 1, none⟩ = some (.int .i64 x1) ∧ w.cell? ⟨b, o + 2, none⟩ = some (.bool r) ∧ w.cell? ⟨b, o + 3, none⟩ = some (.int .i64 x3) ∧ w.cell? ⟨b, o + 4, none⟩ = some (.int .i64 x4) ∧ w.cell? ⟨b, o + 5, none⟩ = some (.int .i64 x5) :=
  ⟨h 0 _ rfl, h 1 _ rfl, h 2 _ rfl, h 3 _ rfl, h 4 _ rfl, h 5 _ rfl⟩
theorem AppE.rd {w : World} {base : Nat} {v : Value} {es : List Ev} (h : AppE w base v es) : RdE w v es := AppT.rd cE_len h
theorem evs_get {es : List Ev} {i : Nat} (h : i < es.length) : es[i]? = some (es.getD i zE) := by
  rw [List.getD_eq_getElem?_getD, List.getElem?_eq_getElem h]; rfl
end Go.Proofs.Ytefdhogmjijkgaa
