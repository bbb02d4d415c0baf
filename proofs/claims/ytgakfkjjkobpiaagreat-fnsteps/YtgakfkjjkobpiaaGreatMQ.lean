/- Gathered texts. -/
import Derived.Test.YtgakfkjjkobpiaaGreatMP
set_option maxRecDepth 100000
set_option maxHeartbeats 8000000
namespace Go.Proofs.YtgakfkjjkobpiaaGreat
open Go.ChangeShapes Go.WideShapes Go.ChangeAt Go.RowKit
theorem Dr.fe {w W wr:World}{B c:Nat}(h:Dr W wr B c)(k:AC w W)(hc:w.heap.size<=c):AC w wr:=k.grown h.2 (fun j hj=>by simp at hj;omega)
theorem Ms.vI {w w':World}{a:Option Addr}{zs:List Int}(h:Ms w w.heap.size a zs)(k:AC w w'):Ms w' w'.heap.size a zs:=by
 refine⟨h.1,?_⟩;rcases h.2 with h|⟨b,off,ha,hb,_,hc⟩
 . exact .inl h
 . exact .inr ⟨b,off,ha,Nat.lt_of_lt_of_le hb k.size,Nat.lt_of_lt_of_le hb k.size,fun i hi=>⟨(k.cell hb).trans (hc i hi).1,(hc i hi).2⟩⟩
end Go.Proofs.YtgakfkjjkobpiaaGreat
