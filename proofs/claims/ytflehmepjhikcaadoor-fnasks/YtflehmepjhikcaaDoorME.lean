/- Gathered texts. -/
import Derived.Test.YtflehmepjhikcaaDoorMA
set_option maxRecDepth 100000
set_option maxHeartbeats 8000000
namespace Go.Proofs.YtflehmepjhikcaaDoor
open Go.ChangeShapes Go.WideShapes Go.ChangeAt Go.RowKit
theorem ra_use {l:List UInt8}(h:raT l=true):(raR l).length≤6∧(raR l).length=(raV l).length∧∀i,i<(raR l).length→keyB ((raR l).getD i 0) 6=true∧inB ((raV l).getD i 0) 0 9=true:=by
 have eR:raR l=(wsA l).map pAt:=by unfold raR;rw[if_pos h]
 have eV:raV l=(wsA l).map pVl:=by unfold raV;rw[if_pos h]
 rw[eR,eV];unfold raT at h;rw[Bool.and_eq_true] at h;exact okA_use h.2
theorem dg_len (n:Int):(dgA n).length=1:=rfl
theorem nm_len (n:Int):(nmA n).length=1:=by unfold nmA;split<;>rfl
theorem showP_len (rs vs:List Int):∀k,(showP rs vs k).length≤4*k
 | 0=>Nat.le_refl _
 |k+1=>by
  have ih:=showP_len rs vs k;show ((if 0<k then showP rs vs k++[32] else showP rs vs k)++nmA (rs.getD k 0)++[61]++dgA (vs.getD k 0)).length≤4*(k+1);rw[List.length_append,List.length_append,List.length_append,nm_len,dg_len];split
  · rw[List.length_append];simp only[List.length_cons,List.length_nil];omega
  · simp only[List.length_cons,List.length_nil];omega
end Go.Proofs.YtflehmepjhikcaaDoor
