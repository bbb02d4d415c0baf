/- Gathered texts. -/
import Derived.Test.YtgikcfdckddgpaaGreatMC
set_option maxRecDepth 100000
set_option maxHeartbeats 8000000
namespace Go.Proofs.YtgikcfdckddgpaaGreat
open Go.RowKit
theorem inL_nil:inL [] []=true:=rfl
theorem ow_in (dss:List (List Dd))(f:List Int):inL (owB dss f) (fwB dss f)=true:=by
 cases h:sourceB dss f with
 |false=>rw[owB,fwB,h];exact inL_nil
 |true=>
  have hbs:=h;rw[sourceB,Bool.and_eq_true] at hbs;have hx:=eventsB_12 dss;obtain⟨sl,su⟩:=src_use hx hbs.2;have wf:=fw_line (f:=f) hx (idxB rdE (eventsB dss)).length (fun i hi=>rd_in hx hi) (fun i hi=>(su i hi).1);have wo:=web_offAll (p:=owP (eventsB dss)) (st:=fwL (eventsB dss) f) wf.1 (eventsB dss).length (Nat.le_refl _);rw[owB,fwB,if_pos h,if_pos h];refine inL_web wo.1 wf.1 (fun i j hi hj hl=>?_);unfold owL at hl;rw[wo.2 i j hi,Bool.and_eq_true] at hl;exact hl.1
theorem sw_in (dss:List (List Dd))(f rows:List Int):inL (swB dss f rows) (xwB dss f rows)=true:=by
 cases h:taleB dss f rows with
 |false=>rw[swB,xwB,h];exact inL_nil
 |true=>
  have T:=told_of h;rw[swB,xwB,if_pos h,if_pos h];exact inL_web T.sw T.xw (slow_in T)
end Go.Proofs.YtgikcfdckddgpaaGreat
