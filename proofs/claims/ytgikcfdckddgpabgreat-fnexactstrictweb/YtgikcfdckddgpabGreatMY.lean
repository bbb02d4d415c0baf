/- Gathered texts. -/
import Derived.Test.YtgikcfdckddgpabGreatMP
import Derived.Deep.RegionHeld3
import Derived.Handy
import Derived.Stop.Asserts
set_option maxRecDepth 100000
set_option maxHeartbeats 8000000
namespace Go.Proofs.YtgikcfdckddgpabGreat
open Go.ChangeShapes Go.WideShapes Go.ChangeAt Go.RowKit
theorem implStrictWeb_any (w:World)(v vF vR:Value)(dss:List (List Dd))(f rows:List Int)(h:RdW w v dss)(hf:Rd w vF f)(hr:Rd w vR rows)(hcap:rows.length≤capZ vR)(hx:dss.length≤1048576)(hm:∀i,i<dss.length→(dss.getD i []).length≤1048576)(hfl:f.length≤1048576)(hrl:rows.length≤1048576):
  Calls Tryz.prog 15 #[v,.agg #[vF,vR]] w fun e w'=>∃v',e = .returned v'∧Row w' w.heap.size v' (xwB dss f rows)∧Keep w w':=by
 have C:=fun (W:World) (kW:Keep w W)=>quickWeb_any W v vF vR dss f rows (h.keep kW) (hf.keep kW) (hr.keep kW) hcap hx hm hfl hrl
 clear h hf hr hcap hx hm hfl hrl;go_enter Tryz.func15,Tryz.ntmps15
 go_wp2_with fail
 refine (C _ ((Keep.refl w).alloc (.cells #[vF,vR] 31))).mono ?_;rintro e w1 ⟨v',rfl,o,k⟩;have K:=(((Keep.refl w).alloc (.cells #[vF,vR] 31))).trans k;have O:=o.base_le (((Keep.refl w).alloc (.cells #[vF,vR] 31))).size;clear o k;obtain⟨a,c,rfl,-⟩:=id O.rd;go_wp2;go_ret;exact⟨_,rfl,O,K⟩
end Go.Proofs.YtgikcfdckddgpabGreat
