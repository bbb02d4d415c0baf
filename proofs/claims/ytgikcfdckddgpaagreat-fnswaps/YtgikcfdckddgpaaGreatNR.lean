/- Gathered texts. -/
import Derived.Test.YtgikcfdckddgpaaGreatMC
set_option maxRecDepth 100000
set_option maxHeartbeats 8000000
namespace Go.Proofs.YtgikcfdckddgpaaGreat
open Go.RowKit
def swD (d:Dd):Dd:=(if d.1=2 then 3 else d.1,d.2.1,d.2.2.1,0)
def swC (ds:List Dd):List Dd:=ds.map swD
def swpW (dss:List (List Dd)):List (List Dd):=dss.map swC
theorem swC_take (ds:List Dd)(q:Nat)(h:q<ds.length):(ds.take (q+1)).map swD=(ds.take q).map swD++[swD (ds.getD q zD)]:=by
 rw[List.take_add_one,List.getElem?_eq_getElem h,List.map_append,List.getD_eq_getElem?_getD,List.getElem?_eq_getElem h];rfl
theorem swW_take (dss:List (List Dd))(k:Nat)(h:k<dss.length):(dss.take (k+1)).map swC=(dss.take k).map swC++[swC (dss.getD k [])]:=by
 rw[List.take_add_one,List.getElem?_eq_getElem h,List.map_append,List.getD_eq_getElem?_getD,List.getElem?_eq_getElem h];rfl
theorem swW_get (dss:List (List Dd))(i:Nat)(h:i<dss.length):(swpW dss).getD i []=swC (dss.getD i []):=by
 unfold swpW;rw[List.getD_eq_getElem?_getD,List.getElem?_map,List.getD_eq_getElem?_getD,List.getElem?_eq_getElem h];rfl
theorem sw_kind (dss:List (List Dd))(c k:Nat):(((swpW dss).getD c []).getD k zD).1≠2:=by
 by_cases hc:c<dss.length
 ·
  rw[swW_get dss c hc];generalize dss.getD c []=ds;by_cases hk:k<ds.length
  ·
   unfold swC;rw[List.getD_eq_getElem?_getD,List.getElem?_map,List.getElem?_eq_getElem hk];show (swD ds[k]).1≠2;unfold swD;simp only;split
   · omega
   · assumption
  ·
   rw[List.getD_eq_getElem?_getD,List.getElem?_eq_none (by unfold swC;rw[List.length_map];omega)];simp[zD]
 ·
  have e:(swpW dss).getD c []=[]:=by
   rw[List.getD_eq_getElem?_getD,List.getElem?_eq_none (by unfold swpW;rw[List.length_map];omega)];rfl
  rw[e];simp[zD]
theorem swaps_strict {dss:List (List Dd)}(hb:workB (swpW dss)=true)(f rows:List Int):slowB (swpW dss) f rows=strictB (swpW dss) f rows:=by
 refine kept_strict (kept_swaps (fun j h3 hj hr=>?_));obtain⟨c,k,i,hE⟩:=ev_dec hb h3 hj;have hat:=hE.at hb;rw[hat] at hr ⊢;have h2:(dAt (swpW dss) c k).1≠2:=sw_kind dss c k
 have hd:dOf (swpW dss) ((c:Int),(k:Int),rdI (dAt (swpW dss) c k) i,(dAt (swpW dss) c k).2.1,vlI (dAt (swpW dss) c k) i,clsD (swpW dss) c k)=dAt (swpW dss) c k:=by
  unfold dOf;simp only[Int.toNat_natCast]
 rw[hd];have hi:=hE.hi;simp only at hr;unfold rdI at hr;unfold numD at hi;by_cases h4:(dAt (swpW dss) c k).1=4
 · rw[if_pos h4] at hi;omega
 ·
  rw[if_neg h4] at hi;by_cases h3':(dAt (swpW dss) c k).1=3
  · exact h3'
  ·
   rw[if_neg h3'] at hi;have:i=0:=by omega
   rw[decide_eq_true h2,decide_eq_true this] at hr;cases hr
end Go.Proofs.YtgikcfdckddgpaaGreat
