/- Gathered texts. -/
import Derived.Test.YtgikcfdckddgpaaGreatMB
set_option maxRecDepth 100000
set_option maxHeartbeats 8000000
namespace Go.Proofs.YtgikcfdckddgpaaGreat

theorem waitB_cases (dss:List (List Dd)):waitB dss=[]∨(workB dss=true∧workB (waitB dss)=true∧(waitB dss).length=dss.length∧1≤dss.length∧dss.length≤3∧(∀k,k<dss.length→(waitB dss).getD k []=waitC (dss.getD k [])∧(dss.getD k []).length≤5)∧evW (waitB dss) (waitB dss).length=evW dss dss.length∧waitB (waitB dss)=waitB dss):=by
 by_cases h1:workB dss=true
 ·
  by_cases h2:workB (waitW dss)=true
  ·
   right;have e:waitB dss=waitW dss:=by rw[waitB,if_pos h1,if_pos h2]
   have hw:=h1;simp only[workB,Bool.and_eq_true,decide_eq_true_eq] at hw;obtain⟨⟨⟨⟨hw1,hw2⟩,_⟩,_⟩,_⟩:=hw;rw[e];refine⟨h1,h2,by simp[waitW],hw1.1,hw1.2,fun k hk=>⟨?_,?_⟩,evW_wait dss,?_⟩
   ·
    rw[waitW,List.getD_eq_getElem?_getD,List.getElem?_map,List.getD_eq_getElem?_getD,List.getElem?_eq_getElem hk];rfl
   ·
    have:=all_get [] hw2 k hk;simp only[okL,Bool.and_eq_true,decide_eq_true_eq] at this;exact this.2
   · rw[waitB,if_pos h2,waitW_twice,if_pos h2]
  · left;rw[waitB,if_pos h1,if_neg h2]
 · left;rw[waitB,if_neg h1]
end Go.Proofs.YtgikcfdckddgpaaGreat
