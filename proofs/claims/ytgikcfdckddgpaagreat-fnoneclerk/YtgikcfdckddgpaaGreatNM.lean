/- Gathered texts. -/
import Derived.Test.YtgikcfdckddgpaaGreatMT
set_option maxRecDepth 100000
set_option maxHeartbeats 8000000
namespace Go.Proofs.YtgikcfdckddgpaaGreat
open Go.RowKit
theorem rights_get {dss:List (List Dd)}:∀n:Nat,rightsW dss n=true→∀m,m<n→rightB (dss.getD m []) (takW dss m)=true
 | 0,_,m,hm=>by omega
 |n+1,h,m,hm=>by
  rw[rightsW,Bool.and_eq_true] at h;by_cases e:m=n
  · subst e;exact h.2
  · exact rights_get n h.1 m (by omega)
theorem evW_get {dss:List (List Dd)}:∀n:Nat,∀m,m<n→evK (dss.getD m []) (dss.getD m []).length≤evW dss n
 | 0,m,hm=>by omega
 |n+1,m,hm=>by
  rw[evW];have h1:=(evK_in (dss.getD n []) (dss.getD n []).length).1;by_cases e:m=n
  ·
   subst e
   have:∀k:Nat,0≤evW dss k:=fun k=>by
    induction k with
    |zero=>simp[evW]
    |succ k ih=>rw[evW];have:=(evK_in (dss.getD k []) (dss.getD k []).length).1;omega
   have:=this m;omega
  ·
   have:=evW_get (dss:=dss) n m (by omega);omega
theorem one_work {dss:List (List Dd)}(hb:workB dss=true){m:Nat}(hm:m<dss.length):workB [dss.getD m []]=true:=by
 rw[work_rights] at hb ⊢;simp only[Bool.and_eq_true,decide_eq_true_eq] at hb;obtain⟨⟨⟨_,h2⟩,h3⟩,h4⟩:=hb;have h5:=rights_get _ h2 m hm;have h6:=evW_get (dss:=dss) _ m hm;generalize dss.getD m []=d at *;unfold rightB at h5;simp only[Bool.and_eq_true,decide_eq_true_eq] at h5;obtain⟨⟨⟨q1,q2⟩,q3⟩,_⟩:=h5;have hz:bits .and .i64 (gC d) 0=0:=by simp[bits];rfl
 simp only[Bool.and_eq_true,decide_eq_true_eq];refine⟨⟨⟨by simp,?_⟩,?_⟩,?_⟩
 ·
  show (true&&rightB d 0)=true;unfold rightB;rw[hz,q2,q3];simp[q1]
 ·
  show d.length+0≤12;omega
 ·
  show (0:Int)+evK d d.length≤6;omega
end Go.Proofs.YtgikcfdckddgpaaGreat
