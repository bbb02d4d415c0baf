/- Gathered texts. -/
import Derived.Test.YtgikcfdckddgpabGreatMA
set_option maxRecDepth 100000
set_option maxHeartbeats 8000000
namespace Go.Proofs.YtgikcfdckddgpabGreat
open Go.RowKit
def mapK (f:Int→Int)(a:List Int)(k:Nat):List Int:=(a.map f).take k++List.replicate (a.length-k) 0
theorem mapK_len (f:Int→Int)(a:List Int){k:Nat}(hk:k≤a.length):(mapK f a k).length=a.length:=by
 unfold mapK;rw[List.length_append,List.length_take,List.length_map,List.length_replicate];omega
theorem mapK_zero (f:Int→Int)(a:List Int):mapK f a 0=List.replicate a.length 0:=by simp[mapK]
theorem mapK_end (f:Int→Int)(a:List Int):mapK f a a.length=a.map f:=by
 unfold mapK;rw[Nat.sub_self,List.replicate_zero,List.append_nil,List.take_of_length_le (by simp)]
theorem mapK_set (f:Int→Int)(a:List Int){k:Nat}(hk:k<a.length):(mapK f a k).set k (f (a.getD k 0))=mapK f a (k+1):=by
 unfold mapK;have hz:k<(a.map f).length:=by simpa using hk
 have hl:((a.map f).take k).length=k:=by rw[List.length_take];omega
 rw[List.set_append_right _ _ (by omega),hl,Nat.sub_self,show a.length-k=(a.length-(k+1))+1 from by omega,List.replicate_succ,List.set_cons_zero,List.take_succ_eq_append_getElem hz,List.append_assoc,List.getElem_map,List.getD_eq_getElem?_getD,List.getElem?_eq_getElem hk];rfl
theorem mapK_same (f:Int→Int)(a:List Int){k:Nat}(hk:k<a.length):(mapK f a k).set k 0=mapK f a k:=by
 unfold mapK;have hl:((a.map f).take k).length=k:=by rw[List.length_take,List.length_map];omega
 rw[List.set_append_right _ _ (by omega),hl,Nat.sub_self,show a.length-k=(a.length-(k+1))+1 from by omega,List.replicate_succ,List.set_cons_zero]
def mateS (cl:List Int)(c:Int):Nat→Int
 | 0=>0
 |m+1=>if c=cl.getD m 0 then gAdd (mateS cl c m) m else mateS cl c m
def matesL (cl:List Int):List Int:=cl.map fun c=>mateS cl c cl.length
theorem ok_mate {n:Nat}(hn:n≤12)(cl:List Int)(c:Int)(m:Nat)(hm:m≤n):okB n (mateS cl c m)=true∧∀j:Nat,inSetB (mateS cl c m) j=true↔j<m∧c=cl.getD j 0:=by
 induction m with
 |zero=>exact⟨ok_zero hn,fun j=>by rw[show mateS cl c 0=0 from rfl,zero_bit];simp⟩
 |succ m ih=>
  have ih:=ih (by omega);unfold mateS;by_cases hc:c=cl.getD m 0
  ·
   rw[if_pos hc];have ha:=ok_add ih.1 (show m<n by omega);refine⟨ha.1,fun j=>?_⟩;rw[ha.2 j,Bool.or_eq_true,ih.2 j,decide_eq_true_eq];constructor
   ·
    rintro (⟨h1,h2⟩|h)
    · exact⟨by omega,h2⟩
    · subst h;exact⟨by omega,hc⟩
   ·
    rintro⟨h1,h2⟩;by_cases e:m=j
    · exact .inr e
    · exact .inl ⟨by omega,h2⟩
  ·
   rw[if_neg hc];refine⟨ih.1,fun j=>?_⟩;rw[ih.2 j];constructor
   · rintro⟨h1,h2⟩;exact⟨by omega,h2⟩
   ·
    rintro⟨h1,h2⟩;have:j≠m:=fun e=>hc (by rw[←e];exact h2)
    exact⟨by omega,h2⟩
theorem web_mates {n:Nat}(hn:n≤12){cl:List Int}(hc:cl.length=n):Web n (matesL cl)∧∀i j,i<n→(line (matesL cl) i j=true↔j<n∧cl.getD i 0=cl.getD j 0):=by
 have hg:∀i,i<n→(matesL cl).getD i 0=mateS cl (cl.getD i 0) n:=by
  intro i hi;unfold matesL;subst hc;rw[List.getD_eq_getElem?_getD,List.getElem?_map,List.getD_eq_getElem?_getD,List.getElem?_eq_getElem hi];rfl
 refine⟨⟨hn,by simp[matesL,hc],fun i hi=>?_⟩,fun i j hi=>?_⟩
 · rw[hg i hi];exact (ok_mate hn cl _ n (Nat.le_refl _)).1
 ·
  unfold line;rw[hg i hi];exact (ok_mate hn cl _ n (Nat.le_refl _)).2 j
theorem lift_mates {n:Nat}{zs cl:List Int}(hz:Web n zs)(hc:cl.length=n):mixL notI (thenL (thenL (matesL cl) zs) (matesL cl)) (matesL cl)=liftL zs cl:=by
 have hm:=web_mates hz.1 hc;have h1:=web_then hm.1 hz;have h2:=web_then h1.1 hm.1;have h3:=web_less h2.1 hm.1;have hl:=web_lift hz hc;refine h3.1.ext hl.1 fun i j hi hj=>?_
 rw[Bool.eq_iff_iff,h3.2 i j hi,Bool.and_eq_true,h2.2 i j hi,hl.2.2 i j hi,Bool.not_eq_true',←Bool.not_eq_true,hm.2 i j hi];constructor
 ·
  rintro⟨⟨b,hb,hab,hbj⟩,hne⟩;obtain⟨a,ha,hia,hline⟩:=(h1.2 i b hi).1 hab;have e1:=((hm.2 i a hi).1 hia).2;have e2:=((hm.2 b j hb).1 hbj).2;exact⟨hj,fun e=>hne ⟨hj,e.symm⟩,a,b,ha,hb,e1.symm,e2,hline⟩
 ·
  rintro⟨_,hne,a,b,ha,hb,e1,e2,hline⟩;exact⟨⟨b,hb,(h1.2 i b hi).2 ⟨a,ha,(hm.2 i a hi).2 ⟨ha,e1.symm⟩,hline⟩,(hm.2 b j hb).2 ⟨hj,e2⟩⟩,fun h=>hne h.2.symm⟩
end Go.Proofs.YtgikcfdckddgpabGreat
