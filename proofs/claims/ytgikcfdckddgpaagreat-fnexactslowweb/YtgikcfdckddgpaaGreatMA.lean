/- Gathered texts. -/
import Derived.Lib.IndexMore
import Derived.Lib.ParseIntB
import Derived.Lib.ItoaNum
import Derived.WalkKit
import Derived.ProofKit
import Derived.Laws.BitsAllLaws
import Derived.Laws.BitsLemmas
set_option maxRecDepth 100000
set_option maxHeartbeats 8000000
namespace Go.Proofs.YtgikcfdckddgpaaGreat
open Go.RowKit
def deedB (k p v g:Int):Bool:=
 decide ((1≤k∧k≤4)∧(0≤p∧p≤2)∧(0≤g∧g≤9)∧(k=4→p=0)∧(2<k→g=0)∧((k=2∨k=3)→1≤v∧v≤9)∧(¬(k=2∨k=3)→v=0))
abbrev Dd:=Int×Int×Int×Int
def zD:Dd:=(0,0,0,0)
def okD (d:Dd):Bool:=deedB d.1 d.2.1 d.2.2.1 d.2.2.2
def evD (d:Dd):Int:=if d.1=1 then 1 else if d.1=2 then 1 else if d.1=3 then 2 else 0
def evK (ds:List Dd):Nat→Int
 | 0=>0
 |k+1=>evK ds k+evD (ds.getD k zD)
def evW (dss:List (List Dd)):Nat→Int
 | 0=>0
 |i+1=>evW dss i+evK (dss.getD i []) (dss.getD i []).length
theorem evD_in (d:Dd):0≤evD d∧evD d≤2:=by
 unfold evD
 repeat' split
 all_goals omega
theorem evK_in (ds:List Dd):∀k:Nat,0≤evK ds k∧evK ds k≤2*k
 | 0=>by simp[evK]
 |k+1=>by have:=evK_in ds k;have:=evD_in (ds.getD k zD);rw[evK];omega
def grpK (i:Nat)(own:List Int)(ds:List Dd):Nat→Option (List Int)
 | 0=>some own
 |k+1=>match grpK i own ds k with
  |none=>none
  |some o=>
   if (ds.getD k zD).2.2.2=0 then some o
   else if o.getD (ds.getD k zD).2.2.2.toNat 0≠0∧(o.getD (ds.getD k zD).2.2.2.toNat 0≠(i:Int)+1∨k=0∨(ds.getD (k-1) zD).2.2.2≠(ds.getD k zD).2.2.2) then none
   else some (o.set (ds.getD k zD).2.2.2.toNat ((i:Int)+1))
def grpW (dss:List (List Dd)):Nat→Option (List Int)
 | 0=>some (List.replicate 10 0)
 |i+1=>match grpW dss i with
  |none=>none
  |some o=>grpK i o (dss.getD i []) (dss.getD i []).length
def grpB (dss:List (List Dd)):Bool:=(grpW dss dss.length).isSome
def lenW:List (List Dd)→Nat
 | []=>0
 |d::r=>d.length+lenW r
def okL (ds:List Dd):Bool:=ds.all okD&&decide (ds.length≤5)
def workB (dss:List (List Dd)):Bool:=
 decide (1≤dss.length∧dss.length≤3)&&dss.all okL&&decide (lenW dss≤12)&&decide (evW dss dss.length≤6)&&grpB dss
theorem grpK_none {i:Nat}{own:List Int}{ds:List Dd}{k:Nat}(h:grpK i own ds k=none):∀n:Nat,k≤n→grpK i own ds n=none
 | 0,hn=>by
  obtain rfl:k=0:=by omega
  exact h
 |n+1,hn=>by
  by_cases e:k=n+1
  · rw[←e];exact h
  · rw[grpK,grpK_none h n (by omega)]
theorem grpW_none {dss:List (List Dd)}{i:Nat}(h:grpW dss i=none):∀n:Nat,i≤n→grpW dss n=none
 | 0,hn=>by
  obtain rfl:i=0:=by omega
  exact h
 |n+1,hn=>by
  by_cases e:i=n+1
  · rw[←e];exact h
  · rw[grpW,grpW_none h n (by omega)]
theorem grpK_len {i:Nat}{own:List Int}{ds:List Dd}:∀ {k:Nat} {o:List Int},grpK i own ds k=some o→o.length=own.length
 | 0,o,h=>by simp only[grpK,Option.some.injEq] at h;rw[←h]
 |k+1,o,h=>by
  rw[grpK] at h;split at h
  · cases h
  ·
   rename_i o' ho';have ih:=grpK_len ho';split at h
   · simp only[Option.some.injEq] at h;rw[←h];exact ih
   ·
    split at h
    · cases h
    · simp only[Option.some.injEq] at h;rw[←h,List.length_set];exact ih
theorem grpW_len {dss:List (List Dd)}:∀ {i:Nat} {o:List Int},grpW dss i=some o→o.length=10
 | 0,o,h=>by simp only[grpW,Option.some.injEq] at h;rw[←h];simp
 |i+1,o,h=>by
  rw[grpW] at h;split at h
  · cases h
  ·
   rename_i o' ho';rw[grpK_len h];exact grpW_len ho'
theorem all_get {α:Type}{f:α→Bool}{l:List α}(z:α)(h:l.all f=true)(i:Nat)(hi:i<l.length):f (l.getD i z)=true:=by
 rw[List.getD_eq_getElem?_getD,List.getElem?_eq_getElem hi];exact List.all_eq_true.1 h _ (List.getElem_mem hi)
theorem all_of {α:Type}{f:α→Bool}{l:List α}(z:α)(h:∀i,i<l.length→f (l.getD i z)=true):l.all f=true:=by
 rw[List.all_eq_true];intro x hx;obtain⟨i,hi,rfl⟩:=List.getElem_of_mem hx;have:=h i hi
 rwa [List.getD_eq_getElem?_getD,List.getElem?_eq_getElem hi] at this
theorem all_not {α:Type}{f:α→Bool}{l:List α}(z:α)(i:Nat)(hi:i<l.length)(h:f (l.getD i z)=false):l.all f=false:=by
 cases hb:l.all f
 · rfl
 · rw[all_get z hb i hi] at h;cases h
abbrev Ev:=Int×Int×Bool×Int×Int×Int
def zE:Ev:=(0,0,false,0,0,0)
def csE (e:Ev):Int:=e.2.2.2.2.2
def evBeg:List Ev:=[(-1,-1,false,0,0,0),(-1,-1,false,1,0,1),(-1,-1,false,2,0,2)]
def oneE (i k:Nat)(d:Dd)(c:Int):List Ev:=
 if d.1=4 then [] else if d.1=3 then [((i:Int),(k:Int),true,d.2.1,0,c),((i:Int),(k:Int),false,d.2.1,d.2.2.1,c)]
 else if d.1=2 then [((i:Int),(k:Int),false,d.2.1,d.2.2.1,c)] else [((i:Int),(k:Int),true,d.2.1,0,c)]
def fstE (g:Int)(at0:Nat)(f:List Int):List Int:=if 0<g∧f.getD g.toNat 0=0 then f.set g.toNat (at0:Int) else f
def clsE (g:Int)(at0:Nat)(f:List Int):Int:=if 0<g then (fstE g at0 f).getD g.toNat 0 else (at0:Int)
def stepE (i k:Nat)(d:Dd)(s:List Ev×List Int):List Ev×List Int:=
 if d.1=4 then s else (s.1++oneE i k d (clsE d.2.2.2 s.1.length s.2),fstE d.2.2.2 s.1.length s.2)
def clkE (i:Nat)(ds:List Dd)(out:List Ev):Nat→List Ev×List Int
 | 0=>(out,List.replicate 10 0)
 |k+1=>stepE i k (ds.getD k zD) (clkE i ds out k)
def evsW (dss:List (List Dd)):Nat→List Ev
 | 0=>evBeg
 |i+1=>(clkE i (dss.getD i []) (evsW dss i) (dss.getD i []).length).1
def eventsB (dss:List (List Dd)):List Ev:=if workB dss=true then evsW dss dss.length else []
theorem oneE_len (i k:Nat)(d:Dd)(c:Int)(h:d.1=1∨d.1=2∨d.1=3∨d.1=4):((oneE i k d c).length:Int)=evD d:=by
 unfold oneE evD;rcases h with h|h|h|h<;>simp[h]
theorem okD_kindE {d:Dd}(h:okD d=true):d.1=1∨d.1=2∨d.1=3∨d.1=4:=by
 simp[okD,deedB] at h;omega
theorem okD_restE {d:Dd}(h:okD d=true):0≤d.2.1∧d.2.1≤2∧0≤d.2.2.2∧d.2.2.2≤9∧(2<d.1→d.2.2.2=0):=by
 simp[okD,deedB] at h;omega
theorem clkE_len {i:Nat}{ds:List Dd}{out:List Ev}(hok:∀j,j<ds.length→okD (ds.getD j zD)=true):∀k:Nat,k≤ds.length→((clkE i ds out k).1.length:Int)=out.length+evK ds k
 | 0,_=>by simp[clkE,evK]
 |k+1,h=>by
  have ih:=clkE_len (i:=i) (out:=out) hok k (by omega);have hk:=okD_kindE (hok k (by omega));rw[clkE,stepE,evK];split
  ·
   rename_i h4;rw[ih];unfold evD;rw[h4];simp
  ·
   have:=oneE_len i k (ds.getD k zD) (clsE (ds.getD k zD).2.2.2 (clkE i ds out k).1.length (clkE i ds out k).2) hk;rw[List.length_append];omega
theorem evsW_len {dss:List (List Dd)}(hok:∀i,i<dss.length→okL (dss.getD i [])=true):∀n:Nat,n≤dss.length→((evsW dss n).length:Int)=3+evW dss n
 | 0,_=>by simp[evsW,evBeg,evW]
 |n+1,h=>by
  have ih:=evsW_len hok n (by omega);have hn:=hok n (by omega);simp only[okL,Bool.and_eq_true,decide_eq_true_eq] at hn;rw[evsW,clkE_len (fun j hj=>all_get zD hn.1 j hj) _ (Nat.le_refl _),ih,evW];omega
def GoodE (dss:List (List Dd))(out:List Ev)(j:Nat):Prop:=
 ∃(i k c:Nat) (rd:Bool) (vl:Int),out[j]? = some ((i:Int),(k:Int),rd,((dss.getD i []).getD k zD).2.1,vl,(c:Int))∧i<dss.length∧k<(dss.getD i []).length ∧
  (rd=true→vl=0)∧(rd=false→vl=((dss.getD i []).getD k zD).2.2.1)∧c≤j ∧
  ∃(k':Nat) (rd':Bool) (pl' vl':Int),out[c]? = some ((i:Int),(k':Int),rd',pl',vl',(c:Int))∧k'<(dss.getD i []).length ∧
   (c≠j→((dss.getD i []).getD k zD).1≠3→((dss.getD i []).getD k zD).2.2.2≠0∧((dss.getD i []).getD k' zD).2.2.2=((dss.getD i []).getD k zD).2.2.2)
theorem at_left {α:Type}{l:List α}{j:Nat}{x:α}(t:List α)(h:l[j]? = some x):(l++t)[j]? = some x:=by
 rw[List.getElem?_append_left (List.getElem?_eq_some_iff.1 h).1];exact h
theorem GoodE.more {dss:List (List Dd)}{out:List Ev}{j:Nat}(h:GoodE dss out j)(t:List Ev):GoodE dss (out++t) j:=by
 obtain⟨i,k,c,rd,vl,h1,h2,h3,h4,h5,h6,k',rd',pl',vl',g1,g2,g3⟩:=h;exact⟨i,k,c,rd,vl,at_left t h1,h2,h3,h4,h5,h6,k',rd',pl',vl',at_left t g1,g2,g3⟩
def FstOk (dss:List (List Dd))(i:Nat)(out:List Ev)(f:List Int):Prop:=
 f.length=10∧∀g:Nat,0<g→g<10→f.getD g 0=0∨∃(c k':Nat) (rd':Bool) (pl' vl':Int),f.getD g 0=(c:Int)∧out[c]? = some ((i:Int),(k':Int),rd',pl',vl',(c:Int))∧k'<(dss.getD i []).length∧((dss.getD i []).getD k' zD).2.2.2=(g:Int)
theorem getD_setE (o:List Int)(g:Nat)(x:Int)(j:Nat)(hg:g<o.length):(o.set g x).getD j 0=if g=j then x else o.getD j 0:=by
 rw[List.getD_eq_getElem?_getD,List.getElem?_set];by_cases e:g=j
 · subst e;rw[if_pos rfl,if_pos hg,if_pos rfl];rfl
 · rw[if_neg e,if_neg e,List.getD_eq_getElem?_getD]
theorem oneE_first (i k:Nat)(d:Dd)(c:Int)(h4:d.1≠4):∃rd vl,(oneE i k d c)[0]? = some ((i:Int),(k:Int),rd,d.2.1,vl,c)∧(rd=true→vl=0)∧(rd=false→vl=d.2.2.1):=by
 unfold oneE;rw[if_neg h4];split
 · exact⟨true,0,rfl,by simp,by simp⟩
 ·
  split
  · exact⟨false,d.2.2.1,rfl,by simp,by simp⟩
  · exact⟨true,0,rfl,by simp,by simp⟩
theorem step_good {dss:List (List Dd)}{i k:Nat}{out:List Ev}{f:List Int}(hi:i<dss.length)(hk:k<(dss.getD i []).length)(hok:okD ((dss.getD i []).getD k zD)=true)
  (hG:∀j,3≤j→j<out.length→GoodE dss out j) (hF:FstOk dss i out f):
  (∀j,3≤j→j<(stepE i k ((dss.getD i []).getD k zD) (out,f)).1.length→GoodE dss (stepE i k ((dss.getD i []).getD k zD) (out,f)).1 j)∧FstOk dss i (stepE i k ((dss.getD i []).getD k zD) (out,f)).1 (stepE i k ((dss.getD i []).getD k zD) (out,f)).2:=by
 obtain⟨d,hd⟩:∃d,d=(dss.getD i []).getD k zD:=⟨_,rfl⟩;rw[←hd] at hok ⊢;by_cases h4:d.1=4
 · rw[stepE,if_pos h4];exact⟨hG,hF⟩
 rw[stepE,if_neg h4];dsimp only;obtain⟨r0,r1,r2,r3,r4⟩:=okD_restE hok;obtain⟨g,hg⟩:=Int.eq_ofNat_of_zero_le r2;obtain⟨hl,hf⟩:=hF
 have hcls:∃(c k':Nat) (rd':Bool) (pl' vl':Int),clsE d.2.2.2 out.length f=(c:Int)∧c≤out.length∧(out++oneE i k d (clsE d.2.2.2 out.length f))[c]? = some ((i:Int),(k':Int),rd',pl',vl',(c:Int))∧k'<(dss.getD i []).length ∧
   (c≠out.length→d.2.2.2≠0∧((dss.getD i []).getD k' zD).2.2.2=d.2.2.2)∧(c=out.length→k'=k):=by
  obtain⟨rd,vl,ho,_,_⟩:=oneE_first i k d (clsE d.2.2.2 out.length f) h4
  have new:clsE d.2.2.2 out.length f=(out.length:Int)→(out++oneE i k d (clsE d.2.2.2 out.length f))[out.length]? = some ((i:Int),(k:Int),rd,d.2.1,vl,((out.length:Nat):Int)):=fun e=>by
   rw[List.getElem?_append_right (Nat.le_refl _),Nat.sub_self,ho,e]
  by_cases hg0:g=0
  ·
   have e:clsE d.2.2.2 out.length f=(out.length:Int):=by unfold clsE;rw[hg,if_neg (by omega)]
   exact⟨out.length,k,rd,d.2.1,vl,e,Nat.le_refl _,new e,hk,fun h=>absurd rfl h,fun _=>rfl⟩
  ·
   have gp:(0:Int)<d.2.2.2:=by rw[hg];omega
   have g10:g<10:=by rw[hg] at r3;omega
   rcases hf g (by omega) g10 with h0|⟨c,k',rd',pl',vl',e1,e2,e3,e4⟩
   ·
    have e:clsE d.2.2.2 out.length f=(out.length:Int):=by
     unfold clsE fstE;rw[if_pos gp,hg,Int.toNat_natCast,if_pos ⟨by omega,h0⟩,getD_setE f g _ g (by omega),if_pos rfl]
    exact⟨out.length,k,rd,d.2.1,vl,e,Nat.le_refl _,new e,hk,fun h=>absurd rfl h,fun _=>rfl⟩
   ·
    have cl:c<out.length:=(List.getElem?_eq_some_iff.1 e2).1;by_cases hc0:(c:Int)=0
    ·
     have e:clsE d.2.2.2 out.length f=(out.length:Int):=by
      unfold clsE fstE;rw[if_pos gp,hg,Int.toNat_natCast,if_pos ⟨by omega,by rw[e1];exact hc0⟩,getD_setE f g _ g (by omega),if_pos rfl]
     exact⟨out.length,k,rd,d.2.1,vl,e,Nat.le_refl _,new e,hk,fun h=>absurd rfl h,fun _=>rfl⟩
    ·
     have e:clsE d.2.2.2 out.length f=(c:Int):=by
      unfold clsE fstE;rw[if_pos gp,hg,Int.toNat_natCast,if_neg (by rw[e1];omega),e1]
     exact⟨c,k',rd',pl',vl',e,by omega,at_left _ e2,e3,fun _=>⟨by omega,by rw[e4,hg]⟩,fun h=>by omega⟩
 obtain⟨c,k',rd',pl',vl',hc,hcl,hce,hk',hcg,hcn⟩:=hcls;rw[hc] at hce ⊢;refine⟨fun j hj3 hj=>?_,?_⟩
 ·
  by_cases hold:j<out.length
  · exact (hG j hj3 hold).more _
  ·
   have e1:(out++oneE i k d (c:Int))[j]? = (oneE i k d (c:Int))[j-out.length]?:=List.getElem?_append_right (by omega);have hjl:j-out.length<(oneE i k d (c:Int)).length:=by rw[List.length_append] at hj;omega
   have form:∃rd vl,(oneE i k d (c:Int))[j-out.length]? = some ((i:Int),(k:Int),rd,d.2.1,vl,(c:Int))∧(rd=true→vl=0)∧(rd=false→vl=d.2.2.1)∧(j≠out.length→d.1=3):=by
    by_cases hz:j-out.length=0
    ·
     obtain⟨rd,vl,ho,h5,h6⟩:=oneE_first i k d (c:Int) h4;exact⟨rd,vl,by rw[hz];exact ho,h5,h6,fun h=>by omega⟩
    ·
     unfold oneE at hjl ⊢;rw[if_neg h4] at hjl ⊢;split at hjl
     ·
      rename_i h3;rw[if_pos h3];have:j-out.length=1:=by simp at hjl;omega
      rw[this];exact⟨false,d.2.2.1,rfl,by simp,by simp,fun _=>h3⟩
     ·
      split at hjl
      · simp at hjl;omega
      · simp at hjl;omega
   obtain⟨rd,vl,h1,h5,h6,h7⟩:=form;refine⟨i,k,c,rd,vl,by rw[e1,←hd];exact h1,hi,hk,h5,by rw[←hd];exact h6,by omega,k',rd',pl',vl',hce,hk',fun hcj h3=>?_⟩;rw[←hd] at h3 ⊢
   have:j=out.length:=by
    apply Classical.byContradiction;intro hne;exact h3 (h7 hne)
   exact hcg (by omega)
 ·
  refine⟨by unfold fstE;split<;>simp[hl],fun q hq0 hq=>?_⟩
  have keepOld:f.getD q 0=0∨∃(c' k'':Nat) (rd'':Bool) (pl'' vl'':Int),f.getD q 0=(c':Int)∧(out++oneE i k d (c:Int))[c']? = some ((i:Int),(k'':Int),rd'',pl'',vl'',(c':Int))∧k''<(dss.getD i []).length∧((dss.getD i []).getD k'' zD).2.2.2=(q:Int):=by
   rcases hf q hq0 hq with h0|⟨c',k'',rd'',pl'',vl'',e1,e2,e3,e4⟩
   · exact .inl h0
   · exact .inr ⟨c',k'',rd'',pl'',vl'',e1,at_left _ e2,e3,e4⟩
  unfold fstE;split
  ·
   rename_i hcond;rw[hg,Int.toNat_natCast] at hcond ⊢;rw[getD_setE f g _ q (by rw[hg] at r3;omega)];by_cases e:g=q
   ·
    subst e;rw[if_pos rfl];right
    have ec:c=out.length:=by
     have:clsE d.2.2.2 out.length f=(out.length:Int):=by
      unfold clsE fstE;rw[if_pos (by rw[hg];exact hcond.1),hg,Int.toNat_natCast,if_pos hcond,getD_setE f g _ g (by rw[hg] at r3;omega),if_pos rfl]
     omega
    have ek:=hcn ec;subst ek;refine⟨out.length,k',rd',pl',vl',rfl,?_,hk',by rw[←hd,hg]⟩;rw[ec] at hce;rw[ec];exact hce
   · rw[if_neg e];exact keepOld
  · exact keepOld
theorem clk_good {dss:List (List Dd)}{i:Nat}{out:List Ev}(hi:i<dss.length)(hok:∀j,j<(dss.getD i []).length→okD ((dss.getD i []).getD j zD)=true)(hG:∀j,3≤j→j<out.length→GoodE dss out j):
  ∀k:Nat,k≤(dss.getD i []).length→(∃t,(clkE i (dss.getD i []) out k).1=out++t)∧(∀j,3≤j→j<(clkE i (dss.getD i []) out k).1.length→GoodE dss (clkE i (dss.getD i []) out k).1 j)∧FstOk dss i (clkE i (dss.getD i []) out k).1 (clkE i (dss.getD i []) out k).2
 | 0,_=>⟨⟨[],by simp[clkE]⟩,hG,by simp[clkE],fun g _ hg => .inl (by simp only[clkE];rw[List.getD_eq_getElem?_getD,List.getElem?_replicate,if_pos hg];rfl)⟩
 |k+1,h=>by
  obtain⟨⟨t,ht⟩,h2,h3⟩:=clk_good hi hok hG k (by omega);have:=step_good (k:=k) hi (by omega) (hok k (by omega)) h2 h3;refine⟨?_,this⟩;rw[clkE,stepE];split
  · exact⟨t,ht⟩
  · exact⟨t++oneE i k ((dss.getD i []).getD k zD) (clsE ((dss.getD i []).getD k zD).2.2.2 (clkE i (dss.getD i []) out k).1.length (clkE i (dss.getD i []) out k).2),by simp only;rw[ht,List.append_assoc]⟩
theorem evs_good {dss:List (List Dd)}(hok:∀i,i<dss.length→okL (dss.getD i [])=true):∀n:Nat,n≤dss.length→(∃t,evsW dss n=evBeg++t)∧∀j,3≤j→j<(evsW dss n).length→GoodE dss (evsW dss n) j
 | 0,_=>⟨⟨[],by simp[evsW]⟩,fun j h1 h2=>by simp[evsW,evBeg] at h2;omega⟩
 |n+1,h=>by
  obtain⟨⟨t,ht⟩,h2⟩:=evs_good hok n (by omega);have hn:=hok n (by omega);simp only[okL,Bool.and_eq_true,decide_eq_true_eq] at hn;obtain⟨⟨t2,ht2⟩,h3,_⟩:=clk_good (i:=n) (out:=evsW dss n) (by omega) (fun j hj=>all_get zD hn.1 j hj) h2 (dss.getD n []).length (Nat.le_refl _);rw[evsW];exact⟨⟨t++t2,by rw[ht2,ht,List.append_assoc]⟩,h3⟩
def rdE (e:Ev):Bool:=e.2.2.1
def toE (p:Int)(e:Ev):Bool:=!e.2.2.1&&(e.2.2.2.1==p)
def idxK (f:Ev→Bool)(l:List Ev):Nat→List Int
 | 0=>[]
 |k+1=>if f (l.getD k zE)=true then idxK f l k++[(k:Int)] else idxK f l k
def idxB (f:Ev→Bool)(l:List Ev):List Int:=if l.length≤12 then idxK f l l.length else []
def clsB (l:List Ev):List Int:=if l.length≤12 then l.map csE else []
theorem idxK_len (f:Ev→Bool)(l:List Ev):∀k:Nat,(idxK f l k).length≤k
 | 0=>by simp[idxK]
 |k+1=>by
  have ih:=idxK_len f l k;rw[idxK];split
  · simp;omega
  · omega
theorem idxK_lt (f:Ev→Bool)(l:List Ev):∀(k:Nat) (x:Int),x∈idxK f l k→0≤x∧x<(k:Int)
 | 0,x,h=>by simp[idxK] at h
 |k+1,x,h=>by
  rw[idxK] at h;split at h
  ·
   rcases List.mem_append.1 h with h|h
   · have:=idxK_lt f l k x h;omega
   · simp at h;omega
  · have:=idxK_lt f l k x h;omega
theorem idxK_rises (f:Ev→Bool)(l:List Ev):∀k:Nat,(idxK f l k).Pairwise (·<·)
 | 0=>by simp[idxK]
 |k+1=>by
  have ih:=idxK_rises f l k;rw[idxK];split
  ·
   rw[List.pairwise_append];refine⟨ih,by simp,fun a ha b hb=>?_⟩;simp at hb;have:=idxK_lt f l k a ha;omega
  · exact ih
theorem idxK_pre (f:Ev→Bool)(l:List Ev)(k:Nat):∀n:Nat,k≤n→∃t,idxK f l n=idxK f l k++t
 | 0,h=>by
  obtain rfl:k=0:=by omega
  exact⟨[],by simp⟩
 |n+1,h=>by
  by_cases e:k=n+1
  · subst e;exact⟨[],by simp⟩
  ·
   obtain⟨t,ht⟩:=idxK_pre f l k n (by omega);rw[idxK];split
   · exact⟨t++[(n:Int)],by rw[ht,List.append_assoc]⟩
   · exact⟨t,ht⟩
theorem idx_sum {l:List Ev}:∀k:Nat,(∀j,j<k→0≤(l.getD j zE).2.2.2.1∧(l.getD j zE).2.2.2.1≤2)→(idxK rdE l k).length+(idxK (toE 0) l k).length+(idxK (toE 1) l k).length+(idxK (toE 2) l k).length=k
 | 0,_=>by simp[idxK]
 |k+1,h=>by
  have ih:=idx_sum (l:=l) k (fun j hj=>h j (by omega));have hp:=h k (by omega);obtain⟨e,he⟩:∃e,e=l.getD k zE:=⟨_,rfl⟩;rw[←he] at hp;simp only[idxK,←he];clear he;obtain⟨a,b,r,p,v,c⟩:=e;simp only at hp;cases r
  ·
   have hr:rdE (a,b,false,p,v,c)=false:=rfl;have:p=0∨p=1∨p=2:=by omega
   rcases this with rfl|rfl|rfl
   ·
    have t0:toE 0 (a,b,false,0,v,c)=true:=rfl;have t1:toE 1 (a,b,false,0,v,c)=false:=rfl;have t2:toE 2 (a,b,false,0,v,c)=false:=rfl;simp only[hr,t0,t1,t2,if_true,Bool.false_eq_true,if_false,List.length_append,List.length_cons,List.length_nil];omega
   ·
    have t0:toE 0 (a,b,false,1,v,c)=false:=rfl;have t1:toE 1 (a,b,false,1,v,c)=true:=rfl;have t2:toE 2 (a,b,false,1,v,c)=false:=rfl;simp only[hr,t0,t1,t2,if_true,Bool.false_eq_true,if_false,List.length_append,List.length_cons,List.length_nil];omega
   ·
    have t0:toE 0 (a,b,false,2,v,c)=false:=rfl;have t1:toE 1 (a,b,false,2,v,c)=false:=rfl;have t2:toE 2 (a,b,false,2,v,c)=true:=rfl;simp only[hr,t0,t1,t2,if_true,Bool.false_eq_true,if_false,List.length_append,List.length_cons,List.length_nil];omega
  ·
   have hr:rdE (a,b,true,p,v,c)=true:=rfl;have t:∀q,toE q (a,b,true,p,v,c)=false:=fun _=>rfl
   simp only[hr,t,if_true,Bool.false_eq_true,if_false,List.length_append,List.length_cons,List.length_nil];omega
theorem beg_get {l t:List Ev}(h:l=evBeg++t):l.getD 0 zE=(-1,-1,false,0,0,0)∧l.getD 1 zE=(-1,-1,false,1,0,1)∧l.getD 2 zE=(-1,-1,false,2,0,2):=by
 subst h;exact⟨rfl,rfl,rfl⟩
theorem idx_first {l t:List Ev}(h:l=evBeg++t)(p:Nat)(hp:p<3):∃r,idxK (toE (p:Int)) l l.length=(p:Int)::r:=by
 obtain⟨h0,h1,h2⟩:=beg_get h;have hl:3≤l.length:=by rw[h];simp[evBeg]
 obtain⟨r,hr⟩:=idxK_pre (toE (p:Int)) l 3 l.length hl
 have e:∃q,idxK (toE (p:Int)) l 3=(p:Int)::q:=by
  have:p=0∨p=1∨p=2:=by omega
  simp only[idxK,h0,h1,h2,toE];rcases this with rfl|rfl|rfl
  · exact⟨[],by simp⟩
  · exact⟨[],by simp⟩
  · exact⟨[],by simp⟩
 obtain⟨q,hq⟩:=e;exact⟨q++r,by rw[hr,hq];rfl⟩
theorem good_place {dss:List (List Dd)}{out:List Ev}{j:Nat}(hok:∀i,i<dss.length→okL (dss.getD i [])=true)(h:GoodE dss out j):0≤(out.getD j zE).2.2.2.1∧(out.getD j zE).2.2.2.1≤2:=by
 obtain⟨i,k,c,rd,vl,h1,h2,h3,_⟩:=h;have hi:=hok i h2;simp only[okL,Bool.and_eq_true,decide_eq_true_eq] at hi;have:=okD_restE (all_get zD hi.1 k h3);rw[List.getD_eq_getElem?_getD,h1];exact⟨this.1,this.2.1⟩
theorem events_law {dss:List (List Dd)}(h:workB dss=true):(evsW dss dss.length).length≤12∧((evsW dss dss.length).length:Int)=3+evW dss dss.length ∧
  (idxK rdE (evsW dss dss.length) (evsW dss dss.length).length).length+(idxK (toE 0) (evsW dss dss.length) (evsW dss dss.length).length).length+(idxK (toE 1) (evsW dss dss.length) (evsW dss dss.length).length).length+(idxK (toE 2) (evsW dss dss.length) (evsW dss dss.length).length).length=(evsW dss dss.length).length ∧
  (∀p:Nat,p<3→∃r,idxK (toE (p:Int)) (evsW dss dss.length) (evsW dss dss.length).length=(p:Int)::r)∧∀j,3≤j→j<(evsW dss dss.length).length→GoodE dss (evsW dss dss.length) j:=by
 simp only[workB,Bool.and_eq_true,decide_eq_true_eq] at h;obtain⟨⟨⟨⟨h1,h2⟩,h3⟩,h4⟩,_⟩:=h;have hok:∀i,i<dss.length→okL (dss.getD i [])=true:=fun i hi=>all_get [] h2 i hi
 have hl:=evsW_len hok dss.length (Nat.le_refl _);obtain⟨⟨t,ht⟩,hg⟩:=evs_good hok dss.length (Nat.le_refl _);refine⟨by omega,hl,idx_sum _ (fun j hj=>?_),fun p hp=>idx_first ht p hp,hg⟩;by_cases hj3:3≤j
 · exact good_place hok (hg j hj3 hj)
 ·
  obtain⟨b0,b1,b2⟩:=beg_get ht;have:j=0∨j=1∨j=2:=by omega
  rcases this with rfl|rfl|rfl
  · rw[b0];decide
  · rw[b1];decide
  · rw[b2];decide
def plE (es:List Ev)(r:Int):Int:=(es.getD r.toNat zE).2.2.2.1
def chcK (es:List Ev)(rs:List Int):Nat→List (List Int)
 | 0=>[]
 |k+1=>chcK es rs k++[idxB (toE (plE es (rs.getD k 0))) es]
def chcL (es:List Ev):List (List Int):=chcK es (idxB rdE es) (idxB rdE es).length
theorem chcK_len (es:List Ev)(rs:List Int):∀k:Nat,(chcK es rs k).length=k
 | 0=>rfl
 |k+1=>by rw[chcK,List.length_append,chcK_len es rs k];rfl
theorem chcK_get (es:List Ev)(rs:List Int):∀(k i:Nat),i<k→(chcK es rs k).getD i []=idxB (toE (plE es (rs.getD i 0))) es
 | 0,i,h=>by omega
 |k+1,i,h=>by
  rw[chcK];by_cases hi:i<k
  · rw[List.getD_eq_getElem?_getD,List.getElem?_append_left (by rw[chcK_len];exact hi),←List.getD_eq_getElem?_getD,chcK_get es rs k i hi]
  ·
   obtain rfl:i=k:=by omega
   rw[List.getD_eq_getElem?_getD,List.getElem?_append_right (by rw[chcK_len];exact Nat.le_refl _),chcK_len];simp
def isB (l:List Int)(n:Int):Bool:=l.any (·==n)
def srcK (c:List (List Int))(from':List Int):Nat→Bool
 | 0=>true
 |k+1=>srcK c from' k&&isB (c.getD k []) (from'.getD k 0)
def srcB (c:List (List Int))(from':List Int):Bool:=decide (c.length=from'.length)&&srcK c from' c.length
def sourceB (dss:List (List Dd))(from':List Int):Bool:=workB dss&&srcB (chcL (eventsB dss)) from'
theorem srcK_false {c:List (List Int)}{f:List Int}{k:Nat}(h:srcK c f k=false):∀n:Nat,k≤n→srcK c f n=false
 | 0,hn=>by
  obtain rfl:k=0:=by omega
  exact h
 |n+1,hn=>by
  by_cases e:k=n+1
  · rw[←e];exact h
  · rw[srcK,srcK_false h n (by omega)];rfl
theorem srcK_iff {c:List (List Int)}{f:List Int}:∀k:Nat,srcK c f k=true↔∀i,i<k→isB (c.getD i []) (f.getD i 0)=true
 | 0=>by simp[srcK]
 |k+1=>by
  rw[srcK,Bool.and_eq_true,srcK_iff k];constructor
  ·
   rintro⟨h1,h2⟩ i hi;by_cases e:i=k
   · subst e;exact h2
   · exact h1 i (by omega)
  ·
   intro h;exact⟨fun i hi=>h i (by omega),h k (by omega)⟩
def cntK (c:List (List Int)):Nat→Int
 | 0=>1
 |k+1=>cntK c k*(c.getD k []).length
def atK (c:List (List Int))(n:Int):Nat→Int×List Int
 | 0=>(n,[])
 |k+1=>
  let s:=atK c n k
  let l:=c.getD (c.length-1-k) []
  (s.1 / l.length,(l.getD (s.1 % l.length).toNat 0)::s.2)
def atL (c:List (List Int))(n:Int):List Int:=(atK c n c.length).2
theorem atK_len (c:List (List Int))(n:Int):∀k:Nat,(atK c n k).2.length=k
 | 0=>rfl
 |k+1=>by simp only[atK,List.length_cons,atK_len c n k]
def fac:Nat→Int
 | 0=>1
 |n+1=>fac n*((n:Int)+1)
theorem fac_pos:∀n:Nat,0<fac n
 | 0=>by decide
 |n+1=>Int.mul_pos (fac_pos n) (by omega)
theorem fac_top {n:Nat}(h:n≤12):fac n≤479001600:=by
 have:∀j:Nat,j≤12→fac j≤479001600:=by decide +kernel
 exact this n h
def ordL:Nat→List Int→Int→List Int
 | 0,_,_=>[]
 |m+1,l,n=>l.getD (n / fac m).toNat 0::ordL m (l.eraseIdx (n / fac m).toNat) (n % fac m)
theorem ordL_len:∀(m:Nat) (l:List Int) (n:Int),(ordL m l n).length=m
 | 0,_,_=>rfl
 |m+1,l,n=>by rw[ordL,List.length_cons,ordL_len m]
theorem ord_next {m:Nat}{n:Int}(h0:0≤n)(h1:n<fac (m+1)):0≤n / fac m∧n / fac m<(m:Int)+1∧0≤n % fac m∧n % fac m<fac m:=by
 have hp:=fac_pos m;refine⟨Int.ediv_nonneg h0 (by omega),?_,Int.emod_nonneg _ (by omega),Int.emod_lt_of_pos _ hp⟩;refine Int.ediv_lt_of_lt_mul hp ?_;rw[fac,Int.mul_comm] at h1;exact h1
theorem erase_len {l:List Int}{k m:Nat}(hl:l.length=m+1)(hk:k<m+1):(l.eraseIdx k).length=m:=by
 rw[List.length_eraseIdx,if_pos (by omega)];omega
theorem erase_perm:∀ {l:List Int} {k:Nat},k<l.length→(l.getD k 0::l.eraseIdx k).Perm l
 | [],k,h=>by simp at h
 |x::r,0,_=>by simp
 |x::r,k+1,h=>by
  have ih:=erase_perm (l:=r) (k:=k) (by simpa using h);rw[List.eraseIdx_cons_succ,List.getD_cons_succ];exact (List.Perm.swap x _ _).trans (List.Perm.cons x ih)
theorem ord_perm:∀ {m:Nat} {l:List Int} {n:Int},l.length=m→0≤n→n<fac m→(ordL m l n).Perm l
 | 0,l,n,hl,_,_=>by
  have:l=[]:=List.eq_nil_of_length_eq_zero hl;subst this;exact List.Perm.refl _
 |m+1,l,n,hl,h0,h1=>by
  obtain⟨k0,k1,n0,n1⟩:=ord_next h0 h1;have hk:(n / fac m).toNat<m+1:=by omega
  rw[ordL];exact (List.Perm.cons _ (ord_perm (erase_len hl hk) n0 n1)).trans (erase_perm (by omega))
theorem nodup_get {l:List Int}(hn:l.Nodup){p q:Nat}(hp:p<l.length)(hq:q<l.length)(e:l.getD p 0=l.getD q 0):p=q:=by
 rw[List.getD_eq_getElem?_getD,List.getElem?_eq_getElem hp,List.getD_eq_getElem?_getD,List.getElem?_eq_getElem hq] at e;exact (List.getElem_inj hn).1 e
theorem erase_nodup {l:List Int}(hn:l.Nodup)(k:Nat):(l.eraseIdx k).Nodup:=hn.sublist (List.eraseIdx_sublist l k)
theorem ord_inj:∀ {m:Nat} {l:List Int} {n n':Int},l.length=m→l.Nodup→0≤n→n<fac m→0≤n'→n'<fac m→ordL m l n=ordL m l n'→n=n'
 | 0,l,n,n',_,_,h0,h1,g0,g1,_=>by simp only[fac] at h1 g1;omega
 |m+1,l,n,n',hl,hn,h0,h1,g0,g1,e=>by
  obtain⟨k0,k1,n0,n1⟩:=ord_next h0 h1;obtain⟨j0,j1,m0,m1⟩:=ord_next g0 g1;rw[ordL,ordL,List.cons.injEq] at e;have ek:=nodup_get hn (p:=(n / fac m).toNat) (q:=(n' / fac m).toNat) (by omega) (by omega) e.1;have e2:=e.2;rw[←ek] at e2;have ih:=ord_inj (erase_len hl (by omega)) (erase_nodup hn _) n0 n1 m0 m1 e2;have q:n / fac m=n' / fac m:=by omega
  have a:=Int.mul_ediv_add_emod n (fac m);have b:=Int.mul_ediv_add_emod n' (fac m);rw[q,ih] at a;omega
def partL (l:List Int)(n:Int):List Int:=l.getD 0 0::ordL (l.length-1) (l.drop 1) n
theorem part_len {l:List Int}(h:0<l.length)(n:Int):(partL l n).length=l.length:=by rw[partL,List.length_cons,ordL_len];omega
theorem part_perm {l:List Int}{n:Int}(h:0<l.length)(h0:0≤n)(h1:n<fac (l.length-1)):(partL l n).Perm l:=by
 match l,h with
 |x::r,_=>
  rw[partL];simp only[List.length_cons,Nat.add_sub_cancel,List.drop_succ_cons,List.drop_zero,List.getD_cons_zero] at h1 ⊢;exact List.Perm.cons x (ord_perm rfl h0 h1)
theorem part_inj {l:List Int}{n n':Int}(hn:l.Nodup)(h0:0≤n)(h1:n<fac (l.length-1))(g0:0≤n')(g1:n'<fac (l.length-1))(e:partL l n=partL l n'):n=n':=by
 rw[partL,partL,List.cons.injEq] at e;refine ord_inj ?_ (hn.sublist (List.drop_sublist 1 l)) h0 h1 g0 g1 e.2;rw[List.length_drop]
def plcW (es:List Ev)(p:Nat):List Int:=idxB (toE (p:Int)) es
def rcntL (es:List Ev):Int:=fac ((plcW es 0).length-1)*fac ((plcW es 1).length-1)*fac ((plcW es 2).length-1)
def ratL (es:List Ev)(n:Int):List Int:=
 partL (plcW es 0) (n / fac ((plcW es 2).length-1) / fac ((plcW es 1).length-1) % fac ((plcW es 0).length-1))++partL (plcW es 1) (n / fac ((plcW es 2).length-1) % fac ((plcW es 1).length-1))++partL (plcW es 2) (n % fac ((plcW es 2).length-1))
def okP (rows:List Int)(at0:Nat)(p:List Int)(i:Nat):Bool:=decide (at0+p.length≤rows.length)&&(rows.getD at0 0==(i:Int))&&p.all (fun x=>isB ((rows.drop at0).take p.length) x)
def rowsL (es:List Ev)(rows:List Int):Bool:=
 okP rows 0 (plcW es 0) 0&&okP rows (plcW es 0).length (plcW es 1) 1&&okP rows ((plcW es 0).length+(plcW es 1).length) (plcW es 2) 2&&decide ((plcW es 0).length+(plcW es 1).length+(plcW es 2).length=rows.length)
def rowsB (dss:List (List Dd))(rows:List Int):Bool:=workB dss&&rowsL (eventsB dss) rows
def rcntB (dss:List (List Dd)):Int:=if workB dss=true then rcntL (eventsB dss) else -1
def ratB (dss:List (List Dd))(n:Int):List Int:=if 0≤n∧n<rcntB dss then ratL (eventsB dss) n else []
theorem cnt_bound {c:List (List Int)}(hb:∀i,i<c.length→(c.getD i []).length≤12):∀k:Nat,k≤c.length→0≤cntK c k∧cntK c k≤12 ^ k
 | 0,_=>by simp[cntK]
 |k+1,h=>by
  obtain⟨h1,h2⟩:=cnt_bound hb k (by omega);have h3:=hb k (by omega);rw[cntK];refine⟨Int.mul_nonneg h1 (Int.natCast_nonneg _),?_⟩;rw[Int.pow_succ];exact Int.mul_le_mul h2 (by omega) (Int.natCast_nonneg _) (Int.le_trans h1 h2)
theorem pow_top {k:Nat}(h:k≤12):(12:Int) ^ k≤8916100448256:=by
 have:∀j:Nat,j≤12→(12:Int) ^ j≤8916100448256:=by decide +kernel
 exact this k h
theorem cnt_top {c:List (List Int)}(hl:c.length≤12)(hb:∀i,i<c.length→(c.getD i []).length≤12)(k:Nat)(hk:k≤c.length):0≤cntK c k∧cntK c k≤8916100448256:=by
 have h1:=cnt_bound hb k hk;exact⟨h1.1,Int.le_trans h1.2 (pow_top (by omega))⟩
def atF (c:List (List Int))(n:Int)(k:Nat):List Int:=List.replicate (c.length-k) 0++(atK c n k).2
theorem atF_len (c:List (List Int))(n:Int)(k:Nat)(h:k≤c.length):(atF c n k).length=c.length:=by
 unfold atF;rw[List.length_append,List.length_replicate,atK_len];omega
theorem set_rep (m:Nat)(x:Int)(s:List Int):(List.replicate (m+1) 0++s).set m x=List.replicate m 0++x::s:=by
 rw[List.replicate_succ',List.append_assoc,List.set_append_right _ _ (by simp)];simp
theorem atF_step (c:List (List Int))(n:Int)(k:Nat)(h:k<c.length):
  atF c n (k+1)=(atF c n k).set (c.length-1-k) ((c.getD (c.length-1-k) []).getD (((atK c n k).1 % (c.getD (c.length-1-k) []).length).toNat) 0):=by
 unfold atF;rw[show c.length-k=(c.length-1-k)+1 by omega,set_rep,show c.length-(k+1)=c.length-1-k by omega];rfl
theorem atF_all (c:List (List Int))(n:Int):atF c n c.length=atL c n:=by
 unfold atF atL;rw[Nat.sub_self];rfl
def cntB (dss:List (List Dd)):Int:=if workB dss=true then cntK (chcL (eventsB dss)) (chcL (eventsB dss)).length else -1
def atB (dss:List (List Dd))(n:Int):List Int:=if 0≤n∧n<cntB dss then atL (chcL (eventsB dss)) n else []
theorem atL_len (c:List (List Int))(n:Int):(atL c n).length=c.length:=atK_len c n c.length
def sufP (c:List (List Int)):Nat→Int
 | 0=>1
 |k+1=>sufP c k*(c.getD (c.length-1-k) []).length
theorem suf_cnt (c:List (List Int)):∀k:Nat,k≤c.length→cntK c (c.length-k)*sufP c k=cntK c c.length
 | 0,_=>by simp[sufP]
 |k+1,h=>by
  have ih:=suf_cnt c k (by omega);have e:c.length-k=(c.length-(k+1))+1:=by omega
  have e2:c.length-1-k=c.length-(k+1):=by omega
  rw[←ih,e,cntK,sufP,e2,Int.mul_comm (sufP c k),←Int.mul_assoc]
theorem suf_all (c:List (List Int)):sufP c c.length=cntK c c.length:=by
 have:=suf_cnt c c.length (Nat.le_refl _);rw[Nat.sub_self,cntK,Int.one_mul] at this;exact this
def Full (c:List (List Int)):Prop:=∀i,i<c.length→0<(c.getD i []).length
theorem at_nonneg {c:List (List Int)}{n:Int}(h0:0≤n):∀k:Nat,0≤(atK c n k).1
 | 0=>h0
 |k+1=>by
  have ih:=at_nonneg (c:=c) h0 k;simp only[atK];exact Int.ediv_nonneg ih (Int.natCast_nonneg _)
theorem at_bound {c:List (List Int)}(hf:Full c){n:Int}:∀(k:Nat) (M:Int),k≤c.length→n<sufP c k*M→(atK c n k).1<M
 | 0,M,_,h=>by simpa [sufP,atK] using h
 |k+1,M,hk,h=>by
  have hl:(0:Int)<(c.getD (c.length-1-k) []).length:=by have:=hf (c.length-1-k) (by omega);omega
  rw[sufP,Int.mul_assoc] at h;have ih:=at_bound hf k _ (by omega) h;simp only[atK];refine Int.ediv_lt_of_lt_mul hl ?_;rw[Int.mul_comm];exact ih
theorem at_end {c:List (List Int)}(hf:Full c){n:Int}(h0:0≤n)(h1:n<cntK c c.length):(atK c n c.length).1=0:=by
 have a:=at_nonneg (c:=c) h0 c.length;have b:=at_bound hf (n:=n) c.length 1 (Nat.le_refl _) (by rw[suf_all,Int.mul_one];exact h1);omega
theorem nodup_at {l:List Int}(hn:l.Nodup){p q:Nat}(hp:p<l.length)(hq:q<l.length)(e:l.getD p 0=l.getD q 0):p=q:=by
 rw[List.getD_eq_getElem?_getD,List.getElem?_eq_getElem hp,List.getD_eq_getElem?_getD,List.getElem?_eq_getElem hq] at e;exact (List.getElem_inj hn).1 e
theorem at_same {c:List (List Int)}(hf:Full c)(hn:∀i,i<c.length→(c.getD i []).Nodup){n m:Int}:∀k:Nat,k≤c.length→(atK c n k).2=(atK c m k).2→(atK c n k).1=(atK c m k).1→n=m
 | 0,_,_,h=>h
 |k+1,hk,h2,h1=>by
  simp only[atK] at h1 h2;have hi:c.length-1-k<c.length:=by omega
  have hl:=hf _ hi;have hnn:=hn _ hi;generalize c.getD (c.length-1-k) []=l at h1 h2 hl hnn;have hL:(0:Int)<(l.length:Int):=by omega
  rw[List.cons.injEq] at h2;have a1:=Int.emod_nonneg (atK c n k).1 (show (l.length:Int)≠0 by omega);have a2:=Int.emod_lt_of_pos (atK c n k).1 hL;have b1:=Int.emod_nonneg (atK c m k).1 (show (l.length:Int)≠0 by omega);have b2:=Int.emod_lt_of_pos (atK c m k).1 hL;have e:=nodup_at hnn (by omega) (by omega) h2.1;have e':(atK c n k).1 % (l.length:Int)=(atK c m k).1 % (l.length:Int):=by omega
  refine at_same hf hn k (by omega) h2.2 ?_;have x:=Int.emod_add_mul_ediv (atK c n k).1 (l.length:Int);have y:=Int.emod_add_mul_ediv (atK c m k).1 (l.length:Int);rw[h1,e'] at x;exact x.symm.trans y
theorem at_one' {c:List (List Int)}(hf:Full c)(hn:∀i,i<c.length→(c.getD i []).Nodup){n m:Int}(h0:0≤n)(h1:n<cntK c c.length)(g0:0≤m)(g1:m<cntK c c.length):atL c n=atL c m↔n=m:=
 ⟨fun h=>at_same hf hn c.length (Nat.le_refl _) h (by rw[at_end hf h0 h1,at_end hf g0 g1]),fun h=>by rw[h]⟩
theorem is_get {l:List Int}{p:Nat}(hp:p<l.length):isB l (l.getD p 0)=true:=by
 unfold isB;rw[List.any_eq_true];refine⟨l.getD p 0,?_,by simp⟩;rw[List.getD_eq_getElem?_getD,List.getElem?_eq_getElem hp];exact List.getElem_mem hp
theorem at_each {c:List (List Int)}(hf:Full c){n:Int}:∀(k:Nat),k≤c.length→∀j,j<k→isB (c.getD (c.length-k+j) []) ((atK c n k).2.getD j 0)=true
 | 0,_,j,hj=>by omega
 |k+1,hk,j,hj=>by
  simp only[atK]
  cases j with
  |zero=>
   rw[List.getD_cons_zero,Nat.add_zero,show c.length-(k+1)=c.length-1-k by omega];have hl:=hf (c.length-1-k) (by omega);have a1:=Int.emod_nonneg (atK c n k).1 (show ((c.getD (c.length-1-k) []).length:Int)≠0 by omega);have a2:=Int.emod_lt_of_pos (atK c n k).1 (show (0:Int)<((c.getD (c.length-1-k) []).length:Int) by omega);exact is_get (by omega)
  |succ j=>
   rw[List.getD_cons_succ,show c.length-(k+1)+(j+1)=c.length-k+j by omega];exact at_each hf k (by omega) j (by omega)
theorem at_src {c:List (List Int)}(hf:Full c)(n:Int):srcB c (atL c n)=true:=by
 unfold srcB;rw[Bool.and_eq_true,decide_eq_true_eq];refine⟨(atK_len c n c.length).symm,?_⟩;rw[srcK_iff];intro i hi;have:=at_each hf (n:=n) c.length (Nat.le_refl _) i hi;rw[Nat.sub_self,Nat.zero_add] at this;exact this
theorem place_in {dss:List (List Dd)}(h:workB dss=true)(j:Nat)(hj:j<(evsW dss dss.length).length):0≤((evsW dss dss.length).getD j zE).2.2.2.1∧((evsW dss dss.length).getD j zE).2.2.2.1≤2:=by
 simp only[workB,Bool.and_eq_true,decide_eq_true_eq] at h;obtain⟨⟨⟨⟨_,h2⟩,_⟩,_⟩,_⟩:=h;have hok:∀i,i<dss.length→okL (dss.getD i [])=true:=fun i hi=>all_get [] h2 i hi
 obtain⟨⟨t,ht⟩,hg⟩:=evs_good hok dss.length (Nat.le_refl _);by_cases hj3:3≤j
 · exact good_place hok (hg j hj3 hj)
 ·
  obtain⟨b0,b1,b2⟩:=beg_get ht;have:j=0∨j=1∨j=2:=by omega
  rcases this with rfl|rfl|rfl
  · rw[b0];decide
  · rw[b1];decide
  · rw[b2];decide
theorem chc_full {dss:List (List Dd)}(hw:workB dss=true):Full (chcL (eventsB dss))∧∀i,i<(chcL (eventsB dss)).length→((chcL (eventsB dss)).getD i []).Nodup:=by
 have e1:eventsB dss=evsW dss dss.length:=by rw[eventsB,if_pos hw]
 obtain⟨h12,_,_,h4,hG⟩:=events_law hw;rw[e1];have e3:∀f,idxB f (evsW dss dss.length)=idxK f (evsW dss dss.length) (evsW dss dss.length).length:=fun f=>by unfold idxB;rw[if_pos h12]
 refine⟨fun i hi=>?_,fun i hi=>?_⟩
 ·
  unfold chcL at hi ⊢;rw[chcK_len] at hi;rw[chcK_get _ _ _ _ hi]
  have hp:∃p:Nat,p<3∧plE (evsW dss dss.length) ((idxB rdE (evsW dss dss.length)).getD i 0)=(p:Int):=by
   have hm:(idxB rdE (evsW dss dss.length)).getD i 0∈idxB rdE (evsW dss dss.length):=by
    rw[List.getD_eq_getElem?_getD,List.getElem?_eq_getElem hi];exact List.getElem_mem hi
   have hb:0≤(idxB rdE (evsW dss dss.length)).getD i 0∧(idxB rdE (evsW dss dss.length)).getD i 0<((evsW dss dss.length).length:Int):=by
    refine idxK_lt rdE (evsW dss dss.length) _ _ ?_;rw[e3] at hm ⊢;exact hm
   generalize (idxB rdE (evsW dss dss.length)).getD i 0=r at hb;obtain⟨j,rfl⟩:=Int.eq_ofNat_of_zero_le hb.1;have hj:j<(evsW dss dss.length).length:=by omega
   unfold plE;rw[Int.toNat_natCast];have:=place_in hw j hj;obtain⟨p,hp⟩:=Int.eq_ofNat_of_zero_le this.1;exact⟨p,by omega,hp⟩
  obtain⟨p,hp3,hp⟩:=hp;rw[hp];obtain⟨r,hr⟩:=h4 p hp3;rw[e3,hr];simp
 ·
  unfold chcL at hi ⊢;rw[chcK_len] at hi;rw[chcK_get _ _ _ _ hi,e3];exact (idxK_rises _ _ _).imp (fun h=>by omega)
theorem ret_bool {a b:Bool}(h:a=b):Ending.returned (.bool a) = .returned (.bool b):=by rw[h]
theorem ret_int {k:IntKind}{a b:Int}(h:a=b):Ending.returned (.int k a) = .returned (.int k b):=by rw[h]
theorem ofInt_i64 (a:Nat)(ha:a<9223372036854775808):(BitVec.ofInt 64 (a:Int)).toNat=a:=ofInt_u64 a (by omega)
theorem i64_or_nat (a b:Nat)(ha:a<9223372036854775808)(hb:b<9223372036854775808):bits .or .i64 (a:Int) (b:Int)=((a ||| b:Nat):Int):=by
 have hx:a ||| b<2 ^ 63:=Nat.or_lt_two_pow (by omega) (by omega);show IntKind.i64.wrap ((BitVec.ofInt 64 (a:Int) ||| BitVec.ofInt 64 (b:Int)).toNat:Int)=_;rw[BitVec.toNat_or,ofInt_i64 a ha,ofInt_i64 b hb,IntKind.wrap_i64];omega
theorem i64_and_nat (a b:Nat)(ha:a<9223372036854775808)(hb:b<9223372036854775808):bits .and .i64 (a:Int) (b:Int)=((a &&& b:Nat):Int):=by
 have hx:a &&& b<2 ^ 63:=Nat.and_lt_two_pow _ (by omega);show IntKind.i64.wrap ((BitVec.ofInt 64 (a:Int) &&& BitVec.ofInt 64 (b:Int)).toNat:Int)=_;rw[BitVec.toNat_and,ofInt_i64 a ha,ofInt_i64 b hb,IntKind.wrap_i64];omega
theorem pow_le12 (n:Nat)(h:n≤12):(2:Int) ^ n≤4096∧(1:Int)≤2 ^ n:=by
 have:n=0∨n=1∨n=2∨n=3∨n=4∨n=5∨n=6∨n=7∨n=8∨n=9∨n=10∨n=11∨n=12:=by omega
 rcases this with rfl|rfl|rfl|rfl|rfl|rfl|rfl|rfl|rfl|rfl|rfl|rfl|rfl<;>decide
theorem wrap64_small (x:Int)(h1:-9223372036854775808≤x)(h2:x≤9223372036854775807):wrap64 x=x:=by
 simp only[wrap64];omega
theorem wrap64_pow (n:Int)(h0:0≤n)(h:n≤12):wrap64 (2 ^ n.toNat)=2 ^ n.toNat:=by
 have:=pow_le12 n.toNat (by omega);exact wrap64_small _ (by omega) (by omega)
def inB (x lo hi:Int):Bool:=decide (lo≤x∧x≤hi)
def okB (n s:Int):Bool:=decide ((0≤n∧n≤12)∧0≤s∧s<2 ^ n.toNat)
def bitB (s i:Int):Bool:=bits .and .i64 (s / 2 ^ i.toNat) 1==1
def inSetB (s i:Int):Bool:=inB i 0 11&&inB s 0 4095&&bitB s i
def mem (s:Int):Nat→List Int
 | 0=>[]
 |k+1=>mem s k++(if inSetB s k=true then [(k:Int)] else [])
def gAdd (s i:Int):Int:=if s=-1∨inB i 0 11=false then -1 else bits .or .i64 s (wrap64 (2 ^ i.toNat))
theorem mem_len (s:Int)(k:Nat):(mem s k).length≤k:=by
 induction k with
 |zero=>simp[mem]
 |succ k ih=>unfold mem;split<;>simp<;>omega
theorem gAdd_bad (s i:Int)(h:inB i 0 11=false):gAdd s i=-1:=by simp[gAdd,h]
theorem gAdd_none (i:Int):gAdd (-1) i=-1:=by simp[gAdd]
theorem gAdd_ok (s i:Int)(h0:0≤s)(h:inB i 0 11=true):gAdd s i=bits .or .i64 s (wrap64 (2 ^ i.toNat)):=by
 have:¬s=-1:=by omega
 simp[gAdd,h,this]
theorem take_snoc (l:List Int)(k:Nat)(h:k<l.length):l.take (k+1)=l.take k++[l.getD k 0]:=by
 rw[List.take_succ_eq_append_getElem h,List.getD_eq_getElem?_getD,List.getElem?_eq_getElem h];rfl
theorem bitB_nat (a i:Nat)(ha:a<4096):bitB (a:Int) (i:Int)=a.testBit i:=by
 unfold bitB;have hd:a / 2 ^ i≤a:=Nat.div_le_self _ _;have e:((a:Int) / 2 ^ (i:Int).toNat)=((a / 2 ^ i:Nat):Int):=by simp
 rw[e,show (1:Int)=((1:Nat):Int) from rfl,i64_and_nat _ _ (by omega) (by omega),Nat.and_one_is_mod,Nat.testBit_eq_decide_div_mod_eq];generalize a / 2 ^ i % 2=r;rw[Bool.eq_iff_iff,beq_iff_eq,decide_eq_true_eq];omega
theorem inSetB_nat (a i:Nat)(ha:a<4096)(hi:i<12):inSetB (a:Int) (i:Int)=a.testBit i:=by
 have h1:inB (i:Int) 0 11=true:=by unfold inB;simp;omega
 have h2:inB (a:Int) 0 4095=true:=by unfold inB;simp;omega
 simp[inSetB,h1,h2,bitB_nat a i ha]
theorem gAdd_nat (a i:Nat)(ha:a<4096)(hi:i<12):gAdd (a:Int) (i:Int)=((a ||| 2 ^ i:Nat):Int):=by
 have h1:inB (i:Int) 0 11=true:=by unfold inB;simp;omega
 rw[gAdd_ok _ _ (by omega) h1,wrap64_pow _ (by omega) (by omega)];have hq:(2:Nat) ^ i<2 ^ 12:=Nat.pow_lt_pow_right (by omega) hi;have e:((2:Int) ^ (i:Int).toNat)=((2 ^ i:Nat):Int):=by simp
 rw[e,i64_or_nat a _ (by omega) (by omega)]
theorem or_lt (a i:Nat)(ha:a<4096)(hi:i<12):a ||| 2 ^ i<4096:=by
 have hq:(2:Nat) ^ i<2 ^ 12:=Nat.pow_lt_pow_right (by omega) hi;exact Nat.or_lt_two_pow (n:=12) ha hq
theorem mem_iff (s:Int)(n:Nat)(x:Int):x∈mem s n↔∃k:Nat,k<n∧x=k∧inSetB s k=true:=by
 induction n with
 |zero=>simp[mem]
 |succ n ih=>
  unfold mem;rw[List.mem_append,ih];constructor
  ·
   rintro (⟨k,hk,rfl,h⟩|h)
   · exact⟨k,by omega,rfl,h⟩
   ·
    split at h
    ·
     rename_i hs;simp at h;exact⟨n,by omega,h,hs⟩
    · simp at h
  ·
   rintro⟨k,hk,rfl,h⟩;by_cases hkn:k=n
   · subst hkn;right;simp[h]
   · exact .inl ⟨k,by omega,rfl,h⟩
def webB (zs:List Int):Bool:=zs.all (okB zs.length)
def twoB (a b:List Int):Bool:=decide (a.length=b.length)&&webB a&&webB b
def mixL (f:Int→Int→Int)(a b:List Int):List Int:=if twoB a b=true then List.zipWith f a b else []
def orI (a b:Int):Int:=bits .or .i64 a b
def notI (a b:Int):Int:=bits .andNot .i64 a b
def thenS (x:Int)(b:List Int):Nat→Int
 | 0=>0
 |k+1=>if inSetB x k=true then orI (thenS x b k) (b.getD k 0) else thenS x b k
def thenL (a b:List Int):List Int:=if twoB a b=true then a.map (fun x=>thenS x b 12) else []
def wayIn (k:Nat)(st:List Int):Nat→List Int
 | 0=>st
 |i+1=>if inSetB ((wayIn k st i).getD i 0) k=true then (wayIn k st i).set i (orI ((wayIn k st i).getD i 0) ((wayIn k st i).getD k 0)) else wayIn k st i
def wayAll (zs:List Int):Nat→List Int
 | 0=>zs
 |k+1=>wayIn k (wayAll zs k) zs.length
def waysL (zs:List Int):List Int:=if webB zs=true then wayAll zs zs.length else []
theorem getD_mem {zs:List Int}{i:Nat}(h:i<zs.length):zs.getD i 0∈zs:=by
 rw[List.getD_eq_getElem?_getD,List.getElem?_eq_getElem h];exact List.getElem_mem h
theorem webB_all {zs:List Int}(h:∀i,i<zs.length→okB zs.length (zs.getD i 0)=true):webB zs=true:=by
 unfold webB;rw[List.all_eq_true];intro x hx;obtain⟨i,hi,rfl⟩:=List.getElem_of_mem hx;have:=h i hi
 rwa [List.getD_eq_getElem?_getD,List.getElem?_eq_getElem hi] at this
theorem webB_get {zs:List Int}(h:webB zs=true){i:Nat}(hi:i<zs.length):okB zs.length (zs.getD i 0)=true:=by
 unfold webB at h;rw[List.all_eq_true] at h;exact h _ (getD_mem hi)
theorem webB_bad {zs:List Int}{i:Nat}(hi:i<zs.length)(h:okB zs.length (zs.getD i 0)=false):webB zs=false:=by
 cases hw:webB zs with
 |false=>rfl
 |true=>rw[webB_get hw hi] at h;cases h
theorem okB_iff {n s:Int}:okB n s=true↔(0≤n∧n≤12)∧0≤s∧s<2 ^ n.toNat:=by unfold okB;rw[decide_eq_true_eq]
theorem webB_len {zs:List Int}(h:webB zs=true):zs.length≤12:=by
 by_cases h0:zs.length=0
 · omega
 · have:=okB_iff.1 (webB_get h (i:=0) (by omega));omega
theorem okB_range {n s:Int}(h:okB n s=true):0≤s∧s≤4095:=by
 have h1:=okB_iff.1 h;have:=pow_le12 n.toNat (by omega);omega
theorem twoB_iff {a b:List Int}:twoB a b=true↔a.length=b.length∧webB a=true∧webB b=true:=by
 unfold twoB;rw[Bool.and_eq_true,Bool.and_eq_true,decide_eq_true_eq,and_assoc]
theorem inSetB_bit {s:Int}{k:Nat}(h:0≤s∧s≤4095)(hk:k<12):inSetB s k=bitB s k:=by
 have h1:inB (k:Int) 0 11=true:=by unfold inB;simp;omega
 have h2:inB s 0 4095=true:=by unfold inB;simp;omega
 simp[inSetB,h1,h2]
theorem okB_nat {n:Nat}{s:Int}(h:okB n s=true):n≤12∧∃a:Nat,s=a∧a<2 ^ n∧a<4096:=by
 have h1:=okB_iff.1 h;have h2:=okB_range h;obtain⟨a,rfl⟩:=Int.eq_ofNat_of_zero_le h2.1;refine⟨by omega,a,rfl,?_,by omega⟩;have:=h1.2.2;simp at this
 exact_mod_cast this
theorem okB_of_nat {n a:Nat}(hn:n≤12)(ha:a<2 ^ n):okB n a=true:=by
 rw[okB_iff];refine⟨by omega,by omega,?_⟩;simp
 exact_mod_cast ha
theorem inSetB_iff {n:Nat}{s:Int}(h:okB n s=true){j:Nat}(hj:inSetB s j=true):j<n:=by
 obtain⟨hn,a,rfl,ha,h12⟩:=okB_nat h
 have hj12:j<12:=by
  have:inB (j:Int) 0 11=true:=by unfold inSetB at hj;simp at hj;exact hj.1.1
  unfold inB at this;simp at this;omega
 rw[inSetB_nat a j h12 hj12] at hj;apply Classical.byContradiction;intro hnj;have hp:(2:Nat) ^ n≤2 ^ j:=Nat.pow_le_pow_right (by omega) (by omega);rw[Nat.testBit_lt_two_pow (by omega)] at hj;cases hj
theorem inSetB_far (s:Int){j:Nat}(hj:12≤j):inSetB s j=false:=by
 have:inB (j:Int) 0 11=false:=by unfold inB;simp;omega
 simp[inSetB,this]
theorem ok_ext {n:Nat}{s t:Int}(hs:okB n s=true)(ht:okB n t=true)(h:∀j:Nat,j<n→inSetB s j=inSetB t j):s=t:=by
 obtain⟨hn,a,rfl,ha,ha'⟩:=okB_nat hs;obtain⟨_,b,rfl,hb,hb'⟩:=okB_nat ht
 congr 1
 apply Nat.eq_of_testBit_eq;intro j;by_cases hj:j<n
 ·
  have:=h j hj
  rwa [inSetB_nat a j ha' (by omega),inSetB_nat b j hb' (by omega)] at this
 ·
  have hp:(2:Nat) ^ n≤2 ^ j:=Nat.pow_le_pow_right (by omega) (by omega);rw[Nat.testBit_lt_two_pow (by omega),Nat.testBit_lt_two_pow (by omega)]
theorem ok_zero {n:Nat}(hn:n≤12):okB n 0=true:=okB_of_nat (a:=0) hn (Nat.two_pow_pos n)
theorem zero_bit (j:Nat):inSetB 0 j=false:=by
 by_cases hj:j<12
 · rw[show (0:Int)=((0:Nat):Int) from rfl,inSetB_nat 0 j (by omega) hj,Nat.zero_testBit]
 · exact inSetB_far _ (by omega)
theorem i64_andNot_nat (a b:Nat)(ha:a<9223372036854775808)(hb:b<9223372036854775808):bits .andNot .i64 (a:Int) (b:Int)=((a &&& (18446744073709551615-b):Nat):Int):=by
 have hx:a &&& (18446744073709551615-b)≤a:=Nat.and_le_left;show IntKind.i64.wrap ((BitVec.ofInt 64 (a:Int) &&& ~~~ BitVec.ofInt 64 (b:Int)).toNat:Int)=_;rw[BitVec.toNat_and,BitVec.toNat_not,ofInt_i64 a ha,ofInt_i64 b hb,IntKind.wrap_i64,show (2:Nat) ^ 64-1-b=18446744073709551615-b from rfl];omega
theorem ok_or {n:Nat}{s t:Int}(hs:okB n s=true)(ht:okB n t=true):okB n (orI s t)=true∧∀j:Nat,inSetB (orI s t) j=(inSetB s j||inSetB t j):=by
 obtain⟨hn,a,rfl,ha,ha'⟩:=okB_nat hs;obtain⟨_,b,rfl,hb,hb'⟩:=okB_nat ht;have e:orI (a:Int) (b:Int)=((a ||| b:Nat):Int):=i64_or_nat a b (by omega) (by omega);have hl:a ||| b<2 ^ n:=Nat.or_lt_two_pow ha hb;have hl':a ||| b<4096:=Nat.or_lt_two_pow (n:=12) ha' hb';rw[e];refine⟨okB_of_nat hn hl,fun j=>?_⟩;by_cases hj:j<12
 · rw[inSetB_nat _ j hl' hj,inSetB_nat _ j ha' hj,inSetB_nat _ j hb' hj,Nat.testBit_or]
 · rw[inSetB_far _ (by omega),inSetB_far _ (by omega),inSetB_far _ (by omega)];rfl
theorem ok_not {n:Nat}{s t:Int}(hs:okB n s=true)(ht:okB n t=true):okB n (notI s t)=true∧∀j:Nat,inSetB (notI s t) j=(inSetB s j&&!inSetB t j):=by
 obtain⟨hn,a,rfl,ha,ha'⟩:=okB_nat hs;obtain⟨_,b,rfl,hb,hb'⟩:=okB_nat ht;have e:notI (a:Int) (b:Int)=((a &&& (18446744073709551615-b):Nat):Int):=i64_andNot_nat a b (by omega) (by omega);have hl:a &&& (18446744073709551615-b)≤a:=Nat.and_le_left;rw[e];refine⟨okB_of_nat hn (by omega),fun j=>?_⟩;by_cases hj:j<12
 ·
  have h2:(18446744073709551615-b).testBit j=!b.testBit j:=by
   have e2:18446744073709551615-b=2 ^ 64-(b+1):=by omega
   rw[e2,Nat.testBit_two_pow_sub_succ (by omega)];have:j<64:=by omega
   simp[this]
  rw[inSetB_nat _ j (by omega) hj,inSetB_nat _ j ha' hj,inSetB_nat _ j hb' hj,Nat.testBit_and,h2]
 · rw[inSetB_far _ (by omega),inSetB_far _ (by omega),inSetB_far _ (by omega)];rfl
theorem ok_add {n:Nat}{s:Int}(hs:okB n s=true){i:Nat}(hi:i<n):okB n (gAdd s i)=true∧∀j:Nat,inSetB (gAdd s i) j=(inSetB s j||decide (i=j)):=by
 obtain⟨hn,a,rfl,ha,ha'⟩:=okB_nat hs;rw[gAdd_nat a i ha' (by omega)];have hp:(2:Nat) ^ i<2 ^ n:=Nat.pow_lt_pow_right (by omega) hi;have hl:a ||| 2 ^ i<2 ^ n:=Nat.or_lt_two_pow ha hp;refine⟨okB_of_nat hn hl,fun j=>?_⟩;by_cases hj:j<12
 · rw[inSetB_nat _ j (or_lt a i ha' (by omega)) hj,inSetB_nat _ j ha' hj,Nat.testBit_or,Nat.testBit_two_pow]
 ·
  have:¬i=j:=by omega
  rw[inSetB_far _ (by omega),inSetB_far _ (by omega)];simp[this]
def Web (n:Nat)(zs:List Int):Prop:=n≤12∧zs.length=n∧∀i,i<n→okB n (zs.getD i 0)=true
theorem web_iff {zs:List Int}:webB zs=true↔Web zs.length zs:=by
 constructor
 · intro h;exact⟨webB_len h,rfl,fun i hi=>webB_get h hi⟩
 · intro h;exact webB_all h.2.2
theorem Web.b {n:Nat}{zs:List Int}(h:Web n zs):webB zs=true:=by
 obtain⟨h1,rfl,h2⟩:=h;exact web_iff.2 ⟨h1,rfl,h2⟩
theorem list_ext {n:Nat}{a b:List Int}(ha:a.length=n)(hb:b.length=n)(h:∀i,i<n→a.getD i 0=b.getD i 0):a=b:=by
 apply List.ext_getElem (by omega);intro i h1 h2;have:=h i (by omega);rw[List.getD_eq_getElem?_getD,List.getD_eq_getElem?_getD,List.getElem?_eq_getElem h1,List.getElem?_eq_getElem h2] at this;exact this
def line (zs:List Int)(i j:Nat):Bool:=inSetB (zs.getD i 0) j
theorem Web.ext {n:Nat}{a b:List Int}(ha:Web n a)(hb:Web n b)(h:∀i j,i<n→j<n→line a i j=line b i j):a=b:=
 list_ext ha.2.1 hb.2.1 fun i hi=>ok_ext (ha.2.2 i hi) (hb.2.2 i hi) fun j hj=>h i j hi hj
theorem Web.lt {n:Nat}{a:List Int}(ha:Web n a){i j:Nat}(hi:i<n)(h:line a i j=true):j<n:=inSetB_iff (ha.2.2 i hi) h
theorem getD_set (zs:List Int)(i j:Nat)(x:Int)(hi:i<zs.length):(zs.set i x).getD j 0=if i=j then x else zs.getD j 0:=by
 rw[List.getD_eq_getElem?_getD,List.getD_eq_getElem?_getD,List.getElem?_set];by_cases h:i=j
 · subst h;simp[hi]
 · simp[h]
theorem Web.set {n:Nat}{a:List Int}(ha:Web n a){i:Nat}{x:Int}(hx:okB n x=true):Web n (a.set i x):=by
 obtain⟨h1,h2,h3⟩:=ha;refine⟨h1,by simp[h2],fun j hj=>?_⟩;by_cases hi:i<a.length
 ·
  rw[getD_set a i j x hi];split
  · exact hx
  · exact h3 j hj
 · rw[List.set_eq_of_length_le (by omega)];exact h3 j hj
theorem Web.zero {n:Nat}(hn:n≤12):Web n (List.replicate n 0):=by
 refine⟨hn,by simp,fun i hi=>?_⟩;rw[List.getD_eq_getElem?_getD,List.getElem?_replicate,if_pos hi];exact ok_zero hn
theorem line_zero (n i j:Nat):line (List.replicate n 0) i j=false:=by
 unfold line;rw[List.getD_eq_getElem?_getD,List.getElem?_replicate];split<;>exact zero_bit j
def thenF (b:List Int)(s k:Int):Int:=orI s (b.getD k.toNat 0)
theorem thenS_fold (x:Int)(b:List Int)(k:Nat):(mem x k).foldl (thenF b) 0=thenS x b k:=by
 induction k with
 |zero=>rfl
 |succ k ih=>
  unfold mem thenS;rw[List.foldl_append,ih]
  cases inSetB x k with
  |false=>rfl
  |true=>simp[thenF]
theorem ok_then {n:Nat}{x:Int}{b:List Int}(hx:okB n x=true)(hb:Web n b)(m:Nat):okB n (thenS x b m)=true∧∀j:Nat,inSetB (thenS x b m) j=true↔∃k,k<m∧inSetB x k=true∧line b k j=true:=by
 induction m with
 |zero=>exact⟨ok_zero hb.1,fun j=>by rw[show thenS x b 0=0 from rfl,zero_bit];simp⟩
 |succ m ih=>
  unfold thenS
  cases hm:inSetB x m with
  |false=>
   refine⟨by simpa using ih.1,fun j=>?_⟩;simp only[Bool.false_eq_true,if_false];rw[ih.2 j];constructor
   · rintro⟨k,hk,h1,h2⟩;exact⟨k,by omega,h1,h2⟩
   ·
    rintro⟨k,hk,h1,h2⟩;refine⟨k,?_,h1,h2⟩;have:k≠m:=fun e=>by subst e;rw[hm] at h1;cases h1
    omega
  |true=>
   have hmn:=inSetB_iff hx hm;have ho:=ok_or ih.1 (hb.2.2 m hmn);refine⟨by simpa using ho.1,fun j=>?_⟩;simp only[if_true];rw[ho.2 j,Bool.or_eq_true,ih.2 j];constructor
   ·
    rintro (⟨k,hk,h1,h2⟩|h)
    · exact⟨k,by omega,h1,h2⟩
    · exact⟨m,by omega,hm,h⟩
   ·
    rintro⟨k,hk,h1,h2⟩;by_cases e:k=m
    · subst e;exact .inr h2
    · exact .inl ⟨k,by omega,h1,h2⟩
theorem wayIn_len (k:Nat)(st:List Int)(i:Nat):(wayIn k st i).length=st.length:=by
 induction i with
 |zero=>rfl
 |succ i ih=>unfold wayIn;split<;>simp[ih]
theorem web_wayIn {n k:Nat}{st:List Int}(hk:k<n)(hst:Web n st)(m:Nat)(hm:m≤n):
  Web n (wayIn k st m)∧∀i j:Nat,i<n→line (wayIn k st m) i j=(line st i j||(decide (i<m)&&line st i k&&line st k j)):=by
 induction m with
 |zero=>exact⟨hst,fun i j _=>by simp[wayIn]⟩
 |succ m ih=>
  have ih:=ih (by omega);have hmn:m<n:=by omega
  have hkk:∀j,line (wayIn k st m) k j=line st k j:=by
   intro j;rw[ih.2 k j hk];cases line st k j<;>simp
  have hmk:line (wayIn k st m) m k=line st m k:=by rw[ih.2 m k hmn];simp
  have hmj:∀j,line (wayIn k st m) m j=line st m j:=by intro j;rw[ih.2 m j hmn];simp
  unfold wayIn
  cases hb:inSetB ((wayIn k st m).getD m 0) k with
  |false=>
   have hb':line st m k=false:=by rw[←hmk];exact hb
   refine⟨by simpa using ih.1,fun i j hi=>?_⟩;simp only[Bool.false_eq_true,if_false];rw[ih.2 i j hi];by_cases e:i=m
   · subst e;simp[hb']
   ·
    have:(i<m+1)↔i<m:=by omega
    simp[this]
  |true=>
   have hb':line st m k=true:=by rw[←hmk];exact hb
   have ho:=ok_or (ih.1.2.2 m hmn) (ih.1.2.2 k hk);refine⟨by simpa using ih.1.set ho.1,fun i j hi=>?_⟩;simp only[if_true];have e1:=ih.2 i j hi;have e2:=hkk j;have e3:=hmj j;unfold line at e1 e2 e3 ⊢;rw[getD_set _ _ _ _ (by rw[ih.1.2.1];exact hmn)];by_cases e:m=i
   ·
    subst e;simp only[if_true];rw[ho.2 j,e2,e3];unfold line at hb';rw[hb'];simp
   ·
    have:(i<m+1)↔i<m:=by omega
    simp only[e,if_false];rw[e1];simp[this]
theorem web_wayAll {n:Nat}{zs:List Int}(hz:Web n zs)(m:Nat)(hm:m≤n):Web n (wayAll zs m):=by
 induction m with
 |zero=>exact hz
 |succ m ih=>
  show Web n (wayIn m (wayAll zs m) zs.length);rw[hz.2.1];exact (web_wayIn (by omega) (ih (by omega)) n (Nat.le_refl _)).1
theorem line_wayAll {n:Nat}{zs:List Int}(hz:Web n zs)(m:Nat)(hm:m<n){i:Nat}(hi:i<n)(j:Nat):
  line (wayAll zs (m+1)) i j=(line (wayAll zs m) i j||(line (wayAll zs m) i m&&line (wayAll zs m) m j)):=by
 show line (wayIn m (wayAll zs m) zs.length) i j=_;rw[hz.2.1,(web_wayIn hm (web_wayAll hz m (by omega)) n (Nat.le_refl _)).2 i j hi];simp[hi]
def fwK (n:Nat)(rs f:List Int):Nat→List Int
 | 0=>List.replicate n 0
 |k+1=>(fwK n rs f k).set (f.getD k 0).toNat (gAdd ((fwK n rs f k).getD (f.getD k 0).toNat 0) (rs.getD k 0))
def fwL (es:List Ev)(f:List Int):List Int:=fwK es.length (idxB rdE es) f (idxB rdE es).length
theorem fw_line {n:Nat}{rs f:List Int}(hn:n≤12):∀k:Nat,(∀i,i<k→0≤rs.getD i 0∧rs.getD i 0<(n:Int))→(∀i,i<k→0≤f.getD i 0∧f.getD i 0<(n:Int)) →
  Web n (fwK n rs f k)∧∀a j:Nat,a<n→(line (fwK n rs f k) a j=true↔∃i,i<k∧f.getD i 0=(a:Int)∧rs.getD i 0=(j:Int))
 | 0,_,_=>⟨Web.zero hn,fun a j _=>by rw[fwK,line_zero];simp⟩
 |k+1,hr,hf=>by
  obtain⟨h1,h2⟩:=fw_line hn k (fun i hi=>hr i (by omega)) (fun i hi=>hf i (by omega));obtain⟨a0,ha0⟩:=Int.eq_ofNat_of_zero_le (hf k (by omega)).1;obtain⟨j0,hj0⟩:=Int.eq_ofNat_of_zero_le (hr k (by omega)).1;have ha:a0<n:=by have:=(hf k (by omega)).2;omega
  have hj:j0<n:=by have:=(hr k (by omega)).2;omega
  rw[fwK,ha0,hj0,Int.toNat_natCast];have hg:=ok_add (h1.2.2 a0 ha) hj;refine⟨h1.set hg.1,fun a j haa=>?_⟩;unfold line;rw[getD_set _ _ _ _ (by rw[h1.2.1];exact ha)];by_cases e:a0=a
  ·
   subst e;rw[if_pos rfl,hg.2 j,Bool.or_eq_true,decide_eq_true_eq];have:=h2 a0 j haa;unfold line at this;rw[this];constructor
   ·
    rintro (⟨i,hi,h⟩|rfl)
    · exact⟨i,by omega,h⟩
    · exact⟨k,by omega,ha0,hj0⟩
   ·
    rintro⟨i,hi,h3,h4⟩;by_cases e2:i=k
    · subst e2;right;rw[hj0] at h4;omega
    · exact .inl ⟨i,by omega,h3,h4⟩
  ·
   rw[if_neg e];have:=h2 a j haa;unfold line at this;rw[this];constructor
   ·
    rintro⟨i,hi,h⟩;exact⟨i,by omega,h⟩
   ·
    rintro⟨i,hi,h3,h4⟩;by_cases e2:i=k
    · subst e2;rw[ha0] at h3;omega
    · exact⟨i,by omega,h3,h4⟩
def memN (l:List Int):Nat→Nat
 | 0=>0
 |m+1=>memN l m+(mem (l.getD m 0) 12).length
theorem mem_cnt (s:Int):∀k:Nat,(mem s k).length=(List.range k).countP (fun j:Nat=>inSetB s (j:Int))
 | 0=>rfl
 |k+1=>by
  rw[mem,List.length_append,mem_cnt s k,List.range_succ,List.countP_append]
  congr 1
  cases h:inSetB s (k:Int)<;>simp[h]
theorem cnt_one {p:Nat→Bool}{i:Nat}:∀k:Nat,p i=false→i<k→(List.range k).countP (fun j=>p j||decide (i=j))=(List.range k).countP p+1
 | 0,_,h=>by omega
 |k+1,hp,h=>by
  rw[List.range_succ,List.countP_append,List.countP_append];by_cases e:i=k
  ·
   subst e
   have:(List.range i).countP (fun j=>p j||decide (i=j))=(List.range i).countP p:=by
    refine List.countP_congr (fun j hj=>?_);rw[List.mem_range] at hj;have:decide (i=j)=false:=by simp;omega
    rw[this,Bool.or_false]
   rw[this];simp[hp]
  ·
   rw[cnt_one k hp (by omega)];have:decide (i=k)=false:=by simp[e]
   simp[this];omega
theorem mem_add {n:Nat}{s:Int}(hs:okB n s=true){i:Nat}(hi:i<n)(hn:inSetB s (i:Int)=false)(h12:n≤12):(mem (gAdd s i) 12).length=(mem s 12).length+1:=by
 have hg:=ok_add hs hi;rw[mem_cnt,mem_cnt,←cnt_one (p:=fun j:Nat=>inSetB s (j:Int)) 12 hn (by omega)];refine List.countP_congr (fun j _=>?_);rw[hg.2 j]
theorem memN_zero (n:Nat):∀m:Nat,memN (List.replicate n 0) m=0
 | 0=>rfl
 |m+1=>by
  rw[memN,memN_zero n m,List.getD_eq_getElem?_getD,List.getElem?_replicate];have:(mem 0 12).length=0:=by decide +kernel
  split<;>simpa using this
theorem memN_set {l:List Int}{a:Nat}{x:Int}(ha:a<l.length)(hx:(mem x 12).length=(mem (l.getD a 0) 12).length+1):∀m:Nat,memN (l.set a x) m=memN l m+(if a<m then 1 else 0)
 | 0=>by simp[memN]
 |m+1=>by
  rw[memN,memN,memN_set ha hx m,getD_set l a m x ha];by_cases e:a=m
  · subst e;rw[if_pos rfl,hx,if_neg (by omega),if_pos (by omega)];omega
  ·
   rw[if_neg e];by_cases h:a<m
   · rw[if_pos h,if_pos (by omega)];omega
   · rw[if_neg h,if_neg (by omega)];omega
theorem fw_count {n:Nat}{rs f:List Int}(hn:n≤12)(hd:rs.Nodup):∀k:Nat,k≤rs.length→(∀i,i<k→0≤rs.getD i 0∧rs.getD i 0<(n:Int))→(∀i,i<k→0≤f.getD i 0∧f.getD i 0<(n:Int))→memN (fwK n rs f k) n=k
 | 0,_,_,_=>memN_zero n n
 |k+1,hk,hr,hf=>by
  have ih:=fw_count hn hd k (by omega) (fun i hi=>hr i (by omega)) (fun i hi=>hf i (by omega));obtain⟨h1,h2⟩:=fw_line hn k (fun i hi=>hr i (by omega)) (fun i hi=>hf i (by omega));obtain⟨a0,ha0⟩:=Int.eq_ofNat_of_zero_le (hf k (by omega)).1;obtain⟨j0,hj0⟩:=Int.eq_ofNat_of_zero_le (hr k (by omega)).1;have ha:a0<n:=by have:=(hf k (by omega)).2;omega
  have hj:j0<n:=by have:=(hr k (by omega)).2;omega
  have hno:inSetB ((fwK n rs f k).getD a0 0) (j0:Int)=false:=by
   cases hb:inSetB ((fwK n rs f k).getD a0 0) (j0:Int) with
   |false=>rfl
   |true=>
    exfalso;obtain⟨i,hi,_,h4⟩:=(h2 a0 j0 ha).1 hb;have hik:i<rs.length:=by omega
    have e:rs.getD i 0=rs.getD k 0:=by rw[h4,hj0]
    rw[List.getD_eq_getElem?_getD,List.getElem?_eq_getElem hik,List.getD_eq_getElem?_getD,List.getElem?_eq_getElem (by omega)] at e;have:=(List.getElem_inj hd).1 e;omega
  rw[fwK,ha0,hj0,Int.toNat_natCast,memN_set (by rw[h1.2.1];exact ha) (mem_add (h1.2.2 a0 ha) hj hno hn) n,ih,if_pos ha]
theorem isB_mem {l:List Int}{n:Int}(h:isB l n=true):n∈l:=by
 unfold isB at h;rw[List.any_eq_true] at h;obtain⟨x,hx,e⟩:=h;rw[beq_iff_eq] at e;rw[←e];exact hx
theorem idxK_mem (f:Ev→Bool)(l:List Ev):∀(k:Nat) (x:Int),x∈idxK f l k→f (l.getD x.toNat zE)=true
 | 0,x,h=>by simp[idxK] at h
 |k+1,x,h=>by
  rw[idxK] at h;split at h
  ·
   rename_i hf;rcases List.mem_append.1 h with h|h
   · exact idxK_mem f l k x h
   ·
    simp only[List.mem_cons,List.not_mem_nil,or_false] at h;rw[h,Int.toNat_natCast];exact hf
  · exact idxK_mem f l k x h
theorem src_use {es:List Ev}{f:List Int}(hx:es.length≤12)(h:srcB (chcL es) f=true):(idxB rdE es).length=f.length ∧
  ∀i,i<(idxB rdE es).length→(0≤f.getD i 0∧f.getD i 0<(es.length:Int))∧(es.getD (f.getD i 0).toNat zE).2.2.2.1=plE es ((idxB rdE es).getD i 0):=by
 unfold srcB at h;rw[Bool.and_eq_true,decide_eq_true_eq] at h;obtain⟨h1,h2⟩:=h;have hc:(chcL es).length=(idxB rdE es).length:=chcK_len _ _ _;refine⟨by omega,fun i hi=>?_⟩;have h3:=(srcK_iff (chcL es).length).1 h2 i (by omega);unfold chcL at h3;rw[chcK_get _ _ _ _ hi] at h3;have h4:=isB_mem h3;unfold idxB at h4;rw[if_pos hx] at h4;have h5:=idxK_lt _ _ _ _ h4;have h6:=idxK_mem _ _ _ _ h4;refine⟨h5,?_⟩;unfold toE at h6;simp only[Bool.and_eq_true,beq_iff_eq] at h6;rw[h6.2];unfold idxB;rw[if_pos hx]
def fwB (dss:List (List Dd))(f:List Int):List Int:=if sourceB dss f=true then fwL (eventsB dss) f else []
theorem perm_of:∀ {p b:List Int},p.Nodup→(∀x∈p,x∈b)→b.length≤p.length→p.Perm b
 | [],b,_,_,hl=>by
  have:b=[]:=List.eq_nil_of_length_eq_zero (by simpa using hl);subst this;exact List.Perm.refl _
 |x::t,b,hn,hs,hl=>by
  have hx:=hs x (by simp);rw[List.nodup_cons] at hn;have hb:(b.erase x).length=b.length-1:=List.length_erase_of_mem hx
  have ih:=perm_of (p:=t) (b:=b.erase x) hn.2 (fun y hy=>by
   have h1:=hs y (by simp[hy])
   exact (List.mem_erase_of_ne (fun e=>hn.1 (by rw[←e];exact hy))).2 h1) (by rw[hb];simp only[List.length_cons] at hl;omega)
  exact (List.Perm.cons x ih).trans (List.perm_cons_erase hx).symm
theorem mem_isB {l:List Int}{n:Int}(h:n∈l):isB l n=true:=by
 unfold isB;rw[List.any_eq_true];exact⟨n,h,by simp⟩
theorem okP_perm {rows p:List Int}{at0 i:Nat}(hn:p.Nodup)(h:okP rows at0 p i=true):at0+p.length≤rows.length∧p.Perm ((rows.drop at0).take p.length):=by
 unfold okP at h;simp only[Bool.and_eq_true,decide_eq_true_eq,List.all_eq_true] at h;refine⟨h.1.1,perm_of hn (fun x hx=>isB_mem (h.2 x hx)) ?_⟩;rw[List.length_take];omega
theorem plcW_nodup {es:List Ev}(hx:es.length≤12)(p:Nat):(plcW es p).Nodup:=by
 unfold plcW idxB;rw[if_pos hx];exact (idxK_rises _ _ _).imp (fun h e=>by omega)
theorem plcW_mem {es:List Ev}(hx:es.length≤12){p:Nat}{x:Int}(h:x∈plcW es p):(0≤x∧x<(es.length:Int))∧(es.getD x.toNat zE).2.2.2.1=(p:Int):=by
 unfold plcW idxB at h;rw[if_pos hx] at h;have h1:=idxK_lt _ _ _ _ h;have h2:=idxK_mem _ _ _ _ h;unfold toE at h2;simp only[Bool.and_eq_true,beq_iff_eq] at h2;exact⟨h1,h2.2⟩
theorem plcW_len {es:List Ev}(hx:es.length≤12)(p:Nat):(plcW es p).length≤12:=by
 unfold plcW idxB;rw[if_pos hx];have:=idxK_len (toE (p:Int)) es es.length;omega
def allW (es:List Ev):List Int:=plcW es 0++plcW es 1++plcW es 2
theorem allW_nodup {es:List Ev}(hx:es.length≤12):(allW es).Nodup:=by
 have dis:∀ {p q:Nat},p≠q→∀a∈plcW es p,∀b∈plcW es q,a≠b:=fun {p q} hpq a ha b hb e=>by
  have h1:=(plcW_mem hx ha).2;have h2:=(plcW_mem hx hb).2;rw[e,h2] at h1;omega
 unfold allW;rw[List.nodup_append,List.nodup_append];refine⟨⟨plcW_nodup hx 0,plcW_nodup hx 1,dis (by decide)⟩,plcW_nodup hx 2,fun a ha b hb=>?_⟩;rcases List.mem_append.1 ha with h|h
 · exact dis (p:=0) (q:=2) (by decide) a h b hb
 · exact dis (p:=1) (q:=2) (by decide) a h b hb
theorem rows_perm {es:List Ev}{rows:List Int}(hx:es.length≤12)(h:rowsL es rows=true):(allW es).Perm rows:=by
 unfold rowsL at h;simp only[Bool.and_eq_true,decide_eq_true_eq] at h;obtain⟨⟨⟨h0,h1⟩,h2⟩,hl⟩:=h;obtain⟨l0,p0⟩:=okP_perm (plcW_nodup hx 0) h0;obtain⟨l1,p1⟩:=okP_perm (plcW_nodup hx 1) h1;obtain⟨l2,p2⟩:=okP_perm (plcW_nodup hx 2) h2
 have e:rows=rows.take (plcW es 0).length++(rows.drop (plcW es 0).length).take (plcW es 1).length++(rows.drop ((plcW es 0).length+(plcW es 1).length)).take (plcW es 2).length:=by
  have t2:(rows.drop ((plcW es 0).length+(plcW es 1).length)).take (plcW es 2).length=rows.drop ((plcW es 0).length+(plcW es 1).length):=List.take_of_length_le (by rw[List.length_drop];omega);rw[t2,List.append_assoc,←List.drop_drop,List.take_append_drop,List.take_append_drop]
 rw[List.drop_zero] at p0;unfold allW;rw[e];exact (p0.append p1).append p2
theorem rows_use {es:List Ev}{rows:List Int}(hx:es.length≤12)(h:rowsL es rows=true):rows.Nodup∧rows.length≤36∧∀i,i<rows.length→0≤rows.getD i 0∧rows.getD i 0<(es.length:Int):=by
 have hp:=rows_perm hx h;refine⟨hp.nodup_iff.1 (allW_nodup hx),?_,fun i hi=>?_⟩
 ·
  rw[←hp.length_eq];unfold allW;rw[List.length_append,List.length_append];have:=plcW_len hx 0;have:=plcW_len hx 1;have:=plcW_len hx 2;omega
 ·
  have hm:rows.getD i 0∈rows:=by
   rw[List.getD_eq_getElem?_getD,List.getElem?_eq_getElem hi];exact List.getElem_mem hi
  have hm:=hp.mem_iff.2 hm;unfold allW at hm;rcases List.mem_append.1 hm with hm|hm
  ·
   rcases List.mem_append.1 hm with hm|hm
   · exact (plcW_mem hx hm).1
   · exact (plcW_mem hx hm).1
  · exact (plcW_mem hx hm).1
theorem okP_mk {A P C p:List Int}{i:Nat}(hl:P.length=p.length)(hp:P.Perm p)(h0:0<p.length)(hi:P.getD 0 0=(i:Int)):okP (A++P++C) A.length p i=true:=by
 unfold okP;simp only[Bool.and_eq_true,decide_eq_true_eq,beq_iff_eq,List.all_eq_true];refine⟨⟨by rw[List.length_append,List.length_append];omega,?_⟩,fun x hx=>?_⟩
 ·
  rw[List.append_assoc,List.getD_eq_getElem?_getD,List.getElem?_append_right (Nat.le_refl _),Nat.sub_self,List.getElem?_append_left (by omega),←List.getD_eq_getElem?_getD];exact hi
 ·
  refine mem_isB ?_;rw[List.append_assoc,List.drop_left,←hl,List.take_left];exact hp.mem_iff.2 hx
theorem plcW_first {dss:List (List Dd)}(hb:workB dss=true)(p:Nat)(hp:p<3):0<(plcW (eventsB dss) p).length∧(plcW (eventsB dss) p).getD 0 0=(p:Int):=by
 obtain⟨h12,_,_,hf,_⟩:=events_law hb;obtain⟨r,hr⟩:=hf p hp;unfold plcW idxB;rw[eventsB,if_pos hb,if_pos h12,hr];exact⟨by simp,rfl⟩
theorem eventsB_12 (dss:List (List Dd)):(eventsB dss).length≤12:=by
 unfold eventsB;split
 ·
  rename_i hb;exact (events_law hb).1
 · simp
theorem rat_parts {es:List Ev}{n:Int}(h0:0≤n)(h1:n<rcntL es):
  (0≤n % fac ((plcW es 2).length-1)∧n % fac ((plcW es 2).length-1)<fac ((plcW es 2).length-1)) ∧
  (0≤n / fac ((plcW es 2).length-1) % fac ((plcW es 1).length-1)∧n / fac ((plcW es 2).length-1) % fac ((plcW es 1).length-1)<fac ((plcW es 1).length-1)) ∧
  (0≤n / fac ((plcW es 2).length-1) / fac ((plcW es 1).length-1)∧n / fac ((plcW es 2).length-1) / fac ((plcW es 1).length-1)<fac ((plcW es 0).length-1)):=by
 have f0:=fac_pos ((plcW es 0).length-1);have f1:=fac_pos ((plcW es 1).length-1);have f2:=fac_pos ((plcW es 2).length-1);unfold rcntL at h1;refine⟨⟨Int.emod_nonneg _ (by omega),Int.emod_lt_of_pos _ f2⟩,⟨Int.emod_nonneg _ (by omega),Int.emod_lt_of_pos _ f1⟩,Int.ediv_nonneg (Int.ediv_nonneg h0 (by omega)) (by omega),?_⟩;exact Int.ediv_lt_of_lt_mul f1 (Int.ediv_lt_of_lt_mul f2 h1)
theorem rat_ok {dss:List (List Dd)}{n:Int}(hb:workB dss=true)(h0:0≤n)(h1:n<rcntL (eventsB dss)):rowsL (eventsB dss) (ratL (eventsB dss) n)=true:=by
 obtain⟨⟨a0,a1⟩,⟨b0,b1⟩,c0,c1⟩:=rat_parts h0 h1;have e0:n / fac ((plcW (eventsB dss) 2).length-1) / fac ((plcW (eventsB dss) 1).length-1) % fac ((plcW (eventsB dss) 0).length-1)=n / fac ((plcW (eventsB dss) 2).length-1) / fac ((plcW (eventsB dss) 1).length-1):=Int.emod_eq_of_lt c0 c1;obtain⟨p0,q0⟩:=plcW_first hb 0 (by decide);obtain⟨p1,q1⟩:=plcW_first hb 1 (by decide);obtain⟨p2,q2⟩:=plcW_first hb 2 (by decide);unfold ratL;rw[e0];generalize n / fac ((plcW (eventsB dss) 2).length-1) / fac ((plcW (eventsB dss) 1).length-1)=x0 at c0 c1;generalize n / fac ((plcW (eventsB dss) 2).length-1) % fac ((plcW (eventsB dss) 1).length-1)=x1 at b0 b1;generalize n % fac ((plcW (eventsB dss) 2).length-1)=x2 at a0 a1;have L0:=part_len p0 x0;have L1:=part_len p1 x1;have L2:=part_len p2 x2;unfold rowsL;simp only[Bool.and_eq_true,decide_eq_true_eq];refine⟨⟨⟨?_,?_⟩,?_⟩,?_⟩
 ·
  have:=okP_mk (A:=[]) (C:=partL (plcW (eventsB dss) 1) x1++partL (plcW (eventsB dss) 2) x2) L0 (part_perm p0 c0 c1) p0 (i:=0) q0;rw[List.nil_append,←List.append_assoc] at this;exact this
 ·
  have:=okP_mk (A:=partL (plcW (eventsB dss) 0) x0) (C:=partL (plcW (eventsB dss) 2) x2) L1 (part_perm p1 b0 b1) p1 (i:=1) q1;rw[L0] at this;exact this
 ·
  have:=okP_mk (A:=partL (plcW (eventsB dss) 0) x0++partL (plcW (eventsB dss) 1) x1) (C:=[]) L2 (part_perm p2 a0 a1) p2 (i:=2) q2;rw[List.append_nil,List.length_append,L0,L1] at this;exact this
 · rw[List.length_append,List.length_append,L0,L1,L2]
theorem rat_inj {dss:List (List Dd)}{n m:Int}(hb:workB dss=true)(h0:0≤n)(h1:n<rcntL (eventsB dss))(g0:0≤m)(g1:m<rcntL (eventsB dss))(e:ratL (eventsB dss) m=ratL (eventsB dss) n):m=n:=by
 have hx:=eventsB_12 dss;obtain⟨⟨a0,a1⟩,⟨b0,b1⟩,c0,c1⟩:=rat_parts h0 h1;obtain⟨⟨d0,d1⟩,⟨i0,i1⟩,j0,j1⟩:=rat_parts g0 g1;obtain⟨p0,_⟩:=plcW_first hb 0 (by decide);obtain⟨p1,_⟩:=plcW_first hb 1 (by decide);obtain⟨p2,_⟩:=plcW_first hb 2 (by decide);unfold ratL at e;rw[Int.emod_eq_of_lt c0 c1,Int.emod_eq_of_lt j0 j1] at e;obtain⟨e01,e2⟩:=List.append_inj' e (by rw[part_len p2,part_len p2]);obtain⟨e0,e1⟩:=List.append_inj' e01 (by rw[part_len p1,part_len p1]);have r2:=part_inj (plcW_nodup hx 2) d0 d1 a0 a1 e2;have r1:=part_inj (plcW_nodup hx 1) i0 i1 b0 b1 e1;have r0:=part_inj (plcW_nodup hx 0) j0 j1 c0 c1 e0;have x2:=Int.mul_ediv_add_emod m (fac ((plcW (eventsB dss) 2).length-1));have y2:=Int.mul_ediv_add_emod n (fac ((plcW (eventsB dss) 2).length-1));have x1:=Int.mul_ediv_add_emod (m / fac ((plcW (eventsB dss) 2).length-1)) (fac ((plcW (eventsB dss) 1).length-1));have y1:=Int.mul_ediv_add_emod (n / fac ((plcW (eventsB dss) 2).length-1)) (fac ((plcW (eventsB dss) 1).length-1));rw[r0,r1,y1] at x1;rw[←x1,r2] at x2;omega
def rwP (es:List Ev)(rows:List Int)(i k:Nat):Bool:=decide (i<k)&&(plE es (rows.getD i 0)==plE es (rows.getD k 0))
def rwIn (es:List Ev)(rows:List Int)(i:Nat)(st:List Int):Nat→List Int
 | 0=>st
 |k+1=>if rwP es rows i k=true then (rwIn es rows i st k).set (rows.getD i 0).toNat (gAdd ((rwIn es rows i st k).getD (rows.getD i 0).toNat 0) (rows.getD k 0)) else rwIn es rows i st k
def rwAll (es:List Ev)(rows:List Int):Nat→List Int
 | 0=>List.replicate es.length 0
 |i+1=>rwIn es rows i (rwAll es rows i) rows.length
def rwL (es:List Ev)(rows:List Int):List Int:=rwAll es rows rows.length
def rwB (dss:List (List Dd))(rows:List Int):List Int:=if rowsB dss rows=true then rwL (eventsB dss) rows else []
theorem rwIn_hit {es:List Ev}{rows:List Int}{i k:Nat}(st:List Int)(h:rwP es rows i k=true):rwIn es rows i st (k+1)=(rwIn es rows i st k).set (rows.getD i 0).toNat (gAdd ((rwIn es rows i st k).getD (rows.getD i 0).toNat 0) (rows.getD k 0)):=if_pos h
theorem rwIn_miss {es:List Ev}{rows:List Int}{i k:Nat}(st:List Int)(h:rwP es rows i k=false):rwIn es rows i st (k+1)=rwIn es rows i st k:=if_neg (by simp[h])
theorem rwIn_none {es:List Ev}{rows:List Int}{i:Nat}(st:List Int):∀k:Nat,(∀j,j<k→rwP es rows i j=false)→rwIn es rows i st k=st
 | 0,_=>rfl
 |k+1,h=>by rw[rwIn_miss st (h k (by omega))];exact rwIn_none st k (fun j hj=>h j (by omega))
theorem rwP_up {es:List Ev}{rows:List Int}{i j:Nat}(h:j≤i):rwP es rows i j=false:=by unfold rwP;rw[decide_eq_false (show ¬i<j by omega)];rfl
theorem web_rwIn {es:List Ev}{rows:List Int}{n i:Nat}{st:List Int}(hr:∀j,j<rows.length→0≤rows.getD j 0∧rows.getD j 0<(n:Int))(hi:i<rows.length)(hst:Web n st):∀m:Nat,m≤rows.length →
  Web n (rwIn es rows i st m)∧∀a b:Nat,a<n→(line (rwIn es rows i st m) a b=true↔line st a b=true∨∃q,q<m∧rwP es rows i q=true∧rows.getD i 0=(a:Int)∧rows.getD q 0=(b:Int))
 | 0,_=>⟨hst,fun a b _=>by simp[rwIn]⟩
 |m+1,hm=>by
  obtain⟨h1,h2⟩:=web_rwIn (es:=es) hr hi hst m (by omega)
  cases hp:rwP es rows i m with
  |false=>
   rw[rwIn_miss st hp];refine⟨h1,fun a b ha=>?_⟩;rw[h2 a b ha];constructor
   ·
    rintro (h|⟨q,hq,r⟩)
    · exact .inl h
    · exact .inr ⟨q,by omega,r⟩
   ·
    rintro (h|⟨q,hq,r⟩)
    · exact .inl h
    ·
     by_cases e:q=m
     · subst e;rw[hp] at r;cases r.1
     · exact .inr ⟨q,by omega,r⟩
  |true=>
   obtain⟨a0,ha0⟩:=Int.eq_ofNat_of_zero_le (hr i hi).1;obtain⟨b0,hb0⟩:=Int.eq_ofNat_of_zero_le (hr m (by omega)).1;have ha:a0<n:=by have:=(hr i hi).2;omega
   have hb:b0<n:=by have:=(hr m (by omega)).2;omega
   have e0:rwIn es rows i st (m+1)=(rwIn es rows i st m).set a0 (gAdd ((rwIn es rows i st m).getD a0 0) (b0:Int)):=by rw[rwIn_hit st hp,ha0,hb0,Int.toNat_natCast]
   rw[e0];have hadd:=ok_add (h1.2.2 a0 ha) hb;refine⟨h1.set hadd.1,fun a b haa=>?_⟩;have e1:=h2 a b haa;unfold line at e1 ⊢;rw[getD_set _ _ _ _ (by rw[h1.2.1];exact ha)];by_cases e:a0=a
   ·
    subst e;simp only[if_true];rw[hadd.2 b,Bool.or_eq_true,e1,decide_eq_true_eq];constructor
    ·
     rintro ((h|⟨q,hq,r1,r2,r3⟩)|h)
     · exact .inl h
     · exact .inr ⟨q,by omega,r1,r2,r3⟩
     · exact .inr ⟨m,by omega,hp,ha0,by rw[hb0,h]⟩
    ·
     rintro (h|⟨q,hq,r1,r2,r3⟩)
     · exact .inl (.inl h)
     ·
      by_cases eq:q=m
      ·
       subst eq;right;rw[hb0] at r3;omega
      · exact .inl (.inr ⟨q,by omega,r1,r2,r3⟩)
   ·
    simp only[e,if_false];rw[e1];constructor
    ·
     rintro (h|⟨q,hq,r1,r2,r3⟩)
     · exact .inl h
     · exact .inr ⟨q,by omega,r1,r2,r3⟩
    ·
     rintro (h|⟨q,hq,r1,r2,r3⟩)
     · exact .inl h
     · exfalso;rw[ha0] at r2;omega
theorem web_rwAll {es:List Ev}{rows:List Int}(hx:es.length≤12)(hr:∀j,j<rows.length→0≤rows.getD j 0∧rows.getD j 0<(es.length:Int)):∀m:Nat,m≤rows.length →
  Web es.length (rwAll es rows m)∧∀a b:Nat,a<es.length→(line (rwAll es rows m) a b=true↔∃i q,i<m∧q<rows.length∧rwP es rows i q=true∧rows.getD i 0=(a:Int)∧rows.getD q 0=(b:Int))
 | 0,_=>⟨Web.zero hx,fun a b _=>by unfold rwAll;rw[line_zero];simp⟩
 |m+1,hm=>by
  obtain⟨h1,h2⟩:=web_rwAll hx hr m (by omega);obtain⟨g1,g2⟩:=web_rwIn (es:=es) hr (show m<rows.length by omega) h1 rows.length (Nat.le_refl _);refine⟨g1,fun a b ha=>?_⟩;show line (rwIn es rows m (rwAll es rows m) rows.length) a b=true↔_;rw[g2 a b ha,h2 a b ha];constructor
  ·
   rintro (⟨i,q,hi,r⟩|⟨q,hq,r⟩)
   · exact⟨i,q,by omega,r⟩
   · exact⟨m,q,by omega,hq,r⟩
  ·
   rintro⟨i,q,hi,hq,r⟩;by_cases e:i=m
   · subst e;exact .inr ⟨q,hq,r⟩
   · exact .inl ⟨i,q,by omega,hq,r⟩
theorem row_cell {es:List Ev}{rows:List Int}(hx:es.length≤12)(h:rowsL es rows=true){i k:Nat}(hi:i<rows.length)(hk:k<rows.length):
  line (rwL es rows) (rows.getD i 0).toNat (rows.getD k 0).toNat=rwP es rows i k:=by
 obtain⟨hn,_,hr⟩:=rows_use hx h;obtain⟨_,h2⟩:=web_rwAll hx hr rows.length (Nat.le_refl _);obtain⟨a,ha⟩:=Int.eq_ofNat_of_zero_le (hr i hi).1;obtain⟨b,hb⟩:=Int.eq_ofNat_of_zero_le (hr k hk).1;have hal:a<es.length:=by have:=(hr i hi).2;omega
 rw[ha,hb,Int.toNat_natCast,Int.toNat_natCast];have e:=h2 a b hal;unfold rwL
 cases hp:rwP es rows i k with
 |true=>exact e.2 ⟨i,k,hi,hk,hp,ha,hb⟩
 |false=>
  cases hl:line (rwAll es rows rows.length) a b with
  |false=>rfl
  |true=>
   exfalso;obtain⟨i',k',hi',hk',hp',ha',hb'⟩:=e.1 hl;have e1:=nodup_get hn hi' hi (by rw[ha',ha]);have e2:=nodup_get hn hk' hk (by rw[hb',hb]);subst e1 e2;rw[hp] at hp';cases hp'
theorem getD_zip (f:Int→Int→Int){n:Nat}{a b:List Int}(ha:a.length=n)(hb:b.length=n){i:Nat}(hi:i<n):(List.zipWith f a b).getD i 0=f (a.getD i 0) (b.getD i 0):=by
 rw[List.getD_eq_getElem?_getD,List.getElem?_zipWith,List.getD_eq_getElem?_getD,List.getD_eq_getElem?_getD,List.getElem?_eq_getElem (show i<a.length by omega),List.getElem?_eq_getElem (show i<b.length by omega)];rfl
theorem web_mix (f:Int→Int→Int)(hf:∀ {n:Nat} {s t:Int},okB n s=true→okB n t=true→okB n (f s t)=true){n:Nat}{a b:List Int}(ha:Web n a)(hb:Web n b):Web n (List.zipWith f a b):=by
 refine⟨ha.1,by rw[List.length_zipWith,ha.2.1,hb.2.1];omega,fun i hi=>?_⟩;rw[getD_zip f ha.2.1 hb.2.1 hi];exact hf (ha.2.2 i hi) (hb.2.2 i hi)
theorem mixL_web (f:Int→Int→Int){n:Nat}{a b:List Int}(ha:Web n a)(hb:Web n b):mixL f a b=List.zipWith f a b:=by
 unfold mixL;rw[if_pos (twoB_iff.2 ⟨by rw[ha.2.1,hb.2.1],ha.b,hb.b⟩)]
theorem web_join {n:Nat}{a b:List Int}(ha:Web n a)(hb:Web n b):Web n (mixL orI a b)∧∀i j,i<n→line (mixL orI a b) i j=(line a i j||line b i j):=by
 rw[mixL_web _ ha hb];refine⟨web_mix orI (fun h k=>(ok_or h k).1) ha hb,fun i j hi=>?_⟩;unfold line;rw[getD_zip orI ha.2.1 hb.2.1 hi];exact (ok_or (ha.2.2 i hi) (hb.2.2 i hi)).2 j
theorem web_less {n:Nat}{a b:List Int}(ha:Web n a)(hb:Web n b):Web n (mixL notI a b)∧∀i j,i<n→line (mixL notI a b) i j=(line a i j&&!line b i j):=by
 rw[mixL_web _ ha hb];refine⟨web_mix notI (fun h k=>(ok_not h k).1) ha hb,fun i j hi=>?_⟩;unfold line;rw[getD_zip notI ha.2.1 hb.2.1 hi];exact (ok_not (ha.2.2 i hi) (hb.2.2 i hi)).2 j
theorem web_then {n:Nat}{a b:List Int}(ha:Web n a)(hb:Web n b):Web n (thenL a b)∧∀i j,i<n→(line (thenL a b) i j=true↔∃k,k<n∧line a i k=true∧line b k j=true):=by
 have e:thenL a b=a.map (fun x=>thenS x b 12):=by
  unfold thenL;rw[if_pos (twoB_iff.2 ⟨by rw[ha.2.1,hb.2.1],ha.b,hb.b⟩)]
 have hg:∀i,i<n→(a.map (fun x=>thenS x b 12)).getD i 0=thenS (a.getD i 0) b 12:=by
  intro i hi;rw[List.getD_eq_getElem?_getD,List.getElem?_map,List.getD_eq_getElem?_getD,List.getElem?_eq_getElem (show i<a.length by rw[ha.2.1];exact hi)];rfl
 rw[e];refine⟨⟨ha.1,by simp[ha.2.1],fun i hi=>?_⟩,fun i j hi=>?_⟩
 · rw[hg i hi];exact (ok_then (ha.2.2 i hi) hb 12).1
 ·
  have h:=(ok_then (ha.2.2 i hi) hb 12).2 j;unfold line at h ⊢;rw[hg i hi,h];constructor
  · rintro⟨k,_,h1,h2⟩;exact⟨k,inSetB_iff (ha.2.2 i hi) h1,h1,h2⟩
  · rintro⟨k,hk,h1,h2⟩;exact⟨k,by have:=ha.1;omega,h1,h2⟩
def inL (a b:List Int):Bool:=decide (a.length=b.length)&&(List.range a.length).all fun i=>notI (a.getD i 0) (b.getD i 0)==0
theorem inL_web {n:Nat}{a b:List Int}(ha:Web n a)(hb:Web n b)(h:∀i j,i<n→j<n→line a i j=true→line b i j=true):inL a b=true:=by
 unfold inL;rw[Bool.and_eq_true,decide_eq_true_eq,List.all_eq_true];refine⟨by rw[ha.2.1,hb.2.1],fun i hi=>?_⟩;have hi:i<n:=by rw[List.mem_range,ha.2.1] at hi;exact hi
 have ho:=ok_not (ha.2.2 i hi) (hb.2.2 i hi);rw[beq_iff_eq];refine ok_ext ho.1 (ok_zero ha.1) fun j hj=>?_
 rw[ho.2 j,zero_bit];have:=h i j hi hj;unfold line at this
 cases h1:inSetB (a.getD i 0) j with
 |false=>rfl
 |true=>rw[this h1];rfl
inductive Way (zs:List Int):Nat→Nat→Prop
 |one {i j:Nat} (h:line zs i j=true):Way zs i j
 |more {i k j:Nat} (h:Way zs i k) (g:line zs k j=true):Way zs i j
theorem Way.trans {zs:List Int}{i k j:Nat}(h:Way zs i k)(g:Way zs k j):Way zs i j:=by
 induction g with
 |one g=>exact .more h g
 |more _ g ih=>exact .more ih g
theorem Way.lt {n:Nat}{zs:List Int}(hz:Web n zs){i j:Nat}(hi:i<n)(h:Way zs i j):j<n:=by
 induction h with
 |one g=>exact hz.lt hi g
 |more _ g ih=>exact hz.lt ih g
theorem wayAll_sound {n:Nat}{zs:List Int}(hz:Web n zs)(m:Nat)(hm:m≤n){i:Nat}(hi:i<n){j:Nat}(h:line (wayAll zs m) i j=true):Way zs i j:=by
 induction m generalizing i j with
 |zero=>exact .one h
 |succ m ih=>
  rw[line_wayAll hz m (by omega) hi,Bool.or_eq_true,Bool.and_eq_true] at h;rcases h with h|⟨h1,h2⟩
  · exact ih (by omega) hi h
  · exact (ih (by omega) hi h1).trans (ih (by omega) (by omega) h2)
theorem wayAll_mono {n:Nat}{zs:List Int}(hz:Web n zs)(m:Nat)(hm:m<n){i:Nat}(hi:i<n){j:Nat}(h:line (wayAll zs m) i j=true):line (wayAll zs (m+1)) i j=true:=by
 rw[line_wayAll hz m hm hi,h];rfl
theorem wayAll_meet {n:Nat}{zs:List Int}(hz:Web n zs)(m:Nat)(hm:m≤n){i k j:Nat}(hi:i<n)(hk:k<m)(h1:line (wayAll zs m) i k=true)(h2:line (wayAll zs m) k j=true):line (wayAll zs m) i j=true:=by
 induction m generalizing i k j with
 |zero=>omega
 |succ m ih=>
  have hmn:m<n:=by omega
  have ihm:=@ih (by omega);rw[line_wayAll hz m hmn hi,Bool.or_eq_true,Bool.and_eq_true] at h1;rw[line_wayAll hz m hmn (show k<n by omega),Bool.or_eq_true,Bool.and_eq_true] at h2;rw[line_wayAll hz m hmn hi,Bool.or_eq_true,Bool.and_eq_true];by_cases e:k=m
  ·
   subst e
   have h1':line (wayAll zs k) i k=true:=by
    rcases h1 with h|h
    · exact h
    · exact h.1
   have h2':line (wayAll zs k) k j=true:=by
    rcases h2 with h|h
    · exact h
    · exact h.2
   exact .inr ⟨h1',h2'⟩
  ·
   have hkm:k<m:=by omega
   rcases h1 with h1|⟨h1,h1'⟩<;>rcases h2 with h2|⟨h2,h2'⟩
   · exact .inl (ihm hi hkm h1 h2)
   · exact .inr ⟨ihm hi hkm h1 h2,h2'⟩
   · exact .inr ⟨h1,ihm hmn hkm h1' h2⟩
   · exact .inr ⟨h1,h2'⟩
theorem ways_eq {n:Nat}{zs:List Int}(hz:Web n zs):waysL zs=wayAll zs n:=by
 unfold waysL;rw[if_pos hz.b,hz.2.1]
theorem web_ways {n:Nat}{zs:List Int}(hz:Web n zs):Web n (waysL zs):=by rw[ways_eq hz];exact web_wayAll hz n (Nat.le_refl _)
theorem wayAll_old {n:Nat}{zs:List Int}(hz:Web n zs)(m:Nat)(hm:m≤n){i:Nat}(hi:i<n){j:Nat}(h:line zs i j=true):line (wayAll zs m) i j=true:=by
 induction m with
 |zero=>exact h
 |succ m ih=>exact wayAll_mono hz m (by omega) hi (ih (by omega))
theorem ways_line {n:Nat}{zs:List Int}(hz:Web n zs){i:Nat}(hi:i<n){j:Nat}:line (waysL zs) i j=true↔Way zs i j:=by
 rw[ways_eq hz];constructor
 · exact wayAll_sound hz n (Nat.le_refl _) hi
 ·
  intro h
  induction h with
  |one g=>exact wayAll_old hz n (Nat.le_refl _) hi g
  |more h g ih=>
   have hk:=h.lt hz hi;exact wayAll_meet hz n (Nat.le_refl _) hi hk ih (wayAll_old hz n (Nat.le_refl _) hk g)
end Go.Proofs.YtgikcfdckddgpaaGreat
