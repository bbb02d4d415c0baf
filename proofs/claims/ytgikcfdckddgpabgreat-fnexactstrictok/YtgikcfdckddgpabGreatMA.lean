/- Gathered texts. -/
import Derived.Lib.IndexMore
import Derived.Lib.ParseIntB
import Derived.Lib.ItoaNum
import Derived.WalkKit
import Derived.ProofKit
import Derived.Laws.BitsAllLaws
import Derived.Laws.BitsLemmas
set_option maxRecDepth 100000
set_option maxHeartbeats 8000000
namespace Go.Proofs.YtgikcfdckddgpabGreat
open Go.RowKit
def deedB (k p v g:Int):Bool:=
 decide ((1≤k∧k≤4)∧(0≤p∧p≤2)∧(0≤g∧g≤9)∧(k=4→p=0)∧(2<k→g=0)∧((k=2∨k=3)→1≤v∧v≤9)∧(¬(k=2∨k=3)→v=0))
abbrev Dd:=Int×Int×Int×Int
def zD:Dd:=(0,0,0,0)
def okD (d:Dd):Bool:=deedB d.1 d.2.1 d.2.2.1 d.2.2.2
def evD (d:Dd):Int:=if d.1=1 then 1 else if d.1=2 then 1 else if d.1=3 then 2 else 0
def evK (ds:List Dd):Nat→Int
 | 0=>0
 |k+1=>evK ds k+evD (ds.getD k zD)
def evW (dss:List (List Dd)):Nat→Int
 | 0=>0
 |i+1=>evW dss i+evK (dss.getD i []) (dss.getD i []).length
theorem evD_in (d:Dd):0≤evD d∧evD d≤2:=by
 unfold evD
 repeat' split
 all_goals omega
theorem evK_in (ds:List Dd):∀k:Nat,0≤evK ds k∧evK ds k≤2*k
 | 0=>by simp[evK]
 |k+1=>by have:=evK_in ds k;have:=evD_in (ds.getD k zD);rw[evK];omega
def grpK (i:Nat)(own:List Int)(ds:List Dd):Nat→Option (List Int)
 | 0=>some own
 |k+1=>match grpK i own ds k with
  |none=>none
  |some o=>
   if (ds.getD k zD).2.2.2=0 then some o
   else if o.getD (ds.getD k zD).2.2.2.toNat 0≠0∧(o.getD (ds.getD k zD).2.2.2.toNat 0≠(i:Int)+1∨k=0∨(ds.getD (k-1) zD).2.2.2≠(ds.getD k zD).2.2.2) then none
   else some (o.set (ds.getD k zD).2.2.2.toNat ((i:Int)+1))
def grpW (dss:List (List Dd)):Nat→Option (List Int)
 | 0=>some (List.replicate 10 0)
 |i+1=>match grpW dss i with
  |none=>none
  |some o=>grpK i o (dss.getD i []) (dss.getD i []).length
def grpB (dss:List (List Dd)):Bool:=(grpW dss dss.length).isSome
def lenW:List (List Dd)→Nat
 | []=>0
 |d::r=>d.length+lenW r
def okL (ds:List Dd):Bool:=ds.all okD&&decide (ds.length≤5)
def workB (dss:List (List Dd)):Bool:=
 decide (1≤dss.length∧dss.length≤3)&&dss.all okL&&decide (lenW dss≤12)&&decide (evW dss dss.length≤6)&&grpB dss
theorem grpK_none {i:Nat}{own:List Int}{ds:List Dd}{k:Nat}(h:grpK i own ds k=none):∀n:Nat,k≤n→grpK i own ds n=none
 | 0,hn=>by
  obtain rfl:k=0:=by omega
  exact h
 |n+1,hn=>by
  by_cases e:k=n+1
  · rw[←e];exact h
  · rw[grpK,grpK_none h n (by omega)]
theorem grpW_none {dss:List (List Dd)}{i:Nat}(h:grpW dss i=none):∀n:Nat,i≤n→grpW dss n=none
 | 0,hn=>by
  obtain rfl:i=0:=by omega
  exact h
 |n+1,hn=>by
  by_cases e:i=n+1
  · rw[←e];exact h
  · rw[grpW,grpW_none h n (by omega)]
theorem grpK_len {i:Nat}{own:List Int}{ds:List Dd}:∀ {k:Nat} {o:List Int},grpK i own ds k=some o→o.length=own.length
 | 0,o,h=>by simp only[grpK,Option.some.injEq] at h;rw[←h]
 |k+1,o,h=>by
  rw[grpK] at h;split at h
  · cases h
  ·
   rename_i o' ho';have ih:=grpK_len ho';split at h
   · simp only[Option.some.injEq] at h;rw[←h];exact ih
   ·
    split at h
    · cases h
    · simp only[Option.some.injEq] at h;rw[←h,List.length_set];exact ih
theorem grpW_len {dss:List (List Dd)}:∀ {i:Nat} {o:List Int},grpW dss i=some o→o.length=10
 | 0,o,h=>by simp only[grpW,Option.some.injEq] at h;rw[←h];simp
 |i+1,o,h=>by
  rw[grpW] at h;split at h
  · cases h
  ·
   rename_i o' ho';rw[grpK_len h];exact grpW_len ho'
theorem all_get {α:Type}{f:α→Bool}{l:List α}(z:α)(h:l.all f=true)(i:Nat)(hi:i<l.length):f (l.getD i z)=true:=by
 rw[List.getD_eq_getElem?_getD,List.getElem?_eq_getElem hi];exact List.all_eq_true.1 h _ (List.getElem_mem hi)
theorem all_of {α:Type}{f:α→Bool}{l:List α}(z:α)(h:∀i,i<l.length→f (l.getD i z)=true):l.all f=true:=by
 rw[List.all_eq_true];intro x hx;obtain⟨i,hi,rfl⟩:=List.getElem_of_mem hx;have:=h i hi
 rwa [List.getD_eq_getElem?_getD,List.getElem?_eq_getElem hi] at this
theorem all_not {α:Type}{f:α→Bool}{l:List α}(z:α)(i:Nat)(hi:i<l.length)(h:f (l.getD i z)=false):l.all f=false:=by
 cases hb:l.all f
 · rfl
 · rw[all_get z hb i hi] at h;cases h
abbrev Ev:=Int×Int×Bool×Int×Int×Int
def zE:Ev:=(0,0,false,0,0,0)
def csE (e:Ev):Int:=e.2.2.2.2.2
def evBeg:List Ev:=[(-1,-1,false,0,0,0),(-1,-1,false,1,0,1),(-1,-1,false,2,0,2)]
def oneE (i k:Nat)(d:Dd)(c:Int):List Ev:=
 if d.1=4 then [] else if d.1=3 then [((i:Int),(k:Int),true,d.2.1,0,c),((i:Int),(k:Int),false,d.2.1,d.2.2.1,c)]
 else if d.1=2 then [((i:Int),(k:Int),false,d.2.1,d.2.2.1,c)] else [((i:Int),(k:Int),true,d.2.1,0,c)]
def fstE (g:Int)(at0:Nat)(f:List Int):List Int:=if 0<g∧f.getD g.toNat 0=0 then f.set g.toNat (at0:Int) else f
def clsE (g:Int)(at0:Nat)(f:List Int):Int:=if 0<g then (fstE g at0 f).getD g.toNat 0 else (at0:Int)
def stepE (i k:Nat)(d:Dd)(s:List Ev×List Int):List Ev×List Int:=
 if d.1=4 then s else (s.1++oneE i k d (clsE d.2.2.2 s.1.length s.2),fstE d.2.2.2 s.1.length s.2)
def clkE (i:Nat)(ds:List Dd)(out:List Ev):Nat→List Ev×List Int
 | 0=>(out,List.replicate 10 0)
 |k+1=>stepE i k (ds.getD k zD) (clkE i ds out k)
def evsW (dss:List (List Dd)):Nat→List Ev
 | 0=>evBeg
 |i+1=>(clkE i (dss.getD i []) (evsW dss i) (dss.getD i []).length).1
def eventsB (dss:List (List Dd)):List Ev:=if workB dss=true then evsW dss dss.length else []
theorem oneE_len (i k:Nat)(d:Dd)(c:Int)(h:d.1=1∨d.1=2∨d.1=3∨d.1=4):((oneE i k d c).length:Int)=evD d:=by
 unfold oneE evD;rcases h with h|h|h|h<;>simp[h]
theorem okD_kindE {d:Dd}(h:okD d=true):d.1=1∨d.1=2∨d.1=3∨d.1=4:=by
 simp[okD,deedB] at h;omega
theorem okD_restE {d:Dd}(h:okD d=true):0≤d.2.1∧d.2.1≤2∧0≤d.2.2.2∧d.2.2.2≤9∧(2<d.1→d.2.2.2=0):=by
 simp[okD,deedB] at h;omega
theorem clkE_len {i:Nat}{ds:List Dd}{out:List Ev}(hok:∀j,j<ds.length→okD (ds.getD j zD)=true):∀k:Nat,k≤ds.length→((clkE i ds out k).1.length:Int)=out.length+evK ds k
 | 0,_=>by simp[clkE,evK]
 |k+1,h=>by
  have ih:=clkE_len (i:=i) (out:=out) hok k (by omega);have hk:=okD_kindE (hok k (by omega));rw[clkE,stepE,evK];split
  ·
   rename_i h4;rw[ih];unfold evD;rw[h4];simp
  ·
   have:=oneE_len i k (ds.getD k zD) (clsE (ds.getD k zD).2.2.2 (clkE i ds out k).1.length (clkE i ds out k).2) hk;rw[List.length_append];omega
theorem evsW_len {dss:List (List Dd)}(hok:∀i,i<dss.length→okL (dss.getD i [])=true):∀n:Nat,n≤dss.length→((evsW dss n).length:Int)=3+evW dss n
 | 0,_=>by simp[evsW,evBeg,evW]
 |n+1,h=>by
  have ih:=evsW_len hok n (by omega);have hn:=hok n (by omega);simp only[okL,Bool.and_eq_true,decide_eq_true_eq] at hn;rw[evsW,clkE_len (fun j hj=>all_get zD hn.1 j hj) _ (Nat.le_refl _),ih,evW];omega
def GoodE (dss:List (List Dd))(out:List Ev)(j:Nat):Prop:=
 ∃(i k c:Nat) (rd:Bool) (vl:Int),out[j]? = some ((i:Int),(k:Int),rd,((dss.getD i []).getD k zD).2.1,vl,(c:Int))∧i<dss.length∧k<(dss.getD i []).length ∧
  (rd=true→vl=0)∧(rd=false→vl=((dss.getD i []).getD k zD).2.2.1)∧c≤j ∧
  ∃(k':Nat) (rd':Bool) (pl' vl':Int),out[c]? = some ((i:Int),(k':Int),rd',pl',vl',(c:Int))∧k'<(dss.getD i []).length ∧
   (c≠j→((dss.getD i []).getD k zD).1≠3→((dss.getD i []).getD k zD).2.2.2≠0∧((dss.getD i []).getD k' zD).2.2.2=((dss.getD i []).getD k zD).2.2.2)
theorem at_left {α:Type}{l:List α}{j:Nat}{x:α}(t:List α)(h:l[j]? = some x):(l++t)[j]? = some x:=by
 rw[List.getElem?_append_left (List.getElem?_eq_some_iff.1 h).1];exact h
theorem GoodE.more {dss:List (List Dd)}{out:List Ev}{j:Nat}(h:GoodE dss out j)(t:List Ev):GoodE dss (out++t) j:=by
 obtain⟨i,k,c,rd,vl,h1,h2,h3,h4,h5,h6,k',rd',pl',vl',g1,g2,g3⟩:=h;exact⟨i,k,c,rd,vl,at_left t h1,h2,h3,h4,h5,h6,k',rd',pl',vl',at_left t g1,g2,g3⟩
def FstOk (dss:List (List Dd))(i:Nat)(out:List Ev)(f:List Int):Prop:=
 f.length=10∧∀g:Nat,0<g→g<10→f.getD g 0=0∨∃(c k':Nat) (rd':Bool) (pl' vl':Int),f.getD g 0=(c:Int)∧out[c]? = some ((i:Int),(k':Int),rd',pl',vl',(c:Int))∧k'<(dss.getD i []).length∧((dss.getD i []).getD k' zD).2.2.2=(g:Int)
theorem getD_setE (o:List Int)(g:Nat)(x:Int)(j:Nat)(hg:g<o.length):(o.set g x).getD j 0=if g=j then x else o.getD j 0:=by
 rw[List.getD_eq_getElem?_getD,List.getElem?_set];by_cases e:g=j
 · subst e;rw[if_pos rfl,if_pos hg,if_pos rfl];rfl
 · rw[if_neg e,if_neg e,List.getD_eq_getElem?_getD]
theorem oneE_first (i k:Nat)(d:Dd)(c:Int)(h4:d.1≠4):∃rd vl,(oneE i k d c)[0]? = some ((i:Int),(k:Int),rd,d.2.1,vl,c)∧(rd=true→vl=0)∧(rd=false→vl=d.2.2.1):=by
 unfold oneE;rw[if_neg h4];split
 · exact⟨true,0,rfl,by simp,by simp⟩
 ·
  split
  · exact⟨false,d.2.2.1,rfl,by simp,by simp⟩
  · exact⟨true,0,rfl,by simp,by simp⟩
theorem step_good {dss:List (List Dd)}{i k:Nat}{out:List Ev}{f:List Int}(hi:i<dss.length)(hk:k<(dss.getD i []).length)(hok:okD ((dss.getD i []).getD k zD)=true)
  (hG:∀j,3≤j→j<out.length→GoodE dss out j) (hF:FstOk dss i out f):
  (∀j,3≤j→j<(stepE i k ((dss.getD i []).getD k zD) (out,f)).1.length→GoodE dss (stepE i k ((dss.getD i []).getD k zD) (out,f)).1 j)∧FstOk dss i (stepE i k ((dss.getD i []).getD k zD) (out,f)).1 (stepE i k ((dss.getD i []).getD k zD) (out,f)).2:=by
 obtain⟨d,hd⟩:∃d,d=(dss.getD i []).getD k zD:=⟨_,rfl⟩;rw[←hd] at hok ⊢;by_cases h4:d.1=4
 · rw[stepE,if_pos h4];exact⟨hG,hF⟩
 rw[stepE,if_neg h4];dsimp only;obtain⟨r0,r1,r2,r3,r4⟩:=okD_restE hok;obtain⟨g,hg⟩:=Int.eq_ofNat_of_zero_le r2;obtain⟨hl,hf⟩:=hF
 have hcls:∃(c k':Nat) (rd':Bool) (pl' vl':Int),clsE d.2.2.2 out.length f=(c:Int)∧c≤out.length∧(out++oneE i k d (clsE d.2.2.2 out.length f))[c]? = some ((i:Int),(k':Int),rd',pl',vl',(c:Int))∧k'<(dss.getD i []).length ∧
   (c≠out.length→d.2.2.2≠0∧((dss.getD i []).getD k' zD).2.2.2=d.2.2.2)∧(c=out.length→k'=k):=by
  obtain⟨rd,vl,ho,_,_⟩:=oneE_first i k d (clsE d.2.2.2 out.length f) h4
  have new:clsE d.2.2.2 out.length f=(out.length:Int)→(out++oneE i k d (clsE d.2.2.2 out.length f))[out.length]? = some ((i:Int),(k:Int),rd,d.2.1,vl,((out.length:Nat):Int)):=fun e=>by
   rw[List.getElem?_append_right (Nat.le_refl _),Nat.sub_self,ho,e]
  by_cases hg0:g=0
  ·
   have e:clsE d.2.2.2 out.length f=(out.length:Int):=by unfold clsE;rw[hg,if_neg (by omega)]
   exact⟨out.length,k,rd,d.2.1,vl,e,Nat.le_refl _,new e,hk,fun h=>absurd rfl h,fun _=>rfl⟩
  ·
   have gp:(0:Int)<d.2.2.2:=by rw[hg];omega
   have g10:g<10:=by rw[hg] at r3;omega
   rcases hf g (by omega) g10 with h0|⟨c,k',rd',pl',vl',e1,e2,e3,e4⟩
   ·
    have e:clsE d.2.2.2 out.length f=(out.length:Int):=by
     unfold clsE fstE;rw[if_pos gp,hg,Int.toNat_natCast,if_pos ⟨by omega,h0⟩,getD_setE f g _ g (by omega),if_pos rfl]
    exact⟨out.length,k,rd,d.2.1,vl,e,Nat.le_refl _,new e,hk,fun h=>absurd rfl h,fun _=>rfl⟩
   ·
    have cl:c<out.length:=(List.getElem?_eq_some_iff.1 e2).1;by_cases hc0:(c:Int)=0
    ·
     have e:clsE d.2.2.2 out.length f=(out.length:Int):=by
      unfold clsE fstE;rw[if_pos gp,hg,Int.toNat_natCast,if_pos ⟨by omega,by rw[e1];exact hc0⟩,getD_setE f g _ g (by omega),if_pos rfl]
     exact⟨out.length,k,rd,d.2.1,vl,e,Nat.le_refl _,new e,hk,fun h=>absurd rfl h,fun _=>rfl⟩
    ·
     have e:clsE d.2.2.2 out.length f=(c:Int):=by
      unfold clsE fstE;rw[if_pos gp,hg,Int.toNat_natCast,if_neg (by rw[e1];omega),e1]
     exact⟨c,k',rd',pl',vl',e,by omega,at_left _ e2,e3,fun _=>⟨by omega,by rw[e4,hg]⟩,fun h=>by omega⟩
 obtain⟨c,k',rd',pl',vl',hc,hcl,hce,hk',hcg,hcn⟩:=hcls;rw[hc] at hce ⊢;refine⟨fun j hj3 hj=>?_,?_⟩
 ·
  by_cases hold:j<out.length
  · exact (hG j hj3 hold).more _
  ·
   have e1:(out++oneE i k d (c:Int))[j]? = (oneE i k d (c:Int))[j-out.length]?:=List.getElem?_append_right (by omega);have hjl:j-out.length<(oneE i k d (c:Int)).length:=by rw[List.length_append] at hj;omega
   have form:∃rd vl,(oneE i k d (c:Int))[j-out.length]? = some ((i:Int),(k:Int),rd,d.2.1,vl,(c:Int))∧(rd=true→vl=0)∧(rd=false→vl=d.2.2.1)∧(j≠out.length→d.1=3):=by
    by_cases hz:j-out.length=0
    ·
     obtain⟨rd,vl,ho,h5,h6⟩:=oneE_first i k d (c:Int) h4;exact⟨rd,vl,by rw[hz];exact ho,h5,h6,fun h=>by omega⟩
    ·
     unfold oneE at hjl ⊢;rw[if_neg h4] at hjl ⊢;split at hjl
     ·
      rename_i h3;rw[if_pos h3];have:j-out.length=1:=by simp at hjl;omega
      rw[this];exact⟨false,d.2.2.1,rfl,by simp,by simp,fun _=>h3⟩
     ·
      split at hjl
      · simp at hjl;omega
      · simp at hjl;omega
   obtain⟨rd,vl,h1,h5,h6,h7⟩:=form;refine⟨i,k,c,rd,vl,by rw[e1,←hd];exact h1,hi,hk,h5,by rw[←hd];exact h6,by omega,k',rd',pl',vl',hce,hk',fun hcj h3=>?_⟩;rw[←hd] at h3 ⊢
   have:j=out.length:=by
    apply Classical.byContradiction;intro hne;exact h3 (h7 hne)
   exact hcg (by omega)
 ·
  refine⟨by unfold fstE;split<;>simp[hl],fun q hq0 hq=>?_⟩
  have keepOld:f.getD q 0=0∨∃(c' k'':Nat) (rd'':Bool) (pl'' vl'':Int),f.getD q 0=(c':Int)∧(out++oneE i k d (c:Int))[c']? = some ((i:Int),(k'':Int),rd'',pl'',vl'',(c':Int))∧k''<(dss.getD i []).length∧((dss.getD i []).getD k'' zD).2.2.2=(q:Int):=by
   rcases hf q hq0 hq with h0|⟨c',k'',rd'',pl'',vl'',e1,e2,e3,e4⟩
   · exact .inl h0
   · exact .inr ⟨c',k'',rd'',pl'',vl'',e1,at_left _ e2,e3,e4⟩
  unfold fstE;split
  ·
   rename_i hcond;rw[hg,Int.toNat_natCast] at hcond ⊢;rw[getD_setE f g _ q (by rw[hg] at r3;omega)];by_cases e:g=q
   ·
    subst e;rw[if_pos rfl];right
    have ec:c=out.length:=by
     have:clsE d.2.2.2 out.length f=(out.length:Int):=by
      unfold clsE fstE;rw[if_pos (by rw[hg];exact hcond.1),hg,Int.toNat_natCast,if_pos hcond,getD_setE f g _ g (by rw[hg] at r3;omega),if_pos rfl]
     omega
    have ek:=hcn ec;subst ek;refine⟨out.length,k',rd',pl',vl',rfl,?_,hk',by rw[←hd,hg]⟩;rw[ec] at hce;rw[ec];exact hce
   · rw[if_neg e];exact keepOld
  · exact keepOld
theorem clk_good {dss:List (List Dd)}{i:Nat}{out:List Ev}(hi:i<dss.length)(hok:∀j,j<(dss.getD i []).length→okD ((dss.getD i []).getD j zD)=true)(hG:∀j,3≤j→j<out.length→GoodE dss out j):
  ∀k:Nat,k≤(dss.getD i []).length→(∃t,(clkE i (dss.getD i []) out k).1=out++t)∧(∀j,3≤j→j<(clkE i (dss.getD i []) out k).1.length→GoodE dss (clkE i (dss.getD i []) out k).1 j)∧FstOk dss i (clkE i (dss.getD i []) out k).1 (clkE i (dss.getD i []) out k).2
 | 0,_=>⟨⟨[],by simp[clkE]⟩,hG,by simp[clkE],fun g _ hg => .inl (by simp only[clkE];rw[List.getD_eq_getElem?_getD,List.getElem?_replicate,if_pos hg];rfl)⟩
 |k+1,h=>by
  obtain⟨⟨t,ht⟩,h2,h3⟩:=clk_good hi hok hG k (by omega);have:=step_good (k:=k) hi (by omega) (hok k (by omega)) h2 h3;refine⟨?_,this⟩;rw[clkE,stepE];split
  · exact⟨t,ht⟩
  · exact⟨t++oneE i k ((dss.getD i []).getD k zD) (clsE ((dss.getD i []).getD k zD).2.2.2 (clkE i (dss.getD i []) out k).1.length (clkE i (dss.getD i []) out k).2),by simp only;rw[ht,List.append_assoc]⟩
theorem evs_good {dss:List (List Dd)}(hok:∀i,i<dss.length→okL (dss.getD i [])=true):∀n:Nat,n≤dss.length→(∃t,evsW dss n=evBeg++t)∧∀j,3≤j→j<(evsW dss n).length→GoodE dss (evsW dss n) j
 | 0,_=>⟨⟨[],by simp[evsW]⟩,fun j h1 h2=>by simp[evsW,evBeg] at h2;omega⟩
 |n+1,h=>by
  obtain⟨⟨t,ht⟩,h2⟩:=evs_good hok n (by omega);have hn:=hok n (by omega);simp only[okL,Bool.and_eq_true,decide_eq_true_eq] at hn;obtain⟨⟨t2,ht2⟩,h3,_⟩:=clk_good (i:=n) (out:=evsW dss n) (by omega) (fun j hj=>all_get zD hn.1 j hj) h2 (dss.getD n []).length (Nat.le_refl _);rw[evsW];exact⟨⟨t++t2,by rw[ht2,ht,List.append_assoc]⟩,h3⟩
def rdE (e:Ev):Bool:=e.2.2.1
def toE (p:Int)(e:Ev):Bool:=!e.2.2.1&&(e.2.2.2.1==p)
def idxK (f:Ev→Bool)(l:List Ev):Nat→List Int
 | 0=>[]
 |k+1=>if f (l.getD k zE)=true then idxK f l k++[(k:Int)] else idxK f l k
def idxB (f:Ev→Bool)(l:List Ev):List Int:=if l.length≤12 then idxK f l l.length else []
def clsB (l:List Ev):List Int:=if l.length≤12 then l.map csE else []
theorem idxK_len (f:Ev→Bool)(l:List Ev):∀k:Nat,(idxK f l k).length≤k
 | 0=>by simp[idxK]
 |k+1=>by
  have ih:=idxK_len f l k;rw[idxK];split
  · simp;omega
  · omega
theorem idxK_lt (f:Ev→Bool)(l:List Ev):∀(k:Nat) (x:Int),x∈idxK f l k→0≤x∧x<(k:Int)
 | 0,x,h=>by simp[idxK] at h
 |k+1,x,h=>by
  rw[idxK] at h;split at h
  ·
   rcases List.mem_append.1 h with h|h
   · have:=idxK_lt f l k x h;omega
   · simp at h;omega
  · have:=idxK_lt f l k x h;omega
theorem idxK_rises (f:Ev→Bool)(l:List Ev):∀k:Nat,(idxK f l k).Pairwise (·<·)
 | 0=>by simp[idxK]
 |k+1=>by
  have ih:=idxK_rises f l k;rw[idxK];split
  ·
   rw[List.pairwise_append];refine⟨ih,by simp,fun a ha b hb=>?_⟩;simp at hb;have:=idxK_lt f l k a ha;omega
  · exact ih
theorem idxK_pre (f:Ev→Bool)(l:List Ev)(k:Nat):∀n:Nat,k≤n→∃t,idxK f l n=idxK f l k++t
 | 0,h=>by
  obtain rfl:k=0:=by omega
  exact⟨[],by simp⟩
 |n+1,h=>by
  by_cases e:k=n+1
  · subst e;exact⟨[],by simp⟩
  ·
   obtain⟨t,ht⟩:=idxK_pre f l k n (by omega);rw[idxK];split
   · exact⟨t++[(n:Int)],by rw[ht,List.append_assoc]⟩
   · exact⟨t,ht⟩
theorem idx_sum {l:List Ev}:∀k:Nat,(∀j,j<k→0≤(l.getD j zE).2.2.2.1∧(l.getD j zE).2.2.2.1≤2)→(idxK rdE l k).length+(idxK (toE 0) l k).length+(idxK (toE 1) l k).length+(idxK (toE 2) l k).length=k
 | 0,_=>by simp[idxK]
 |k+1,h=>by
  have ih:=idx_sum (l:=l) k (fun j hj=>h j (by omega));have hp:=h k (by omega);obtain⟨e,he⟩:∃e,e=l.getD k zE:=⟨_,rfl⟩;rw[←he] at hp;simp only[idxK,←he];clear he;obtain⟨a,b,r,p,v,c⟩:=e;simp only at hp;cases r
  ·
   have hr:rdE (a,b,false,p,v,c)=false:=rfl;have:p=0∨p=1∨p=2:=by omega
   rcases this with rfl|rfl|rfl
   ·
    have t0:toE 0 (a,b,false,0,v,c)=true:=rfl;have t1:toE 1 (a,b,false,0,v,c)=false:=rfl;have t2:toE 2 (a,b,false,0,v,c)=false:=rfl;simp only[hr,t0,t1,t2,if_true,Bool.false_eq_true,if_false,List.length_append,List.length_cons,List.length_nil];omega
   ·
    have t0:toE 0 (a,b,false,1,v,c)=false:=rfl;have t1:toE 1 (a,b,false,1,v,c)=true:=rfl;have t2:toE 2 (a,b,false,1,v,c)=false:=rfl;simp only[hr,t0,t1,t2,if_true,Bool.false_eq_true,if_false,List.length_append,List.length_cons,List.length_nil];omega
   ·
    have t0:toE 0 (a,b,false,2,v,c)=false:=rfl;have t1:toE 1 (a,b,false,2,v,c)=false:=rfl;have t2:toE 2 (a,b,false,2,v,c)=true:=rfl;simp only[hr,t0,t1,t2,if_true,Bool.false_eq_true,if_false,List.length_append,List.length_cons,List.length_nil];omega
  ·
   have hr:rdE (a,b,true,p,v,c)=true:=rfl;have t:∀q,toE q (a,b,true,p,v,c)=false:=fun _=>rfl
   simp only[hr,t,if_true,Bool.false_eq_true,if_false,List.length_append,List.length_cons,List.length_nil];omega
theorem beg_get {l t:List Ev}(h:l=evBeg++t):l.getD 0 zE=(-1,-1,false,0,0,0)∧l.getD 1 zE=(-1,-1,false,1,0,1)∧l.getD 2 zE=(-1,-1,false,2,0,2):=by
 subst h;exact⟨rfl,rfl,rfl⟩
theorem idx_first {l t:List Ev}(h:l=evBeg++t)(p:Nat)(hp:p<3):∃r,idxK (toE (p:Int)) l l.length=(p:Int)::r:=by
 obtain⟨h0,h1,h2⟩:=beg_get h;have hl:3≤l.length:=by rw[h];simp[evBeg]
 obtain⟨r,hr⟩:=idxK_pre (toE (p:Int)) l 3 l.length hl
 have e:∃q,idxK (toE (p:Int)) l 3=(p:Int)::q:=by
  have:p=0∨p=1∨p=2:=by omega
  simp only[idxK,h0,h1,h2,toE];rcases this with rfl|rfl|rfl
  · exact⟨[],by simp⟩
  · exact⟨[],by simp⟩
  · exact⟨[],by simp⟩
 obtain⟨q,hq⟩:=e;exact⟨q++r,by rw[hr,hq];rfl⟩
theorem good_place {dss:List (List Dd)}{out:List Ev}{j:Nat}(hok:∀i,i<dss.length→okL (dss.getD i [])=true)(h:GoodE dss out j):0≤(out.getD j zE).2.2.2.1∧(out.getD j zE).2.2.2.1≤2:=by
 obtain⟨i,k,c,rd,vl,h1,h2,h3,_⟩:=h;have hi:=hok i h2;simp only[okL,Bool.and_eq_true,decide_eq_true_eq] at hi;have:=okD_restE (all_get zD hi.1 k h3);rw[List.getD_eq_getElem?_getD,h1];exact⟨this.1,this.2.1⟩
theorem events_law {dss:List (List Dd)}(h:workB dss=true):(evsW dss dss.length).length≤12∧((evsW dss dss.length).length:Int)=3+evW dss dss.length ∧
  (idxK rdE (evsW dss dss.length) (evsW dss dss.length).length).length+(idxK (toE 0) (evsW dss dss.length) (evsW dss dss.length).length).length+(idxK (toE 1) (evsW dss dss.length) (evsW dss dss.length).length).length+(idxK (toE 2) (evsW dss dss.length) (evsW dss dss.length).length).length=(evsW dss dss.length).length ∧
  (∀p:Nat,p<3→∃r,idxK (toE (p:Int)) (evsW dss dss.length) (evsW dss dss.length).length=(p:Int)::r)∧∀j,3≤j→j<(evsW dss dss.length).length→GoodE dss (evsW dss dss.length) j:=by
 simp only[workB,Bool.and_eq_true,decide_eq_true_eq] at h;obtain⟨⟨⟨⟨h1,h2⟩,h3⟩,h4⟩,_⟩:=h;have hok:∀i,i<dss.length→okL (dss.getD i [])=true:=fun i hi=>all_get [] h2 i hi
 have hl:=evsW_len hok dss.length (Nat.le_refl _);obtain⟨⟨t,ht⟩,hg⟩:=evs_good hok dss.length (Nat.le_refl _);refine⟨by omega,hl,idx_sum _ (fun j hj=>?_),fun p hp=>idx_first ht p hp,hg⟩;by_cases hj3:3≤j
 · exact good_place hok (hg j hj3 hj)
 ·
  obtain⟨b0,b1,b2⟩:=beg_get ht;have:j=0∨j=1∨j=2:=by omega
  rcases this with rfl|rfl|rfl
  · rw[b0];decide
  · rw[b1];decide
  · rw[b2];decide
def plE (es:List Ev)(r:Int):Int:=(es.getD r.toNat zE).2.2.2.1
def chcK (es:List Ev)(rs:List Int):Nat→List (List Int)
 | 0=>[]
 |k+1=>chcK es rs k++[idxB (toE (plE es (rs.getD k 0))) es]
def chcL (es:List Ev):List (List Int):=chcK es (idxB rdE es) (idxB rdE es).length
theorem chcK_len (es:List Ev)(rs:List Int):∀k:Nat,(chcK es rs k).length=k
 | 0=>rfl
 |k+1=>by rw[chcK,List.length_append,chcK_len es rs k];rfl
theorem chcK_get (es:List Ev)(rs:List Int):∀(k i:Nat),i<k→(chcK es rs k).getD i []=idxB (toE (plE es (rs.getD i 0))) es
 | 0,i,h=>by omega
 |k+1,i,h=>by
  rw[chcK];by_cases hi:i<k
  · rw[List.getD_eq_getElem?_getD,List.getElem?_append_left (by rw[chcK_len];exact hi),←List.getD_eq_getElem?_getD,chcK_get es rs k i hi]
  ·
   obtain rfl:i=k:=by omega
   rw[List.getD_eq_getElem?_getD,List.getElem?_append_right (by rw[chcK_len];exact Nat.le_refl _),chcK_len];simp
def isB (l:List Int)(n:Int):Bool:=l.any (·==n)
def srcK (c:List (List Int))(from':List Int):Nat→Bool
 | 0=>true
 |k+1=>srcK c from' k&&isB (c.getD k []) (from'.getD k 0)
def srcB (c:List (List Int))(from':List Int):Bool:=decide (c.length=from'.length)&&srcK c from' c.length
def sourceB (dss:List (List Dd))(from':List Int):Bool:=workB dss&&srcB (chcL (eventsB dss)) from'
theorem srcK_false {c:List (List Int)}{f:List Int}{k:Nat}(h:srcK c f k=false):∀n:Nat,k≤n→srcK c f n=false
 | 0,hn=>by
  obtain rfl:k=0:=by omega
  exact h
 |n+1,hn=>by
  by_cases e:k=n+1
  · rw[←e];exact h
  · rw[srcK,srcK_false h n (by omega)];rfl
theorem srcK_iff {c:List (List Int)}{f:List Int}:∀k:Nat,srcK c f k=true↔∀i,i<k→isB (c.getD i []) (f.getD i 0)=true
 | 0=>by simp[srcK]
 |k+1=>by
  rw[srcK,Bool.and_eq_true,srcK_iff k];constructor
  ·
   rintro⟨h1,h2⟩ i hi;by_cases e:i=k
   · subst e;exact h2
   · exact h1 i (by omega)
  ·
   intro h;exact⟨fun i hi=>h i (by omega),h k (by omega)⟩
theorem nodup_get {l:List Int}(hn:l.Nodup){p q:Nat}(hp:p<l.length)(hq:q<l.length)(e:l.getD p 0=l.getD q 0):p=q:=by
 rw[List.getD_eq_getElem?_getD,List.getElem?_eq_getElem hp,List.getD_eq_getElem?_getD,List.getElem?_eq_getElem hq] at e;exact (List.getElem_inj hn).1 e
def plcW (es:List Ev)(p:Nat):List Int:=idxB (toE (p:Int)) es
def okP (rows:List Int)(at0:Nat)(p:List Int)(i:Nat):Bool:=decide (at0+p.length≤rows.length)&&(rows.getD at0 0==(i:Int))&&p.all (fun x=>isB ((rows.drop at0).take p.length) x)
def rowsL (es:List Ev)(rows:List Int):Bool:=
 okP rows 0 (plcW es 0) 0&&okP rows (plcW es 0).length (plcW es 1) 1&&okP rows ((plcW es 0).length+(plcW es 1).length) (plcW es 2) 2&&decide ((plcW es 0).length+(plcW es 1).length+(plcW es 2).length=rows.length)
def rowsB (dss:List (List Dd))(rows:List Int):Bool:=workB dss&&rowsL (eventsB dss) rows
theorem place_in {dss:List (List Dd)}(h:workB dss=true)(j:Nat)(hj:j<(evsW dss dss.length).length):0≤((evsW dss dss.length).getD j zE).2.2.2.1∧((evsW dss dss.length).getD j zE).2.2.2.1≤2:=by
 simp only[workB,Bool.and_eq_true,decide_eq_true_eq] at h;obtain⟨⟨⟨⟨_,h2⟩,_⟩,_⟩,_⟩:=h;have hok:∀i,i<dss.length→okL (dss.getD i [])=true:=fun i hi=>all_get [] h2 i hi
 obtain⟨⟨t,ht⟩,hg⟩:=evs_good hok dss.length (Nat.le_refl _);by_cases hj3:3≤j
 · exact good_place hok (hg j hj3 hj)
 ·
  obtain⟨b0,b1,b2⟩:=beg_get ht;have:j=0∨j=1∨j=2:=by omega
  rcases this with rfl|rfl|rfl
  · rw[b0];decide
  · rw[b1];decide
  · rw[b2];decide
theorem ret_bool {a b:Bool}(h:a=b):Ending.returned (.bool a) = .returned (.bool b):=by rw[h]
theorem ret_int {k:IntKind}{a b:Int}(h:a=b):Ending.returned (.int k a) = .returned (.int k b):=by rw[h]
theorem ofInt_i64 (a:Nat)(ha:a<9223372036854775808):(BitVec.ofInt 64 (a:Int)).toNat=a:=ofInt_u64 a (by omega)
theorem i64_or_nat (a b:Nat)(ha:a<9223372036854775808)(hb:b<9223372036854775808):bits .or .i64 (a:Int) (b:Int)=((a ||| b:Nat):Int):=by
 have hx:a ||| b<2 ^ 63:=Nat.or_lt_two_pow (by omega) (by omega);show IntKind.i64.wrap ((BitVec.ofInt 64 (a:Int) ||| BitVec.ofInt 64 (b:Int)).toNat:Int)=_;rw[BitVec.toNat_or,ofInt_i64 a ha,ofInt_i64 b hb,IntKind.wrap_i64];omega
theorem i64_and_nat (a b:Nat)(ha:a<9223372036854775808)(hb:b<9223372036854775808):bits .and .i64 (a:Int) (b:Int)=((a &&& b:Nat):Int):=by
 have hx:a &&& b<2 ^ 63:=Nat.and_lt_two_pow _ (by omega);show IntKind.i64.wrap ((BitVec.ofInt 64 (a:Int) &&& BitVec.ofInt 64 (b:Int)).toNat:Int)=_;rw[BitVec.toNat_and,ofInt_i64 a ha,ofInt_i64 b hb,IntKind.wrap_i64];omega
theorem pow_le12 (n:Nat)(h:n≤12):(2:Int) ^ n≤4096∧(1:Int)≤2 ^ n:=by
 have:n=0∨n=1∨n=2∨n=3∨n=4∨n=5∨n=6∨n=7∨n=8∨n=9∨n=10∨n=11∨n=12:=by omega
 rcases this with rfl|rfl|rfl|rfl|rfl|rfl|rfl|rfl|rfl|rfl|rfl|rfl|rfl<;>decide
theorem wrap64_small (x:Int)(h1:-9223372036854775808≤x)(h2:x≤9223372036854775807):wrap64 x=x:=by
 simp only[wrap64];omega
theorem wrap64_pow (n:Int)(h0:0≤n)(h:n≤12):wrap64 (2 ^ n.toNat)=2 ^ n.toNat:=by
 have:=pow_le12 n.toNat (by omega);exact wrap64_small _ (by omega) (by omega)
def inB (x lo hi:Int):Bool:=decide (lo≤x∧x≤hi)
def okB (n s:Int):Bool:=decide ((0≤n∧n≤12)∧0≤s∧s<2 ^ n.toNat)
def bitB (s i:Int):Bool:=bits .and .i64 (s / 2 ^ i.toNat) 1==1
def inSetB (s i:Int):Bool:=inB i 0 11&&inB s 0 4095&&bitB s i
def mem (s:Int):Nat→List Int
 | 0=>[]
 |k+1=>mem s k++(if inSetB s k=true then [(k:Int)] else [])
def gAdd (s i:Int):Int:=if s=-1∨inB i 0 11=false then -1 else bits .or .i64 s (wrap64 (2 ^ i.toNat))
theorem mem_len (s:Int)(k:Nat):(mem s k).length≤k:=by
 induction k with
 |zero=>simp[mem]
 |succ k ih=>unfold mem;split<;>simp<;>omega
theorem gAdd_bad (s i:Int)(h:inB i 0 11=false):gAdd s i=-1:=by simp[gAdd,h]
theorem gAdd_none (i:Int):gAdd (-1) i=-1:=by simp[gAdd]
theorem gAdd_ok (s i:Int)(h0:0≤s)(h:inB i 0 11=true):gAdd s i=bits .or .i64 s (wrap64 (2 ^ i.toNat)):=by
 have:¬s=-1:=by omega
 simp[gAdd,h,this]
theorem take_snoc (l:List Int)(k:Nat)(h:k<l.length):l.take (k+1)=l.take k++[l.getD k 0]:=by
 rw[List.take_succ_eq_append_getElem h,List.getD_eq_getElem?_getD,List.getElem?_eq_getElem h];rfl
theorem bitB_nat (a i:Nat)(ha:a<4096):bitB (a:Int) (i:Int)=a.testBit i:=by
 unfold bitB;have hd:a / 2 ^ i≤a:=Nat.div_le_self _ _;have e:((a:Int) / 2 ^ (i:Int).toNat)=((a / 2 ^ i:Nat):Int):=by simp
 rw[e,show (1:Int)=((1:Nat):Int) from rfl,i64_and_nat _ _ (by omega) (by omega),Nat.and_one_is_mod,Nat.testBit_eq_decide_div_mod_eq];generalize a / 2 ^ i % 2=r;rw[Bool.eq_iff_iff,beq_iff_eq,decide_eq_true_eq];omega
theorem inSetB_nat (a i:Nat)(ha:a<4096)(hi:i<12):inSetB (a:Int) (i:Int)=a.testBit i:=by
 have h1:inB (i:Int) 0 11=true:=by unfold inB;simp;omega
 have h2:inB (a:Int) 0 4095=true:=by unfold inB;simp;omega
 simp[inSetB,h1,h2,bitB_nat a i ha]
theorem gAdd_nat (a i:Nat)(ha:a<4096)(hi:i<12):gAdd (a:Int) (i:Int)=((a ||| 2 ^ i:Nat):Int):=by
 have h1:inB (i:Int) 0 11=true:=by unfold inB;simp;omega
 rw[gAdd_ok _ _ (by omega) h1,wrap64_pow _ (by omega) (by omega)];have hq:(2:Nat) ^ i<2 ^ 12:=Nat.pow_lt_pow_right (by omega) hi;have e:((2:Int) ^ (i:Int).toNat)=((2 ^ i:Nat):Int):=by simp
 rw[e,i64_or_nat a _ (by omega) (by omega)]
theorem or_lt (a i:Nat)(ha:a<4096)(hi:i<12):a ||| 2 ^ i<4096:=by
 have hq:(2:Nat) ^ i<2 ^ 12:=Nat.pow_lt_pow_right (by omega) hi;exact Nat.or_lt_two_pow (n:=12) ha hq
theorem mem_iff (s:Int)(n:Nat)(x:Int):x∈mem s n↔∃k:Nat,k<n∧x=k∧inSetB s k=true:=by
 induction n with
 |zero=>simp[mem]
 |succ n ih=>
  unfold mem;rw[List.mem_append,ih];constructor
  ·
   rintro (⟨k,hk,rfl,h⟩|h)
   · exact⟨k,by omega,rfl,h⟩
   ·
    split at h
    ·
     rename_i hs;simp at h;exact⟨n,by omega,h,hs⟩
    · simp at h
  ·
   rintro⟨k,hk,rfl,h⟩;by_cases hkn:k=n
   · subst hkn;right;simp[h]
   · exact .inl ⟨k,by omega,rfl,h⟩
def webB (zs:List Int):Bool:=zs.all (okB zs.length)
def twoB (a b:List Int):Bool:=decide (a.length=b.length)&&webB a&&webB b
def mixL (f:Int→Int→Int)(a b:List Int):List Int:=if twoB a b=true then List.zipWith f a b else []
def orI (a b:Int):Int:=bits .or .i64 a b
def notI (a b:Int):Int:=bits .andNot .i64 a b
def thenS (x:Int)(b:List Int):Nat→Int
 | 0=>0
 |k+1=>if inSetB x k=true then orI (thenS x b k) (b.getD k 0) else thenS x b k
def thenL (a b:List Int):List Int:=if twoB a b=true then a.map (fun x=>thenS x b 12) else []
def wayIn (k:Nat)(st:List Int):Nat→List Int
 | 0=>st
 |i+1=>if inSetB ((wayIn k st i).getD i 0) k=true then (wayIn k st i).set i (orI ((wayIn k st i).getD i 0) ((wayIn k st i).getD k 0)) else wayIn k st i
def wayAll (zs:List Int):Nat→List Int
 | 0=>zs
 |k+1=>wayIn k (wayAll zs k) zs.length
def waysL (zs:List Int):List Int:=if webB zs=true then wayAll zs zs.length else []
theorem getD_mem {zs:List Int}{i:Nat}(h:i<zs.length):zs.getD i 0∈zs:=by
 rw[List.getD_eq_getElem?_getD,List.getElem?_eq_getElem h];exact List.getElem_mem h
theorem webB_all {zs:List Int}(h:∀i,i<zs.length→okB zs.length (zs.getD i 0)=true):webB zs=true:=by
 unfold webB;rw[List.all_eq_true];intro x hx;obtain⟨i,hi,rfl⟩:=List.getElem_of_mem hx;have:=h i hi
 rwa [List.getD_eq_getElem?_getD,List.getElem?_eq_getElem hi] at this
theorem webB_get {zs:List Int}(h:webB zs=true){i:Nat}(hi:i<zs.length):okB zs.length (zs.getD i 0)=true:=by
 unfold webB at h;rw[List.all_eq_true] at h;exact h _ (getD_mem hi)
theorem webB_bad {zs:List Int}{i:Nat}(hi:i<zs.length)(h:okB zs.length (zs.getD i 0)=false):webB zs=false:=by
 cases hw:webB zs with
 |false=>rfl
 |true=>rw[webB_get hw hi] at h;cases h
theorem okB_iff {n s:Int}:okB n s=true↔(0≤n∧n≤12)∧0≤s∧s<2 ^ n.toNat:=by unfold okB;rw[decide_eq_true_eq]
theorem webB_len {zs:List Int}(h:webB zs=true):zs.length≤12:=by
 by_cases h0:zs.length=0
 · omega
 · have:=okB_iff.1 (webB_get h (i:=0) (by omega));omega
theorem okB_range {n s:Int}(h:okB n s=true):0≤s∧s≤4095:=by
 have h1:=okB_iff.1 h;have:=pow_le12 n.toNat (by omega);omega
theorem twoB_iff {a b:List Int}:twoB a b=true↔a.length=b.length∧webB a=true∧webB b=true:=by
 unfold twoB;rw[Bool.and_eq_true,Bool.and_eq_true,decide_eq_true_eq,and_assoc]
theorem inSetB_bit {s:Int}{k:Nat}(h:0≤s∧s≤4095)(hk:k<12):inSetB s k=bitB s k:=by
 have h1:inB (k:Int) 0 11=true:=by unfold inB;simp;omega
 have h2:inB s 0 4095=true:=by unfold inB;simp;omega
 simp[inSetB,h1,h2]
theorem okB_nat {n:Nat}{s:Int}(h:okB n s=true):n≤12∧∃a:Nat,s=a∧a<2 ^ n∧a<4096:=by
 have h1:=okB_iff.1 h;have h2:=okB_range h;obtain⟨a,rfl⟩:=Int.eq_ofNat_of_zero_le h2.1;refine⟨by omega,a,rfl,?_,by omega⟩;have:=h1.2.2;simp at this
 exact_mod_cast this
theorem okB_of_nat {n a:Nat}(hn:n≤12)(ha:a<2 ^ n):okB n a=true:=by
 rw[okB_iff];refine⟨by omega,by omega,?_⟩;simp
 exact_mod_cast ha
theorem inSetB_iff {n:Nat}{s:Int}(h:okB n s=true){j:Nat}(hj:inSetB s j=true):j<n:=by
 obtain⟨hn,a,rfl,ha,h12⟩:=okB_nat h
 have hj12:j<12:=by
  have:inB (j:Int) 0 11=true:=by unfold inSetB at hj;simp at hj;exact hj.1.1
  unfold inB at this;simp at this;omega
 rw[inSetB_nat a j h12 hj12] at hj;apply Classical.byContradiction;intro hnj;have hp:(2:Nat) ^ n≤2 ^ j:=Nat.pow_le_pow_right (by omega) (by omega);rw[Nat.testBit_lt_two_pow (by omega)] at hj;cases hj
theorem inSetB_far (s:Int){j:Nat}(hj:12≤j):inSetB s j=false:=by
 have:inB (j:Int) 0 11=false:=by unfold inB;simp;omega
 simp[inSetB,this]
theorem ok_ext {n:Nat}{s t:Int}(hs:okB n s=true)(ht:okB n t=true)(h:∀j:Nat,j<n→inSetB s j=inSetB t j):s=t:=by
 obtain⟨hn,a,rfl,ha,ha'⟩:=okB_nat hs;obtain⟨_,b,rfl,hb,hb'⟩:=okB_nat ht
 congr 1
 apply Nat.eq_of_testBit_eq;intro j;by_cases hj:j<n
 ·
  have:=h j hj
  rwa [inSetB_nat a j ha' (by omega),inSetB_nat b j hb' (by omega)] at this
 ·
  have hp:(2:Nat) ^ n≤2 ^ j:=Nat.pow_le_pow_right (by omega) (by omega);rw[Nat.testBit_lt_two_pow (by omega),Nat.testBit_lt_two_pow (by omega)]
theorem ok_zero {n:Nat}(hn:n≤12):okB n 0=true:=okB_of_nat (a:=0) hn (Nat.two_pow_pos n)
theorem zero_bit (j:Nat):inSetB 0 j=false:=by
 by_cases hj:j<12
 · rw[show (0:Int)=((0:Nat):Int) from rfl,inSetB_nat 0 j (by omega) hj,Nat.zero_testBit]
 · exact inSetB_far _ (by omega)
theorem i64_andNot_nat (a b:Nat)(ha:a<9223372036854775808)(hb:b<9223372036854775808):bits .andNot .i64 (a:Int) (b:Int)=((a &&& (18446744073709551615-b):Nat):Int):=by
 have hx:a &&& (18446744073709551615-b)≤a:=Nat.and_le_left;show IntKind.i64.wrap ((BitVec.ofInt 64 (a:Int) &&& ~~~ BitVec.ofInt 64 (b:Int)).toNat:Int)=_;rw[BitVec.toNat_and,BitVec.toNat_not,ofInt_i64 a ha,ofInt_i64 b hb,IntKind.wrap_i64,show (2:Nat) ^ 64-1-b=18446744073709551615-b from rfl];omega
theorem ok_or {n:Nat}{s t:Int}(hs:okB n s=true)(ht:okB n t=true):okB n (orI s t)=true∧∀j:Nat,inSetB (orI s t) j=(inSetB s j||inSetB t j):=by
 obtain⟨hn,a,rfl,ha,ha'⟩:=okB_nat hs;obtain⟨_,b,rfl,hb,hb'⟩:=okB_nat ht;have e:orI (a:Int) (b:Int)=((a ||| b:Nat):Int):=i64_or_nat a b (by omega) (by omega);have hl:a ||| b<2 ^ n:=Nat.or_lt_two_pow ha hb;have hl':a ||| b<4096:=Nat.or_lt_two_pow (n:=12) ha' hb';rw[e];refine⟨okB_of_nat hn hl,fun j=>?_⟩;by_cases hj:j<12
 · rw[inSetB_nat _ j hl' hj,inSetB_nat _ j ha' hj,inSetB_nat _ j hb' hj,Nat.testBit_or]
 · rw[inSetB_far _ (by omega),inSetB_far _ (by omega),inSetB_far _ (by omega)];rfl
theorem ok_not {n:Nat}{s t:Int}(hs:okB n s=true)(ht:okB n t=true):okB n (notI s t)=true∧∀j:Nat,inSetB (notI s t) j=(inSetB s j&&!inSetB t j):=by
 obtain⟨hn,a,rfl,ha,ha'⟩:=okB_nat hs;obtain⟨_,b,rfl,hb,hb'⟩:=okB_nat ht;have e:notI (a:Int) (b:Int)=((a &&& (18446744073709551615-b):Nat):Int):=i64_andNot_nat a b (by omega) (by omega);have hl:a &&& (18446744073709551615-b)≤a:=Nat.and_le_left;rw[e];refine⟨okB_of_nat hn (by omega),fun j=>?_⟩;by_cases hj:j<12
 ·
  have h2:(18446744073709551615-b).testBit j=!b.testBit j:=by
   have e2:18446744073709551615-b=2 ^ 64-(b+1):=by omega
   rw[e2,Nat.testBit_two_pow_sub_succ (by omega)];have:j<64:=by omega
   simp[this]
  rw[inSetB_nat _ j (by omega) hj,inSetB_nat _ j ha' hj,inSetB_nat _ j hb' hj,Nat.testBit_and,h2]
 · rw[inSetB_far _ (by omega),inSetB_far _ (by omega),inSetB_far _ (by omega)];rfl
theorem ok_add {n:Nat}{s:Int}(hs:okB n s=true){i:Nat}(hi:i<n):okB n (gAdd s i)=true∧∀j:Nat,inSetB (gAdd s i) j=(inSetB s j||decide (i=j)):=by
 obtain⟨hn,a,rfl,ha,ha'⟩:=okB_nat hs;rw[gAdd_nat a i ha' (by omega)];have hp:(2:Nat) ^ i<2 ^ n:=Nat.pow_lt_pow_right (by omega) hi;have hl:a ||| 2 ^ i<2 ^ n:=Nat.or_lt_two_pow ha hp;refine⟨okB_of_nat hn hl,fun j=>?_⟩;by_cases hj:j<12
 · rw[inSetB_nat _ j (or_lt a i ha' (by omega)) hj,inSetB_nat _ j ha' hj,Nat.testBit_or,Nat.testBit_two_pow]
 ·
  have:¬i=j:=by omega
  rw[inSetB_far _ (by omega),inSetB_far _ (by omega)];simp[this]
def Web (n:Nat)(zs:List Int):Prop:=n≤12∧zs.length=n∧∀i,i<n→okB n (zs.getD i 0)=true
theorem web_iff {zs:List Int}:webB zs=true↔Web zs.length zs:=by
 constructor
 · intro h;exact⟨webB_len h,rfl,fun i hi=>webB_get h hi⟩
 · intro h;exact webB_all h.2.2
theorem Web.b {n:Nat}{zs:List Int}(h:Web n zs):webB zs=true:=by
 obtain⟨h1,rfl,h2⟩:=h;exact web_iff.2 ⟨h1,rfl,h2⟩
theorem list_ext {n:Nat}{a b:List Int}(ha:a.length=n)(hb:b.length=n)(h:∀i,i<n→a.getD i 0=b.getD i 0):a=b:=by
 apply List.ext_getElem (by omega);intro i h1 h2;have:=h i (by omega);rw[List.getD_eq_getElem?_getD,List.getD_eq_getElem?_getD,List.getElem?_eq_getElem h1,List.getElem?_eq_getElem h2] at this;exact this
def line (zs:List Int)(i j:Nat):Bool:=inSetB (zs.getD i 0) j
theorem Web.ext {n:Nat}{a b:List Int}(ha:Web n a)(hb:Web n b)(h:∀i j,i<n→j<n→line a i j=line b i j):a=b:=
 list_ext ha.2.1 hb.2.1 fun i hi=>ok_ext (ha.2.2 i hi) (hb.2.2 i hi) fun j hj=>h i j hi hj
theorem Web.lt {n:Nat}{a:List Int}(ha:Web n a){i j:Nat}(hi:i<n)(h:line a i j=true):j<n:=inSetB_iff (ha.2.2 i hi) h
theorem getD_set (zs:List Int)(i j:Nat)(x:Int)(hi:i<zs.length):(zs.set i x).getD j 0=if i=j then x else zs.getD j 0:=by
 rw[List.getD_eq_getElem?_getD,List.getD_eq_getElem?_getD,List.getElem?_set];by_cases h:i=j
 · subst h;simp[hi]
 · simp[h]
theorem Web.set {n:Nat}{a:List Int}(ha:Web n a){i:Nat}{x:Int}(hx:okB n x=true):Web n (a.set i x):=by
 obtain⟨h1,h2,h3⟩:=ha;refine⟨h1,by simp[h2],fun j hj=>?_⟩;by_cases hi:i<a.length
 ·
  rw[getD_set a i j x hi];split
  · exact hx
  · exact h3 j hj
 · rw[List.set_eq_of_length_le (by omega)];exact h3 j hj
theorem Web.zero {n:Nat}(hn:n≤12):Web n (List.replicate n 0):=by
 refine⟨hn,by simp,fun i hi=>?_⟩;rw[List.getD_eq_getElem?_getD,List.getElem?_replicate,if_pos hi];exact ok_zero hn
theorem line_zero (n i j:Nat):line (List.replicate n 0) i j=false:=by
 unfold line;rw[List.getD_eq_getElem?_getD,List.getElem?_replicate];split<;>exact zero_bit j
def thenF (b:List Int)(s k:Int):Int:=orI s (b.getD k.toNat 0)
theorem thenS_fold (x:Int)(b:List Int)(k:Nat):(mem x k).foldl (thenF b) 0=thenS x b k:=by
 induction k with
 |zero=>rfl
 |succ k ih=>
  unfold mem thenS;rw[List.foldl_append,ih]
  cases inSetB x k with
  |false=>rfl
  |true=>simp[thenF]
theorem ok_then {n:Nat}{x:Int}{b:List Int}(hx:okB n x=true)(hb:Web n b)(m:Nat):okB n (thenS x b m)=true∧∀j:Nat,inSetB (thenS x b m) j=true↔∃k,k<m∧inSetB x k=true∧line b k j=true:=by
 induction m with
 |zero=>exact⟨ok_zero hb.1,fun j=>by rw[show thenS x b 0=0 from rfl,zero_bit];simp⟩
 |succ m ih=>
  unfold thenS
  cases hm:inSetB x m with
  |false=>
   refine⟨by simpa using ih.1,fun j=>?_⟩;simp only[Bool.false_eq_true,if_false];rw[ih.2 j];constructor
   · rintro⟨k,hk,h1,h2⟩;exact⟨k,by omega,h1,h2⟩
   ·
    rintro⟨k,hk,h1,h2⟩;refine⟨k,?_,h1,h2⟩;have:k≠m:=fun e=>by subst e;rw[hm] at h1;cases h1
    omega
  |true=>
   have hmn:=inSetB_iff hx hm;have ho:=ok_or ih.1 (hb.2.2 m hmn);refine⟨by simpa using ho.1,fun j=>?_⟩;simp only[if_true];rw[ho.2 j,Bool.or_eq_true,ih.2 j];constructor
   ·
    rintro (⟨k,hk,h1,h2⟩|h)
    · exact⟨k,by omega,h1,h2⟩
    · exact⟨m,by omega,hm,h⟩
   ·
    rintro⟨k,hk,h1,h2⟩;by_cases e:k=m
    · subst e;exact .inr h2
    · exact .inl ⟨k,by omega,h1,h2⟩
theorem wayIn_len (k:Nat)(st:List Int)(i:Nat):(wayIn k st i).length=st.length:=by
 induction i with
 |zero=>rfl
 |succ i ih=>unfold wayIn;split<;>simp[ih]
theorem web_wayIn {n k:Nat}{st:List Int}(hk:k<n)(hst:Web n st)(m:Nat)(hm:m≤n):
  Web n (wayIn k st m)∧∀i j:Nat,i<n→line (wayIn k st m) i j=(line st i j||(decide (i<m)&&line st i k&&line st k j)):=by
 induction m with
 |zero=>exact⟨hst,fun i j _=>by simp[wayIn]⟩
 |succ m ih=>
  have ih:=ih (by omega);have hmn:m<n:=by omega
  have hkk:∀j,line (wayIn k st m) k j=line st k j:=by
   intro j;rw[ih.2 k j hk];cases line st k j<;>simp
  have hmk:line (wayIn k st m) m k=line st m k:=by rw[ih.2 m k hmn];simp
  have hmj:∀j,line (wayIn k st m) m j=line st m j:=by intro j;rw[ih.2 m j hmn];simp
  unfold wayIn
  cases hb:inSetB ((wayIn k st m).getD m 0) k with
  |false=>
   have hb':line st m k=false:=by rw[←hmk];exact hb
   refine⟨by simpa using ih.1,fun i j hi=>?_⟩;simp only[Bool.false_eq_true,if_false];rw[ih.2 i j hi];by_cases e:i=m
   · subst e;simp[hb']
   ·
    have:(i<m+1)↔i<m:=by omega
    simp[this]
  |true=>
   have hb':line st m k=true:=by rw[←hmk];exact hb
   have ho:=ok_or (ih.1.2.2 m hmn) (ih.1.2.2 k hk);refine⟨by simpa using ih.1.set ho.1,fun i j hi=>?_⟩;simp only[if_true];have e1:=ih.2 i j hi;have e2:=hkk j;have e3:=hmj j;unfold line at e1 e2 e3 ⊢;rw[getD_set _ _ _ _ (by rw[ih.1.2.1];exact hmn)];by_cases e:m=i
   ·
    subst e;simp only[if_true];rw[ho.2 j,e2,e3];unfold line at hb';rw[hb'];simp
   ·
    have:(i<m+1)↔i<m:=by omega
    simp only[e,if_false];rw[e1];simp[this]
theorem web_wayAll {n:Nat}{zs:List Int}(hz:Web n zs)(m:Nat)(hm:m≤n):Web n (wayAll zs m):=by
 induction m with
 |zero=>exact hz
 |succ m ih=>
  show Web n (wayIn m (wayAll zs m) zs.length);rw[hz.2.1];exact (web_wayIn (by omega) (ih (by omega)) n (Nat.le_refl _)).1
def fwK (n:Nat)(rs f:List Int):Nat→List Int
 | 0=>List.replicate n 0
 |k+1=>(fwK n rs f k).set (f.getD k 0).toNat (gAdd ((fwK n rs f k).getD (f.getD k 0).toNat 0) (rs.getD k 0))
def fwL (es:List Ev)(f:List Int):List Int:=fwK es.length (idxB rdE es) f (idxB rdE es).length
theorem fw_line {n:Nat}{rs f:List Int}(hn:n≤12):∀k:Nat,(∀i,i<k→0≤rs.getD i 0∧rs.getD i 0<(n:Int))→(∀i,i<k→0≤f.getD i 0∧f.getD i 0<(n:Int)) →
  Web n (fwK n rs f k)∧∀a j:Nat,a<n→(line (fwK n rs f k) a j=true↔∃i,i<k∧f.getD i 0=(a:Int)∧rs.getD i 0=(j:Int))
 | 0,_,_=>⟨Web.zero hn,fun a j _=>by rw[fwK,line_zero];simp⟩
 |k+1,hr,hf=>by
  obtain⟨h1,h2⟩:=fw_line hn k (fun i hi=>hr i (by omega)) (fun i hi=>hf i (by omega));obtain⟨a0,ha0⟩:=Int.eq_ofNat_of_zero_le (hf k (by omega)).1;obtain⟨j0,hj0⟩:=Int.eq_ofNat_of_zero_le (hr k (by omega)).1;have ha:a0<n:=by have:=(hf k (by omega)).2;omega
  have hj:j0<n:=by have:=(hr k (by omega)).2;omega
  rw[fwK,ha0,hj0,Int.toNat_natCast];have hg:=ok_add (h1.2.2 a0 ha) hj;refine⟨h1.set hg.1,fun a j haa=>?_⟩;unfold line;rw[getD_set _ _ _ _ (by rw[h1.2.1];exact ha)];by_cases e:a0=a
  ·
   subst e;rw[if_pos rfl,hg.2 j,Bool.or_eq_true,decide_eq_true_eq];have:=h2 a0 j haa;unfold line at this;rw[this];constructor
   ·
    rintro (⟨i,hi,h⟩|rfl)
    · exact⟨i,by omega,h⟩
    · exact⟨k,by omega,ha0,hj0⟩
   ·
    rintro⟨i,hi,h3,h4⟩;by_cases e2:i=k
    · subst e2;right;rw[hj0] at h4;omega
    · exact .inl ⟨i,by omega,h3,h4⟩
  ·
   rw[if_neg e];have:=h2 a j haa;unfold line at this;rw[this];constructor
   ·
    rintro⟨i,hi,h⟩;exact⟨i,by omega,h⟩
   ·
    rintro⟨i,hi,h3,h4⟩;by_cases e2:i=k
    · subst e2;rw[ha0] at h3;omega
    · exact⟨i,by omega,h3,h4⟩
theorem isB_mem {l:List Int}{n:Int}(h:isB l n=true):n∈l:=by
 unfold isB at h;rw[List.any_eq_true] at h;obtain⟨x,hx,e⟩:=h;rw[beq_iff_eq] at e;rw[←e];exact hx
theorem idxK_mem (f:Ev→Bool)(l:List Ev):∀(k:Nat) (x:Int),x∈idxK f l k→f (l.getD x.toNat zE)=true
 | 0,x,h=>by simp[idxK] at h
 |k+1,x,h=>by
  rw[idxK] at h;split at h
  ·
   rename_i hf;rcases List.mem_append.1 h with h|h
   · exact idxK_mem f l k x h
   ·
    simp only[List.mem_cons,List.not_mem_nil,or_false] at h;rw[h,Int.toNat_natCast];exact hf
  · exact idxK_mem f l k x h
theorem src_use {es:List Ev}{f:List Int}(hx:es.length≤12)(h:srcB (chcL es) f=true):(idxB rdE es).length=f.length ∧
  ∀i,i<(idxB rdE es).length→(0≤f.getD i 0∧f.getD i 0<(es.length:Int))∧(es.getD (f.getD i 0).toNat zE).2.2.2.1=plE es ((idxB rdE es).getD i 0):=by
 unfold srcB at h;rw[Bool.and_eq_true,decide_eq_true_eq] at h;obtain⟨h1,h2⟩:=h;have hc:(chcL es).length=(idxB rdE es).length:=chcK_len _ _ _;refine⟨by omega,fun i hi=>?_⟩;have h3:=(srcK_iff (chcL es).length).1 h2 i (by omega);unfold chcL at h3;rw[chcK_get _ _ _ _ hi] at h3;have h4:=isB_mem h3;unfold idxB at h4;rw[if_pos hx] at h4;have h5:=idxK_lt _ _ _ _ h4;have h6:=idxK_mem _ _ _ _ h4;refine⟨h5,?_⟩;unfold toE at h6;simp only[Bool.and_eq_true,beq_iff_eq] at h6;rw[h6.2];unfold idxB;rw[if_pos hx]
def fwB (dss:List (List Dd))(f:List Int):List Int:=if sourceB dss f=true then fwL (eventsB dss) f else []
theorem perm_of:∀ {p b:List Int},p.Nodup→(∀x∈p,x∈b)→b.length≤p.length→p.Perm b
 | [],b,_,_,hl=>by
  have:b=[]:=List.eq_nil_of_length_eq_zero (by simpa using hl);subst this;exact List.Perm.refl _
 |x::t,b,hn,hs,hl=>by
  have hx:=hs x (by simp);rw[List.nodup_cons] at hn;have hb:(b.erase x).length=b.length-1:=List.length_erase_of_mem hx
  have ih:=perm_of (p:=t) (b:=b.erase x) hn.2 (fun y hy=>by
   have h1:=hs y (by simp[hy])
   exact (List.mem_erase_of_ne (fun e=>hn.1 (by rw[←e];exact hy))).2 h1) (by rw[hb];simp only[List.length_cons] at hl;omega)
  exact (List.Perm.cons x ih).trans (List.perm_cons_erase hx).symm
theorem mem_isB {l:List Int}{n:Int}(h:n∈l):isB l n=true:=by
 unfold isB;rw[List.any_eq_true];exact⟨n,h,by simp⟩
theorem okP_perm {rows p:List Int}{at0 i:Nat}(hn:p.Nodup)(h:okP rows at0 p i=true):at0+p.length≤rows.length∧p.Perm ((rows.drop at0).take p.length):=by
 unfold okP at h;simp only[Bool.and_eq_true,decide_eq_true_eq,List.all_eq_true] at h;refine⟨h.1.1,perm_of hn (fun x hx=>isB_mem (h.2 x hx)) ?_⟩;rw[List.length_take];omega
theorem plcW_nodup {es:List Ev}(hx:es.length≤12)(p:Nat):(plcW es p).Nodup:=by
 unfold plcW idxB;rw[if_pos hx];exact (idxK_rises _ _ _).imp (fun h e=>by omega)
theorem plcW_mem {es:List Ev}(hx:es.length≤12){p:Nat}{x:Int}(h:x∈plcW es p):(0≤x∧x<(es.length:Int))∧(es.getD x.toNat zE).2.2.2.1=(p:Int):=by
 unfold plcW idxB at h;rw[if_pos hx] at h;have h1:=idxK_lt _ _ _ _ h;have h2:=idxK_mem _ _ _ _ h;unfold toE at h2;simp only[Bool.and_eq_true,beq_iff_eq] at h2;exact⟨h1,h2.2⟩
theorem plcW_len {es:List Ev}(hx:es.length≤12)(p:Nat):(plcW es p).length≤12:=by
 unfold plcW idxB;rw[if_pos hx];have:=idxK_len (toE (p:Int)) es es.length;omega
def allW (es:List Ev):List Int:=plcW es 0++plcW es 1++plcW es 2
theorem allW_nodup {es:List Ev}(hx:es.length≤12):(allW es).Nodup:=by
 have dis:∀ {p q:Nat},p≠q→∀a∈plcW es p,∀b∈plcW es q,a≠b:=fun {p q} hpq a ha b hb e=>by
  have h1:=(plcW_mem hx ha).2;have h2:=(plcW_mem hx hb).2;rw[e,h2] at h1;omega
 unfold allW;rw[List.nodup_append,List.nodup_append];refine⟨⟨plcW_nodup hx 0,plcW_nodup hx 1,dis (by decide)⟩,plcW_nodup hx 2,fun a ha b hb=>?_⟩;rcases List.mem_append.1 ha with h|h
 · exact dis (p:=0) (q:=2) (by decide) a h b hb
 · exact dis (p:=1) (q:=2) (by decide) a h b hb
theorem rows_perm {es:List Ev}{rows:List Int}(hx:es.length≤12)(h:rowsL es rows=true):(allW es).Perm rows:=by
 unfold rowsL at h;simp only[Bool.and_eq_true,decide_eq_true_eq] at h;obtain⟨⟨⟨h0,h1⟩,h2⟩,hl⟩:=h;obtain⟨l0,p0⟩:=okP_perm (plcW_nodup hx 0) h0;obtain⟨l1,p1⟩:=okP_perm (plcW_nodup hx 1) h1;obtain⟨l2,p2⟩:=okP_perm (plcW_nodup hx 2) h2
 have e:rows=rows.take (plcW es 0).length++(rows.drop (plcW es 0).length).take (plcW es 1).length++(rows.drop ((plcW es 0).length+(plcW es 1).length)).take (plcW es 2).length:=by
  have t2:(rows.drop ((plcW es 0).length+(plcW es 1).length)).take (plcW es 2).length=rows.drop ((plcW es 0).length+(plcW es 1).length):=List.take_of_length_le (by rw[List.length_drop];omega);rw[t2,List.append_assoc,←List.drop_drop,List.take_append_drop,List.take_append_drop]
 rw[List.drop_zero] at p0;unfold allW;rw[e];exact (p0.append p1).append p2
theorem rows_use {es:List Ev}{rows:List Int}(hx:es.length≤12)(h:rowsL es rows=true):rows.Nodup∧rows.length≤36∧∀i,i<rows.length→0≤rows.getD i 0∧rows.getD i 0<(es.length:Int):=by
 have hp:=rows_perm hx h;refine⟨hp.nodup_iff.1 (allW_nodup hx),?_,fun i hi=>?_⟩
 ·
  rw[←hp.length_eq];unfold allW;rw[List.length_append,List.length_append];have:=plcW_len hx 0;have:=plcW_len hx 1;have:=plcW_len hx 2;omega
 ·
  have hm:rows.getD i 0∈rows:=by
   rw[List.getD_eq_getElem?_getD,List.getElem?_eq_getElem hi];exact List.getElem_mem hi
  have hm:=hp.mem_iff.2 hm;unfold allW at hm;rcases List.mem_append.1 hm with hm|hm
  ·
   rcases List.mem_append.1 hm with hm|hm
   · exact (plcW_mem hx hm).1
   · exact (plcW_mem hx hm).1
  · exact (plcW_mem hx hm).1
theorem plcW_first {dss:List (List Dd)}(hb:workB dss=true)(p:Nat)(hp:p<3):0<(plcW (eventsB dss) p).length∧(plcW (eventsB dss) p).getD 0 0=(p:Int):=by
 obtain⟨h12,_,_,hf,_⟩:=events_law hb;obtain⟨r,hr⟩:=hf p hp;unfold plcW idxB;rw[eventsB,if_pos hb,if_pos h12,hr];exact⟨by simp,rfl⟩
theorem eventsB_12 (dss:List (List Dd)):(eventsB dss).length≤12:=by
 unfold eventsB;split
 ·
  rename_i hb;exact (events_law hb).1
 · simp
def rwP (es:List Ev)(rows:List Int)(i k:Nat):Bool:=decide (i<k)&&(plE es (rows.getD i 0)==plE es (rows.getD k 0))
def rwIn (es:List Ev)(rows:List Int)(i:Nat)(st:List Int):Nat→List Int
 | 0=>st
 |k+1=>if rwP es rows i k=true then (rwIn es rows i st k).set (rows.getD i 0).toNat (gAdd ((rwIn es rows i st k).getD (rows.getD i 0).toNat 0) (rows.getD k 0)) else rwIn es rows i st k
def rwAll (es:List Ev)(rows:List Int):Nat→List Int
 | 0=>List.replicate es.length 0
 |i+1=>rwIn es rows i (rwAll es rows i) rows.length
def rwL (es:List Ev)(rows:List Int):List Int:=rwAll es rows rows.length
def rwB (dss:List (List Dd))(rows:List Int):List Int:=if rowsB dss rows=true then rwL (eventsB dss) rows else []
theorem rwIn_hit {es:List Ev}{rows:List Int}{i k:Nat}(st:List Int)(h:rwP es rows i k=true):rwIn es rows i st (k+1)=(rwIn es rows i st k).set (rows.getD i 0).toNat (gAdd ((rwIn es rows i st k).getD (rows.getD i 0).toNat 0) (rows.getD k 0)):=if_pos h
theorem rwIn_miss {es:List Ev}{rows:List Int}{i k:Nat}(st:List Int)(h:rwP es rows i k=false):rwIn es rows i st (k+1)=rwIn es rows i st k:=if_neg (by simp[h])
theorem rwIn_none {es:List Ev}{rows:List Int}{i:Nat}(st:List Int):∀k:Nat,(∀j,j<k→rwP es rows i j=false)→rwIn es rows i st k=st
 | 0,_=>rfl
 |k+1,h=>by rw[rwIn_miss st (h k (by omega))];exact rwIn_none st k (fun j hj=>h j (by omega))
theorem rwP_up {es:List Ev}{rows:List Int}{i j:Nat}(h:j≤i):rwP es rows i j=false:=by unfold rwP;rw[decide_eq_false (show ¬i<j by omega)];rfl
theorem web_rwIn {es:List Ev}{rows:List Int}{n i:Nat}{st:List Int}(hr:∀j,j<rows.length→0≤rows.getD j 0∧rows.getD j 0<(n:Int))(hi:i<rows.length)(hst:Web n st):∀m:Nat,m≤rows.length →
  Web n (rwIn es rows i st m)∧∀a b:Nat,a<n→(line (rwIn es rows i st m) a b=true↔line st a b=true∨∃q,q<m∧rwP es rows i q=true∧rows.getD i 0=(a:Int)∧rows.getD q 0=(b:Int))
 | 0,_=>⟨hst,fun a b _=>by simp[rwIn]⟩
 |m+1,hm=>by
  obtain⟨h1,h2⟩:=web_rwIn (es:=es) hr hi hst m (by omega)
  cases hp:rwP es rows i m with
  |false=>
   rw[rwIn_miss st hp];refine⟨h1,fun a b ha=>?_⟩;rw[h2 a b ha];constructor
   ·
    rintro (h|⟨q,hq,r⟩)
    · exact .inl h
    · exact .inr ⟨q,by omega,r⟩
   ·
    rintro (h|⟨q,hq,r⟩)
    · exact .inl h
    ·
     by_cases e:q=m
     · subst e;rw[hp] at r;cases r.1
     · exact .inr ⟨q,by omega,r⟩
  |true=>
   obtain⟨a0,ha0⟩:=Int.eq_ofNat_of_zero_le (hr i hi).1;obtain⟨b0,hb0⟩:=Int.eq_ofNat_of_zero_le (hr m (by omega)).1;have ha:a0<n:=by have:=(hr i hi).2;omega
   have hb:b0<n:=by have:=(hr m (by omega)).2;omega
   have e0:rwIn es rows i st (m+1)=(rwIn es rows i st m).set a0 (gAdd ((rwIn es rows i st m).getD a0 0) (b0:Int)):=by rw[rwIn_hit st hp,ha0,hb0,Int.toNat_natCast]
   rw[e0];have hadd:=ok_add (h1.2.2 a0 ha) hb;refine⟨h1.set hadd.1,fun a b haa=>?_⟩;have e1:=h2 a b haa;unfold line at e1 ⊢;rw[getD_set _ _ _ _ (by rw[h1.2.1];exact ha)];by_cases e:a0=a
   ·
    subst e;simp only[if_true];rw[hadd.2 b,Bool.or_eq_true,e1,decide_eq_true_eq];constructor
    ·
     rintro ((h|⟨q,hq,r1,r2,r3⟩)|h)
     · exact .inl h
     · exact .inr ⟨q,by omega,r1,r2,r3⟩
     · exact .inr ⟨m,by omega,hp,ha0,by rw[hb0,h]⟩
    ·
     rintro (h|⟨q,hq,r1,r2,r3⟩)
     · exact .inl (.inl h)
     ·
      by_cases eq:q=m
      ·
       subst eq;right;rw[hb0] at r3;omega
      · exact .inl (.inr ⟨q,by omega,r1,r2,r3⟩)
   ·
    simp only[e,if_false];rw[e1];constructor
    ·
     rintro (h|⟨q,hq,r1,r2,r3⟩)
     · exact .inl h
     · exact .inr ⟨q,by omega,r1,r2,r3⟩
    ·
     rintro (h|⟨q,hq,r1,r2,r3⟩)
     · exact .inl h
     · exfalso;rw[ha0] at r2;omega
theorem web_rwAll {es:List Ev}{rows:List Int}(hx:es.length≤12)(hr:∀j,j<rows.length→0≤rows.getD j 0∧rows.getD j 0<(es.length:Int)):∀m:Nat,m≤rows.length →
  Web es.length (rwAll es rows m)∧∀a b:Nat,a<es.length→(line (rwAll es rows m) a b=true↔∃i q,i<m∧q<rows.length∧rwP es rows i q=true∧rows.getD i 0=(a:Int)∧rows.getD q 0=(b:Int))
 | 0,_=>⟨Web.zero hx,fun a b _=>by unfold rwAll;rw[line_zero];simp⟩
 |m+1,hm=>by
  obtain⟨h1,h2⟩:=web_rwAll hx hr m (by omega);obtain⟨g1,g2⟩:=web_rwIn (es:=es) hr (show m<rows.length by omega) h1 rows.length (Nat.le_refl _);refine⟨g1,fun a b ha=>?_⟩;show line (rwIn es rows m (rwAll es rows m) rows.length) a b=true↔_;rw[g2 a b ha,h2 a b ha];constructor
  ·
   rintro (⟨i,q,hi,r⟩|⟨q,hq,r⟩)
   · exact⟨i,q,by omega,r⟩
   · exact⟨m,q,by omega,hq,r⟩
  ·
   rintro⟨i,q,hi,hq,r⟩;by_cases e:i=m
   · subst e;exact .inr ⟨q,hq,r⟩
   · exact .inl ⟨i,q,by omega,hq,r⟩
theorem getD_zip (f:Int→Int→Int){n:Nat}{a b:List Int}(ha:a.length=n)(hb:b.length=n){i:Nat}(hi:i<n):(List.zipWith f a b).getD i 0=f (a.getD i 0) (b.getD i 0):=by
 rw[List.getD_eq_getElem?_getD,List.getElem?_zipWith,List.getD_eq_getElem?_getD,List.getD_eq_getElem?_getD,List.getElem?_eq_getElem (show i<a.length by omega),List.getElem?_eq_getElem (show i<b.length by omega)];rfl
theorem web_mix (f:Int→Int→Int)(hf:∀ {n:Nat} {s t:Int},okB n s=true→okB n t=true→okB n (f s t)=true){n:Nat}{a b:List Int}(ha:Web n a)(hb:Web n b):Web n (List.zipWith f a b):=by
 refine⟨ha.1,by rw[List.length_zipWith,ha.2.1,hb.2.1];omega,fun i hi=>?_⟩;rw[getD_zip f ha.2.1 hb.2.1 hi];exact hf (ha.2.2 i hi) (hb.2.2 i hi)
theorem mixL_web (f:Int→Int→Int){n:Nat}{a b:List Int}(ha:Web n a)(hb:Web n b):mixL f a b=List.zipWith f a b:=by
 unfold mixL;rw[if_pos (twoB_iff.2 ⟨by rw[ha.2.1,hb.2.1],ha.b,hb.b⟩)]
theorem web_join {n:Nat}{a b:List Int}(ha:Web n a)(hb:Web n b):Web n (mixL orI a b)∧∀i j,i<n→line (mixL orI a b) i j=(line a i j||line b i j):=by
 rw[mixL_web _ ha hb];refine⟨web_mix orI (fun h k=>(ok_or h k).1) ha hb,fun i j hi=>?_⟩;unfold line;rw[getD_zip orI ha.2.1 hb.2.1 hi];exact (ok_or (ha.2.2 i hi) (hb.2.2 i hi)).2 j
theorem web_less {n:Nat}{a b:List Int}(ha:Web n a)(hb:Web n b):Web n (mixL notI a b)∧∀i j,i<n→line (mixL notI a b) i j=(line a i j&&!line b i j):=by
 rw[mixL_web _ ha hb];refine⟨web_mix notI (fun h k=>(ok_not h k).1) ha hb,fun i j hi=>?_⟩;unfold line;rw[getD_zip notI ha.2.1 hb.2.1 hi];exact (ok_not (ha.2.2 i hi) (hb.2.2 i hi)).2 j
theorem web_then {n:Nat}{a b:List Int}(ha:Web n a)(hb:Web n b):Web n (thenL a b)∧∀i j,i<n→(line (thenL a b) i j=true↔∃k,k<n∧line a i k=true∧line b k j=true):=by
 have e:thenL a b=a.map (fun x=>thenS x b 12):=by
  unfold thenL;rw[if_pos (twoB_iff.2 ⟨by rw[ha.2.1,hb.2.1],ha.b,hb.b⟩)]
 have hg:∀i,i<n→(a.map (fun x=>thenS x b 12)).getD i 0=thenS (a.getD i 0) b 12:=by
  intro i hi;rw[List.getD_eq_getElem?_getD,List.getElem?_map,List.getD_eq_getElem?_getD,List.getElem?_eq_getElem (show i<a.length by rw[ha.2.1];exact hi)];rfl
 rw[e];refine⟨⟨ha.1,by simp[ha.2.1],fun i hi=>?_⟩,fun i j hi=>?_⟩
 · rw[hg i hi];exact (ok_then (ha.2.2 i hi) hb 12).1
 ·
  have h:=(ok_then (ha.2.2 i hi) hb 12).2 j;unfold line at h ⊢;rw[hg i hi,h];constructor
  · rintro⟨k,_,h1,h2⟩;exact⟨k,inSetB_iff (ha.2.2 i hi) h1,h1,h2⟩
  · rintro⟨k,hk,h1,h2⟩;exact⟨k,by have:=ha.1;omega,h1,h2⟩
inductive Way (zs:List Int):Nat→Nat→Prop
 |one {i j:Nat} (h:line zs i j=true):Way zs i j
 |more {i k j:Nat} (h:Way zs i k) (g:line zs k j=true):Way zs i j
theorem Way.trans {zs:List Int}{i k j:Nat}(h:Way zs i k)(g:Way zs k j):Way zs i j:=by
 induction g with
 |one g=>exact .more h g
 |more _ g ih=>exact .more ih g
theorem Way.lt {n:Nat}{zs:List Int}(hz:Web n zs){i j:Nat}(hi:i<n)(h:Way zs i j):j<n:=by
 induction h with
 |one g=>exact hz.lt hi g
 |more _ g ih=>exact hz.lt ih g
theorem ways_eq {n:Nat}{zs:List Int}(hz:Web n zs):waysL zs=wayAll zs n:=by
 unfold waysL;rw[if_pos hz.b,hz.2.1]
theorem web_ways {n:Nat}{zs:List Int}(hz:Web n zs):Web n (waysL zs):=by rw[ways_eq hz];exact web_wayAll hz n (Nat.le_refl _)
def roundB (zs:List Int):Bool:=webB zs&&(List.range zs.length).any fun i=>line (waysL zs) i i
def liftA (zs cl:List Int)(c:Int):Nat→Int
 | 0=>0
 |m+1=>if cl.getD m 0=c then orI (liftA zs cl c m) (zs.getD m 0) else liftA zs cl c m
def hitB (cl:List Int)(c all:Int):Nat→Bool
 | 0=>false
 |m+1=>hitB cl c all m||(decide (cl.getD m 0=c)&&inSetB all m)
def liftR (zs cl:List Int)(c:Int):Nat→Int
 | 0=>0
 |m+1=>if cl.getD m 0=c then liftR zs cl c m else if hitB cl (cl.getD m 0) (liftA zs cl c zs.length) zs.length=true then gAdd (liftR zs cl c m) m else liftR zs cl c m
def liftL (zs cl:List Int):List Int:=if webB zs=true∧cl.length=zs.length then cl.map (fun c=>liftR zs cl c zs.length) else []
theorem ok_liftA {n:Nat}{zs:List Int}(hz:Web n zs)(cl:List Int)(c:Int)(m:Nat)(hm:m≤n):okB n (liftA zs cl c m)=true∧∀j:Nat,inSetB (liftA zs cl c m) j=true↔∃a,a<m∧cl.getD a 0=c∧line zs a j=true:=by
 induction m with
 |zero=>exact⟨ok_zero hz.1,fun j=>by rw[show liftA zs cl c 0=0 from rfl,zero_bit];simp⟩
 |succ m ih=>
  have ih:=ih (by omega);unfold liftA;by_cases hc:cl.getD m 0=c
  ·
   have ho:=ok_or ih.1 (hz.2.2 m (by omega));rw[if_pos hc];refine⟨ho.1,fun j=>?_⟩;rw[ho.2 j,Bool.or_eq_true,ih.2 j];constructor
   ·
    rintro (⟨a,h1,h2,h3⟩|h)
    · exact⟨a,by omega,h2,h3⟩
    · exact⟨m,by omega,hc,h⟩
   ·
    rintro⟨a,h1,h2,h3⟩;by_cases e:a=m
    · subst e;exact .inr h3
    · exact .inl ⟨a,by omega,h2,h3⟩
  ·
   rw[if_neg hc];refine⟨ih.1,fun j=>?_⟩;rw[ih.2 j];constructor
   · rintro⟨a,h1,h2,h3⟩;exact⟨a,by omega,h2,h3⟩
   ·
    rintro⟨a,h1,h2,h3⟩;have:a≠m:=fun e=>hc (by rw[←e];exact h2)
    exact⟨a,by omega,h2,h3⟩
theorem hit_iff (cl:List Int)(c all:Int)(m:Nat):hitB cl c all m=true↔∃b,b<m∧cl.getD b 0=c∧inSetB all b=true:=by
 induction m with
 |zero=>simp[hitB]
 |succ m ih=>
  unfold hitB;rw[Bool.or_eq_true,Bool.and_eq_true,decide_eq_true_eq,ih];constructor
  ·
   rintro (⟨b,h1,h2,h3⟩|⟨h2,h3⟩)
   · exact⟨b,by omega,h2,h3⟩
   · exact⟨m,by omega,h2,h3⟩
  ·
   rintro⟨b,h1,h2,h3⟩;by_cases e:b=m
   · subst e;exact .inr ⟨h2,h3⟩
   · exact .inl ⟨b,by omega,h2,h3⟩
theorem ok_liftR {n:Nat}{zs:List Int}(hz:Web n zs)(cl:List Int)(c:Int)(m:Nat)(hm:m≤n):
  okB n (liftR zs cl c m)=true∧∀j:Nat,inSetB (liftR zs cl c m) j=true↔j<m∧cl.getD j 0≠c∧∃a b,a<n∧b<n∧cl.getD a 0=c∧cl.getD b 0=cl.getD j 0∧line zs a b=true:=by
 induction m with
 |zero=>exact⟨ok_zero hz.1,fun j=>by rw[show liftR zs cl c 0=0 from rfl,zero_bit];simp⟩
 |succ m ih=>
  have ih:=ih (by omega);have hA:=ok_liftA hz cl c n (Nat.le_refl _)
  have hH:hitB cl (cl.getD m 0) (liftA zs cl c zs.length) zs.length=true↔∃a b,a<n∧b<n∧cl.getD a 0=c∧cl.getD b 0=cl.getD m 0∧line zs a b=true:=by
   rw[hit_iff,hz.2.1];constructor
   ·
    rintro⟨b,h1,h2,h3⟩;obtain⟨a,h4,h5,h6⟩:=(hA.2 b).1 h3;exact⟨a,b,h4,h1,h5,h2,h6⟩
   ·
    rintro⟨a,b,h1,h2,h3,h4,h5⟩;exact⟨b,h2,h4,(hA.2 b).2 ⟨a,h1,h3,h5⟩⟩
  unfold liftR;by_cases hc:cl.getD m 0=c
  ·
   rw[if_pos hc];refine⟨ih.1,fun j=>?_⟩;rw[ih.2 j];constructor
   · rintro⟨h1,h2⟩;exact⟨by omega,h2⟩
   ·
    rintro⟨h1,h2,h3⟩;have:j≠m:=fun e=>h2 (by rw[e];exact hc)
    exact⟨by omega,h2,h3⟩
  ·
   rw[if_neg hc];by_cases hh:hitB cl (cl.getD m 0) (liftA zs cl c zs.length) zs.length=true
   ·
    rw[if_pos hh];have ha:=ok_add ih.1 (show m<n by omega);refine⟨ha.1,fun j=>?_⟩;rw[ha.2 j,Bool.or_eq_true,ih.2 j,decide_eq_true_eq];constructor
    ·
     rintro (⟨h1,h2⟩|h)
     · exact⟨by omega,h2⟩
     · subst h;exact⟨by omega,hc,hH.1 hh⟩
    ·
     rintro⟨h1,h2⟩;by_cases e:m=j
     · exact .inr e
     · exact .inl ⟨by omega,h2⟩
   ·
    rw[if_neg hh];refine⟨ih.1,fun j=>?_⟩;rw[ih.2 j];constructor
    · rintro⟨h1,h2⟩;exact⟨by omega,h2⟩
    ·
     rintro⟨h1,h2,h3⟩;have:j≠m:=fun e=>hh (hH.2 (by rw[←e];exact h3))
     exact⟨by omega,h2,h3⟩
theorem web_lift {n:Nat}{zs cl:List Int}(hz:Web n zs)(hc:cl.length=n):Web n (liftL zs cl) ∧
  (∀i,i<n→(liftL zs cl).getD i 0=liftR zs cl (cl.getD i 0) n) ∧
  ∀i j,i<n→(line (liftL zs cl) i j=true↔j<n∧cl.getD j 0≠cl.getD i 0∧∃a b,a<n∧b<n∧cl.getD a 0=cl.getD i 0∧cl.getD b 0=cl.getD j 0∧line zs a b=true):=by
 have e:liftL zs cl=cl.map (fun c=>liftR zs cl c n):=by unfold liftL;rw[if_pos ⟨hz.b,by rw[hc,hz.2.1]⟩,hz.2.1]
 have hg:∀i,i<n→(cl.map (fun c=>liftR zs cl c n)).getD i 0=liftR zs cl (cl.getD i 0) n:=by
  intro i hi;rw[List.getD_eq_getElem?_getD,List.getElem?_map,List.getD_eq_getElem?_getD,List.getElem?_eq_getElem (show i<cl.length by omega)];rfl
 rw[e];refine⟨⟨hz.1,by simp[hc],fun i hi=>?_⟩,hg,fun i j hi=>?_⟩
 · rw[hg i hi];exact (ok_liftR hz cl _ n (Nat.le_refl _)).1
 ·
  unfold line;rw[hg i hi];exact (ok_liftR hz cl _ n (Nat.le_refl _)).2 j
theorem liftL_len (zs cl:List Int):(liftL zs cl).length≤12:=by
 unfold liftL;split
 · rename_i h;have:=webB_len h.1;simp;omega
 · simp
theorem chc_len {es:List Ev}(hx:es.length≤12):(chcL es).length≤12∧∀i,i<(chcL es).length→((chcL es).getD i []).length≤12:=by
 have key:∀f:Ev→Bool,(idxB f es).length≤12:=fun f=>by
  unfold idxB;rw[if_pos hx];have:=idxK_len f es es.length;omega
 unfold chcL;rw[chcK_len];exact⟨key _,fun i hi=>by rw[chcK_get _ _ _ _ hi];exact key _⟩
theorem eventsB_le (dss:List (List Dd)):(eventsB dss).length≤12:=by
 unfold eventsB;split
 ·
  rename_i hb;exact (events_law hb).1
 · simp
theorem fwK_len (n:Nat)(rs f:List Int):∀k:Nat,(fwK n rs f k).length=n
 | 0=>by simp[fwK]
 |k+1=>by rw[fwK,List.length_set,fwK_len n rs f k]
theorem fwB_len (dss:List (List Dd))(f:List Int):(fwB dss f).length≤12:=by
 unfold fwB;split
 ·
  unfold fwL;rw[fwK_len];exact eventsB_le dss
 · simp
theorem idxB_range {f:Ev→Bool}{es:List Ev}(hx:es.length≤12){i:Nat}(hi:i<(idxB f es).length):0≤(idxB f es).getD i 0∧(idxB f es).getD i 0<(es.length:Int):=by
 have hm:(idxB f es).getD i 0∈idxB f es:=by
  rw[List.getD_eq_getElem?_getD,List.getElem?_eq_getElem hi];exact List.getElem_mem hi
 unfold idxB at hm ⊢;rw[if_pos hx] at hm ⊢;exact idxK_lt f es _ _ hm
theorem rises_nodup:∀l:List Int,l.Pairwise (·<·)→l.Nodup:=fun l h=>h.imp (fun h e=>by omega)
def taleB (dss:List (List Dd))(f rows:List Int):Bool:=sourceB dss f&&rowsB dss rows
def agK (n:Nat)(rs f row:List Int):Nat→List Int
 | 0=>List.replicate n 0
 |k+1=>(agK n rs f row k).set (rs.getD k 0).toNat (row.getD (f.getD k 0).toNat 0)
def agL (es:List Ev)(f rows:List Int):List Int:=agK es.length (idxB rdE es) f (rwL es rows) (idxB rdE es).length
def agB (dss:List (List Dd))(f rows:List Int):List Int:=if taleB dss f rows=true then agL (eventsB dss) f rows else []
theorem agK_len (n:Nat)(rs f row:List Int):∀k:Nat,(agK n rs f row k).length=n
 | 0=>by simp[agK]
 |k+1=>by rw[agK,List.length_set,agK_len n rs f row k]
theorem web_ag {n:Nat}{rs f row:List Int}(hn:n≤12)(hd:rs.Nodup)(hrow:Web n row):∀k:Nat,k≤rs.length→(∀i,i<k→0≤rs.getD i 0∧rs.getD i 0<(n:Int))→(∀i,i<k→0≤f.getD i 0∧f.getD i 0<(n:Int)) →
  Web n (agK n rs f row k)∧∀a j:Nat,a<n→(line (agK n rs f row k) a j=true↔∃i,i<k∧rs.getD i 0=(a:Int)∧line row (f.getD i 0).toNat j=true)
 | 0,_,_,_=>⟨Web.zero hn,fun a j _=>by unfold agK;rw[line_zero];simp⟩
 |k+1,hk,hr,hf=>by
  obtain⟨h1,h2⟩:=web_ag hn hd hrow k (by omega) (fun i hi=>hr i (by omega)) (fun i hi=>hf i (by omega));obtain⟨a0,ha0⟩:=Int.eq_ofNat_of_zero_le (hr k (by omega)).1;obtain⟨b0,hb0⟩:=Int.eq_ofNat_of_zero_le (hf k (by omega)).1;have ha:a0<n:=by have:=(hr k (by omega)).2;omega
  have hb:b0<n:=by have:=(hf k (by omega)).2;omega
  have e0:agK n rs f row (k+1)=(agK n rs f row k).set a0 (row.getD b0 0):=by rw[agK,ha0,hb0,Int.toNat_natCast,Int.toNat_natCast]
  rw[e0];refine⟨h1.set (hrow.2.2 b0 hb),fun a j haa=>?_⟩;have e1:=h2 a j haa;unfold line at e1 ⊢;rw[getD_set _ _ _ _ (by rw[h1.2.1];exact ha)];by_cases e:a0=a
  ·
   subst e;simp only[if_true];constructor
   ·
    intro h;refine⟨k,by omega,ha0,?_⟩;rw[hb0,Int.toNat_natCast];exact h
   ·
    rintro⟨i,hi,r1,r2⟩;have:i=k:=nodup_get hd (by omega) (by omega) (by rw[r1,ha0]);subst this;rw[hb0,Int.toNat_natCast] at r2;exact r2
  ·
   simp only[e,if_false];rw[e1];constructor
   ·
    rintro⟨i,hi,r⟩;exact⟨i,by omega,r⟩
   ·
    rintro⟨i,hi,r1,r2⟩;by_cases ei:i=k
    · subst ei;rw[ha0] at r1;omega
    · exact⟨i,by omega,r1,r2⟩
theorem plW_in {es:List Ev}{rows:List Int}(hx:es.length≤12)(h:rowsL es rows=true){i:Nat}(hi:i<rows.length):0≤plE es (rows.getD i 0)∧plE es (rows.getD i 0)≤2:=by
 have hp:=rows_perm hx h
 have hm:rows.getD i 0∈rows:=by
  rw[List.getD_eq_getElem?_getD,List.getElem?_eq_getElem hi];exact List.getElem_mem hi
 have hm:=hp.mem_iff.2 hm;unfold allW at hm;unfold plE;rcases List.mem_append.1 hm with hm|hm
 ·
  rcases List.mem_append.1 hm with hm|hm
  · rw[(plcW_mem hx hm).2];decide
  · rw[(plcW_mem hx hm).2];decide
 · rw[(plcW_mem hx hm).2];decide
theorem idxK_has (f:Ev→Bool)(l:List Ev){i:Nat}(hf:f (l.getD i zE)=true):∀k:Nat,i<k→(i:Int)∈idxK f l k
 | 0,h=>by omega
 |k+1,h=>by
  rw[idxK];by_cases e:i=k
  ·
   subst e;rw[if_pos hf];exact List.mem_append.2 (.inr (by simp))
  ·
   have ih:=idxK_has f l hf k (by omega);split
   · exact List.mem_append.2 (.inl ih)
   · exact ih
theorem tale_use {dss:List (List Dd)}{f rows:List Int}(h:taleB dss f rows=true):workB dss=true∧srcB (chcL (eventsB dss)) f=true∧rowsL (eventsB dss) rows=true:=by
 unfold taleB sourceB rowsB at h;simp only[Bool.and_eq_true] at h;exact⟨h.1.1,h.1.2,h.2.2⟩
def addIn (p:Nat→Nat→Bool)(i:Nat)(st:List Int):Nat→List Int
 | 0=>st
 |k+1=>if p i k=true then (addIn p i st k).set i (gAdd ((addIn p i st k).getD i 0) k) else addIn p i st k
def addAll (p:Nat→Nat→Bool)(n:Nat):Nat→List Int
 | 0=>List.replicate n 0
 |i+1=>addIn p i (addAll p n i) n
def bitI (k:Nat):Int:=wrap64 (2 ^ (k:Int).toNat)
def offIn (p:Nat→Nat→Bool)(i:Nat)(st:List Int):Nat→List Int
 | 0=>st
 |k+1=>if p i k=true then (offIn p i st k).set i (notI ((offIn p i st k).getD i 0) (bitI k)) else offIn p i st k
def offAll (p:Nat→Nat→Bool)(n:Nat)(st:List Int):Nat→List Int
 | 0=>st
 |i+1=>offIn p i (offAll p n st i) n
theorem addIn_hit {p:Nat→Nat→Bool}{i k:Nat}(st:List Int)(h:p i k=true):addIn p i st (k+1)=(addIn p i st k).set i (gAdd ((addIn p i st k).getD i 0) k):=if_pos h
theorem addIn_miss {p:Nat→Nat→Bool}{i k:Nat}(st:List Int)(h:p i k=false):addIn p i st (k+1)=addIn p i st k:=if_neg (by simp[h])
theorem offIn_hit {p:Nat→Nat→Bool}{i k:Nat}(st:List Int)(h:p i k=true):offIn p i st (k+1)=(offIn p i st k).set i (notI ((offIn p i st k).getD i 0) (bitI k)):=if_pos h
theorem offIn_miss {p:Nat→Nat→Bool}{i k:Nat}(st:List Int)(h:p i k=false):offIn p i st (k+1)=offIn p i st k:=if_neg (by simp[h])
theorem addIn_none {p:Nat→Nat→Bool}{i:Nat}(st:List Int):∀k:Nat,(∀j,j<k→p i j=false)→addIn p i st k=st
 | 0,_=>rfl
 |k+1,h=>by rw[addIn_miss st (h k (by omega))];exact addIn_none st k (fun j hj=>h j (by omega))
theorem offIn_none {p:Nat→Nat→Bool}{i:Nat}(st:List Int):∀k:Nat,(∀j,j<k→p i j=false)→offIn p i st k=st
 | 0,_=>rfl
 |k+1,h=>by rw[offIn_miss st (h k (by omega))];exact offIn_none st k (fun j hj=>h j (by omega))
theorem bitI_add:∀k:Nat,k<12→bitI k=gAdd 0 k:=by decide +kernel
theorem ok_bit {n k:Nat}(hn:n≤12)(hk:k<n):okB n (bitI k)=true∧∀j:Nat,inSetB (bitI k) j=decide (k=j):=by
 rw[bitI_add k (by omega)];have h:=ok_add (ok_zero hn) hk;exact⟨h.1,fun j=>by rw[h.2 j,zero_bit];simp⟩
theorem web_addIn {p:Nat→Nat→Bool}{n i:Nat}{st:List Int}(hi:i<n)(hst:Web n st):∀m:Nat,m≤n →
  Web n (addIn p i st m)∧∀a j:Nat,a<n→line (addIn p i st m) a j=(line st a j||(decide (i=a)&&decide (j<m)&&p i j))
 | 0,_=>⟨hst,fun a j _=>by simp[addIn]⟩
 |m+1,hm=>by
  have ih:=web_addIn hi hst m (by omega) (p:=p)
  cases hp:p i m with
  |false=>
   rw[addIn_miss st hp];refine⟨ih.1,fun a j ha=>?_⟩;rw[ih.2 a j ha];by_cases e:j=m
   · subst e;simp[hp]
   ·
    have d:decide (j<m+1)=decide (j<m):=decide_eq_decide.2 (by omega);rw[d]
  |true=>
   rw[addIn_hit st hp];have ha:=ok_add (ih.1.2.2 i hi) (show m<n by omega);refine⟨ih.1.set ha.1,fun a j haa=>?_⟩;have e1:=ih.2 a j haa;unfold line at e1 ⊢;rw[getD_set _ _ _ _ (by rw[ih.1.2.1];exact hi)];by_cases e:i=a
   ·
    subst e;simp only[if_true];rw[ha.2 j,e1];by_cases e2:m=j
    · subst e2;simp[hp]
    ·
     have d:decide (j<m+1)=decide (j<m):=decide_eq_decide.2 (by omega);rw[d];simp[e2]
   · simp only[e,if_false];rw[e1];simp[e]
theorem web_addAll {p:Nat→Nat→Bool}{n:Nat}(hn:n≤12):∀m:Nat,m≤n →
  Web n (addAll p n m)∧∀a j:Nat,a<n→line (addAll p n m) a j=(decide (a<m)&&decide (j<n)&&p a j)
 | 0,_=>⟨Web.zero hn,fun a j _=>by unfold addAll;rw[line_zero];simp⟩
 |m+1,hm=>by
  have ih:=web_addAll hn m (by omega) (p:=p);have h1:=web_addIn (p:=p) (show m<n by omega) ih.1 n (Nat.le_refl _);refine⟨h1.1,fun a j ha=>?_⟩;show line (addIn p m (addAll p n m) n) a j=_;rw[h1.2 a j ha,ih.2 a j ha];by_cases e:m=a
  · subst e;simp
  ·
   have d:decide (a<m+1)=decide (a<m):=decide_eq_decide.2 (by omega);rw[d];simp[e]
theorem web_offIn {p:Nat→Nat→Bool}{n i:Nat}{st:List Int}(hi:i<n)(hst:Web n st):∀m:Nat,m≤n →
  Web n (offIn p i st m)∧∀a j:Nat,a<n→line (offIn p i st m) a j=(line st a j&&!(decide (i=a)&&decide (j<m)&&p i j))
 | 0,_=>⟨hst,fun a j _=>by simp[offIn]⟩
 |m+1,hm=>by
  have ih:=web_offIn hi hst m (by omega) (p:=p)
  cases hp:p i m with
  |false=>
   rw[offIn_miss st hp];refine⟨ih.1,fun a j ha=>?_⟩;rw[ih.2 a j ha];by_cases e:j=m
   · subst e;simp[hp]
   ·
    have d:decide (j<m+1)=decide (j<m):=decide_eq_decide.2 (by omega);rw[d]
  |true=>
   rw[offIn_hit st hp];have hb:=ok_bit hst.1 (show m<n by omega);have ha:=ok_not (ih.1.2.2 i hi) hb.1;refine⟨ih.1.set ha.1,fun a j haa=>?_⟩;have e1:=ih.2 a j haa;unfold line at e1 ⊢;rw[getD_set _ _ _ _ (by rw[ih.1.2.1];exact hi)];by_cases e:i=a
   ·
    subst e;simp only[if_true];rw[ha.2 j,e1,hb.2 j];by_cases e2:m=j
    · subst e2;simp[hp]
    ·
     have d:decide (j<m+1)=decide (j<m):=decide_eq_decide.2 (by omega);rw[d];simp[e2]
   · simp only[e,if_false];rw[e1];simp[e]
theorem web_offAll {p:Nat→Nat→Bool}{n:Nat}{st:List Int}(hst:Web n st):∀m:Nat,m≤n →
  Web n (offAll p n st m)∧∀a j:Nat,a<n→line (offAll p n st m) a j=(line st a j&&!(decide (a<m)&&decide (j<n)&&p a j))
 | 0,_=>⟨hst,fun a j _=>by simp[offAll]⟩
 |m+1,hm=>by
  have ih:=web_offAll hst m (by omega) (p:=p);have h1:=web_offIn (p:=p) (show m<n by omega) ih.1 n (Nat.le_refl _);refine⟨h1.1,fun a j ha=>?_⟩;show line (offIn p m (offAll p n st m) n) a j=_;rw[h1.2 a j ha,ih.2 a j ha];by_cases e:m=a
  · subst e;simp
  ·
   have d:decide (a<m+1)=decide (a<m):=decide_eq_decide.2 (by omega);rw[d];simp[e]
def behP (es:List Ev)(i k:Nat):Bool:=decide (i<k)&&((decide (i<3)&&decide (3≤k))||(decide (3≤i)&&((es.getD i zE).1==(es.getD k zE).1)))
def behL (es:List Ev):List Int:=addAll (behP es) es.length es.length
def plcP (es:List Ev)(i k:Nat):Bool:=(es.getD i zE).2.2.2.1 != (es.getD k zE).2.2.2.1
def plcL (es:List Ev):List Int:=offAll (plcP es) es.length (behL es) es.length
theorem behP_up {es:List Ev}{i j:Nat}(h:j≤i):behP es i j=false:=by unfold behP;simp;omega
theorem beh_line {es:List Ev}(h:es.length≤12):Web es.length (behL es)∧∀a j:Nat,a<es.length→line (behL es) a j=(decide (j<es.length)&&behP es a j):=by
 have h1:=web_addAll (p:=behP es) h es.length (Nat.le_refl _);exact⟨h1.1,fun a j ha=>by unfold behL;rw[h1.2 a j ha];simp[ha]⟩
theorem plc_line {es:List Ev}(h:es.length≤12):Web es.length (plcL es)∧∀a j:Nat,a<es.length→line (plcL es) a j=(decide (j<es.length)&&behP es a j&&!plcP es a j):=by
 have h1:=beh_line h;have h2:=web_offAll (p:=plcP es) h1.1 es.length (Nat.le_refl _);refine⟨h2.1,fun a j ha=>?_⟩;unfold plcL;rw[h2.2 a j ha,h1.2 a j ha];by_cases hj:j<es.length
 · simp[ha,hj]
 · simp[hj]
def wholeD (d:Dd):Bool:=(d.1==3)||decide (0<d.2.2.2)
def waitsD (ds:List Dd)(lo hi:Nat):Bool:=(List.range hi).any (fun j=>decide (lo<j)&&((ds.getD j zD).1==4))
theorem waitsD_no {ds:List Dd}{lo hi:Nat}(h:∀j,lo<j→j<hi→(ds.getD j zD).1≠4):waitsD ds lo hi=false:=by
 unfold waitsD;rw[List.any_eq_false];intro j hj;rw[List.mem_range] at hj;by_cases hl:lo<j
 ·
  have:=h j hl hj;simp[hl];simpa using this
 · simp[hl]
theorem waitsD_yes {ds:List Dd}{lo hi j:Nat}(h1:lo<j)(h2:j<hi)(h:(ds.getD j zD).1=4):waitsD ds lo hi=true:=by
 unfold waitsD;rw[List.any_eq_true];exact⟨j,List.mem_range.2 h2,by simp only[h];simp[h1]⟩
def dOf (dss:List (List Dd))(e:Ev):Dd:=(dss.getD e.1.toNat []).getD e.2.1.toNat zD
def kepQ (dss:List (List Dd))(a b:Ev):Bool:=!(rdE a)&&rdE b&&(csE a != csE b)&&(!waitsD (dss.getD a.1.toNat []) a.2.1.toNat b.2.1.toNat&&!wholeD (dOf dss a)&&!wholeD (dOf dss b))
def kepP (dss:List (List Dd))(es:List Ev)(i k:Nat):Bool:=decide (3≤i)&&behP es i k&&kepQ dss (es.getD i zE) (es.getD k zE)
def kepL (dss:List (List Dd))(es:List Ev):List Int:=offAll (kepP dss es) es.length (behL es) es.length
theorem kepP_up {dss:List (List Dd)}{es:List Ev}{i j:Nat}(h:j≤i):kepP dss es i j=false:=by unfold kepP;rw[behP_up h];simp
theorem kep_line {dss:List (List Dd)}{es:List Ev}(h:es.length≤12):Web es.length (kepL dss es)∧∀a j:Nat,a<es.length→line (kepL dss es) a j=(decide (j<es.length)&&behP es a j&&!kepP dss es a j):=by
 have h1:=beh_line h;have h2:=web_offAll (p:=kepP dss es) h1.1 es.length (Nat.le_refl _);refine⟨h2.1,fun a j ha=>?_⟩;unfold kepL;rw[h2.2 a j ha,h1.2 a j ha];by_cases hj:j<es.length
 · simp[ha,hj]
 · simp[hj]
theorem kep_three {dss:List (List Dd)}{es:List Ev}:∀k:Nat,k≤3→offAll (kepP dss es) es.length (behL es) k=behL es
 | 0,_=>rfl
 |k+1,h=>by
  rw[offAll,kep_three k (by omega)];exact offIn_none _ _ (fun j _=>by unfold kepP;simp;omega)
theorem kep_has {dss:List (List Dd)}{es:List Ev}(hn:es.length≤12){k m:Nat}(hk:k<es.length)(hm:m<es.length):
  inSetB ((offIn (kepP dss es) k (offAll (kepP dss es) es.length (behL es) k) m).getD k 0) m=behP es k m:=by
 have h1:=beh_line hn;have h2:=web_offAll (p:=kepP dss es) h1.1 k (by omega);have h3:=web_offIn (p:=kepP dss es) hk h2.1 m (by omega);have e3:=h3.2 k m hk;rw[h2.2 k m hk,h1.2 k m hk] at e3;unfold line at e3;rw[e3];simp[hm]
def OrdE (dss:List (List Dd))(a b:Ev):Prop:=a.1=b.1→0≤a.1→a.2.1<b.2.1∨(a.2.1=b.2.1∧(dOf dss a).1=3)
theorem one_ord {dss:List (List Dd)}{i k:Nat}{c:Int}(d:Dd)(hd:d=(dss.getD i []).getD k zD):(oneE i k d c).Pairwise (OrdE dss)∧∀e∈oneE i k d c,e.1=(i:Int)∧e.2.1=(k:Int)∧(dOf dss e).1≠4:=by
 have key:∀e:Ev,e.1=(i:Int)→e.2.1=(k:Int)→dOf dss e=d:=fun e h1 h2=>by
  unfold dOf;rw[h1,h2,Int.toNat_natCast,Int.toNat_natCast];exact hd.symm
 have h1:∀e∈oneE i k d c,e.1=(i:Int)∧e.2.1=(k:Int):=by
  intro e he;unfold oneE at he;split at he
  · simp at he
  ·
   split at he
   ·
    simp only[List.mem_cons,List.not_mem_nil,or_false] at he;rcases he with rfl|rfl<;>exact⟨rfl,rfl⟩
   ·
    split at he
    ·
     simp only[List.mem_cons,List.not_mem_nil,or_false] at he;subst he;exact⟨rfl,rfl⟩
    ·
     simp only[List.mem_cons,List.not_mem_nil,or_false] at he;subst he;exact⟨rfl,rfl⟩
 refine⟨?_,fun e he=>⟨(h1 e he).1,(h1 e he).2,?_⟩⟩
 ·
  have h1':=h1;unfold oneE at h1' ⊢;split
  · exact List.Pairwise.nil
  ·
   rename_i h4;rw[if_neg h4] at h1';split
   ·
    rename_i h3;rw[if_pos h3] at h1';rw[List.pairwise_cons];refine⟨fun b hb=>?_,by simp⟩;simp only[List.mem_cons,List.not_mem_nil,or_false] at hb;subst hb;intro _ _;refine .inr ⟨rfl,?_⟩;rw[key _ rfl rfl];exact h3
   · split<;>simp
 ·
  rw[key e (h1 e he).1 (h1 e he).2];intro h4;unfold oneE at he;rw[if_pos h4] at he;simp at he
theorem clk_ord {dss:List (List Dd)}{i:Nat}{out:List Ev}(ho:out.Pairwise (OrdE dss))(hl:∀e∈out,e.1<(i:Int))(h4:∀e∈out,0≤e.1→(dOf dss e).1≠4):∀k:Nat,
  (clkE i (dss.getD i []) out k).1.Pairwise (OrdE dss)∧(∀e∈(clkE i (dss.getD i []) out k).1,e.1<(i:Int)∨(e.1=(i:Int)∧e.2.1<(k:Int)))∧∀e∈(clkE i (dss.getD i []) out k).1,0≤e.1→(dOf dss e).1≠4
 | 0=>⟨ho,fun e he => .inl (hl e he),h4⟩
 |k+1=>by
  obtain⟨h1,h2,h3⟩:=clk_ord ho hl h4 k;rw[clkE,stepE];split
  ·
   refine⟨h1,fun e he=>?_,h3⟩;rcases h2 e he with h|⟨h,h'⟩
   · exact .inl h
   · exact .inr ⟨h,by omega⟩
  ·
   obtain⟨g1,g2⟩:=one_ord (dss:=dss) (i:=i) (k:=k) (c:=clsE ((dss.getD i []).getD k zD).2.2.2 (clkE i (dss.getD i []) out k).1.length (clkE i (dss.getD i []) out k).2) _ rfl;refine⟨?_,fun e he=>?_,fun e he=>?_⟩
   ·
    simp only;rw[List.pairwise_append];refine⟨h1,g1,fun a ha b hb=>?_⟩;intro he _;obtain⟨b1,b2,_⟩:=g2 b hb;rcases h2 a ha with h|⟨h,h'⟩
    · omega
    · left;omega
   ·
    rcases List.mem_append.1 he with he|he
    ·
     rcases h2 e he with h|⟨h,h'⟩
     · exact .inl h
     · exact .inr ⟨h,by omega⟩
    ·
     obtain⟨b1,b2,_⟩:=g2 e he;exact .inr ⟨b1,by omega⟩
   ·
    rcases List.mem_append.1 he with he|he
    · exact h3 e he
    · exact fun _=>(g2 e he).2.2
theorem evs_ord (dss:List (List Dd)):∀n:Nat,(evsW dss n).Pairwise (OrdE dss)∧(∀e∈evsW dss n,e.1<(n:Int))∧∀e∈evsW dss n,0≤e.1→(dOf dss e).1≠4
 | 0=>by
  have neg:∀e∈evBeg,e.1=-1:=by
   intro e he;simp only[evBeg,List.mem_cons,List.not_mem_nil,or_false] at he;rcases he with rfl|rfl|rfl<;>rfl
  refine⟨?_,fun e he=>by rw[neg e he];omega,fun e he h0=>by rw[neg e he] at h0;omega⟩;refine List.Pairwise.imp_of_mem (R:=fun _ _=>True) ?_ (List.pairwise_of_forall (fun _ _=>trivial));intro a b ha _ _;intro _ h0;rw[neg a ha] at h0;omega
 |n+1=>by
  obtain⟨h1,h2,h3⟩:=evs_ord dss n;obtain⟨g1,g2,g3⟩:=clk_ord (i:=n) h1 h2 h3 (dss.getD n []).length;rw[evsW];exact⟨g1,fun e he=>by rcases g2 e he with h|⟨h,_⟩<;>omega,g3⟩
end Go.Proofs.YtgikcfdckddgpabGreat
