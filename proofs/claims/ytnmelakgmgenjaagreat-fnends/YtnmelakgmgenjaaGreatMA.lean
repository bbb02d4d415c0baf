/- Gathered texts. -/
import Derived.Lib.IndexMore
import Derived.Lib.ParseIntB
import Derived.Lib.ItoaNum
import Derived.WalkKit
import Derived.ProofKit
import Derived.Laws.BitsAllLaws
import Derived.Laws.BitsLemmas
set_option maxRecDepth 100000
set_option maxHeartbeats 8000000
namespace Go.Proofs.YtnmelakgmgenjaaGreat
open Go.RowKit
def D8 (k p v g:Int):Bool:=
 decide ((1<=k/\k<=4)/\(0<=p/\p<=2)/\(0<=g/\g<=9)/\(k=4->p=0)/\(2<k->g=0)/\((k=2\/k=3)->1<=v/\v<=9)/\(¬(k=2\/k=3)->v=0))
abbrev Dd:=Int×Int×Int×Int
def zD:Dd:=(0,0,0,0)
def Fm (d:Dd):Bool:=D8 d.1 d.2.1 d.2.2.1 d.2.2.2
def TW (d:Dd):Int:=if d.1=1 then 1 else if d.1=2 then 1 else if d.1=3 then 2 else 0
def Oo (ds:List Dd):Nat->Int
 | 0=>0
 |k+1=>Oo ds k+TW (ds.getD k zD)
def Ro (AA:List (List Dd)):Nat->Int
 | 0=>0
 |i+1=>Ro AA i+Oo (AA.getD i []) (AA.getD i []).length
theorem lJ (d:Dd):0<=TW d/\TW d<=2:=by
 unfold TW
 repeat' split
 all_goals omega
theorem Yp (ds:List Dd):∀k:Nat,0<=Oo ds k/\Oo ds k<=2*k
 | 0=>by simp[Oo]
 |k+1=>by have:=Yp ds k;have:=lJ (ds.getD k zD);rw[Oo];omega
def Cq (i:Nat)(own:List Int)(ds:List Dd):Nat->Option (List Int)
 | 0=>some own
 |k+1=>match Cq i own ds k with
  |none=>none
  |some o=>
   if (ds.getD k zD).2.2.2=0 then some o
   else if o.getD (ds.getD k zD).2.2.2.toNat 0≠0/\(o.getD (ds.getD k zD).2.2.2.toNat 0≠(i:Int)+1\/k=0\/(ds.getD (k-1) zD).2.2.2≠(ds.getD k zD).2.2.2) then none
   else some (o.set (ds.getD k zD).2.2.2.toNat ((i:Int)+1))
def Eg (AA:List (List Dd)):Nat->Option (List Int)
 | 0=>some (List.replicate 10 0)
 |i+1=>match Eg AA i with
  |none=>none
  |some o=>Cq i o (AA.getD i []) (AA.getD i []).length
def KE (AA:List (List Dd)):Bool:=(Eg AA AA.length).isSome
def C8:List (List Dd)->Nat
 | []=>0
 |d::r=>d.length+C8 r
def GI (ds:List Dd):Bool:=ds.all Fm&&decide (ds.length<=5)
def AQ (AA:List (List Dd)):Bool:=
 decide (1<=AA.length/\AA.length<=3)&&AA.all GI&&decide (C8 AA<=12)&&decide (Ro AA AA.length<=6)&&KE AA
theorem LB {i:Nat}{own:List Int}{ds:List Dd}{k:Nat}(h:Cq i own ds k=none):∀n:Nat,k<=n->Cq i own ds n=none
 | 0,hn=>by
  obtain rfl:k=0:=by omega
  exact h
 |n+1,hn=>by
  by_cases e:k=n+1
  . rw[<-e];exact h
  . rw[Cq,LB h n (by omega)]
theorem LC {AA:List (List Dd)}{i:Nat}(h:Eg AA i=none):∀n:Nat,i<=n->Eg AA n=none
 | 0,hn=>by
  obtain rfl:i=0:=by omega
  exact h
 |n+1,hn=>by
  by_cases e:i=n+1
  . rw[<-e];exact h
  . rw[Eg,LC h n (by omega)]
theorem KH {i:Nat}{own:List Int}{ds:List Dd}:∀ {k:Nat} {o:List Int},Cq i own ds k=some o->o.length=own.length
 | 0,o,h=>by simp only[Cq,Option.some.injEq] at h;rw[<-h]
 |k+1,o,h=>by
  rw[Cq] at h;split at h
  . cases h
  ·
   rename_i o' ho';have ih:=KH ho';split at h
   . simp only[Option.some.injEq] at h;rw[<-h];exact ih
   ·
    split at h
    . cases h
    . simp only[Option.some.injEq] at h;rw[<-h,List.length_set];exact ih
theorem Mu {AA:List (List Dd)}:∀ {i:Nat} {o:List Int},Eg AA i=some o->o.length=10
 | 0,o,h=>by simp only[Eg,Option.some.injEq] at h;rw[<-h];simp
 |i+1,o,h=>by
  rw[Eg] at h;split at h
  . cases h
  ·
   rename_i o' ho';rw[KH h];exact Mu ho'
theorem Bo {α:Type}{f:α->Bool}{l:List α}(z:α)(h:l.all f=true)(i:Nat)(hi:i<l.length):f (l.getD i z)=true:=by
 rw[List.getD_eq_getElem?_getD,List.getElem?_eq_getElem hi];exact List.all_eq_true.1 h _ (List.getElem_mem hi)
theorem kU {α:Type}{f:α->Bool}{l:List α}(z:α)(h:∀i,i<l.length->f (l.getD i z)=true):l.all f=true:=by
 rw[List.all_eq_true];intro x hx;obtain⟨i,hi,rfl⟩:=List.getElem_of_mem hx;have:=h i hi
 rwa [List.getD_eq_getElem?_getD,List.getElem?_eq_getElem hi] at this
theorem Pl {α:Type}{f:α->Bool}{l:List α}(z:α)(i:Nat)(hi:i<l.length)(h:f (l.getD i z)=false):l.all f=false:=by
 cases hb:l.all f
 . rfl
 . rw[Bo z hb i hi] at h;cases h
abbrev Ev:=Int×Int×Bool×Int×Int×Int
def zE:Ev:=(0,0,false,0,0,0)
def bH (e:Ev):Int:=e.2.2.2.2.2
def CZ:List Ev:=[(-1,-1,false,0,0,0),(-1,-1,false,1,0,1),(-1,-1,false,2,0,2)]
def Cs (i k:Nat)(d:Dd)(c:Int):List Ev:=
 if d.1=4 then [] else if d.1=3 then [((i:Int),(k:Int),true,d.2.1,0,c),((i:Int),(k:Int),false,d.2.1,d.2.2.1,c)]
 else if d.1=2 then [((i:Int),(k:Int),false,d.2.1,d.2.2.1,c)] else [((i:Int),(k:Int),true,d.2.1,0,c)]
def DH (g:Int)(at0:Nat)(f:List Int):List Int:=if 0<g/\f.getD g.toNat 0=0 then f.set g.toNat (at0:Int) else f
def Cw (g:Int)(at0:Nat)(f:List Int):Int:=if 0<g then (DH g at0 f).getD g.toNat 0 else (at0:Int)
def Ec (i k:Nat)(d:Dd)(s:List Ev×List Int):List Ev×List Int:=
 if d.1=4 then s else (s.1++Cs i k d (Cw d.2.2.2 s.1.length s.2),DH d.2.2.2 s.1.length s.2)
def Bg (i:Nat)(ds:List Dd)(out:List Ev):Nat->List Ev×List Int
 | 0=>(out,List.replicate 10 0)
 |k+1=>Ec i k (ds.getD k zD) (Bg i ds out k)
def BA (AA:List (List Dd)):Nat->List Ev
 | 0=>CZ
 |i+1=>(Bg i (AA.getD i []) (BA AA i) (AA.getD i []).length).1
def AB (AA:List (List Dd)):List Ev:=if AQ AA=true then BA AA AA.length else []
theorem Zi (i k:Nat)(d:Dd)(c:Int)(h:d.1=1\/d.1=2\/d.1=3\/d.1=4):((Cs i k d c).length:Int)=TW d:=by
 unfold Cs TW;rcases h with h|h|h|h<;>simp[h]
theorem CM {d:Dd}(h:Fm d=true):d.1=1\/d.1=2\/d.1=3\/d.1=4:=by
 simp[Fm,D8] at h;omega
theorem Ch {d:Dd}(h:Fm d=true):0<=d.2.1/\d.2.1<=2/\0<=d.2.2.2/\d.2.2.2<=9/\(2<d.1->d.2.2.2=0):=by
 simp[Fm,D8] at h;omega
theorem Rg {i:Nat}{ds:List Dd}{out:List Ev}(hok:∀j,j<ds.length->Fm (ds.getD j zD)=true):∀k:Nat,k<=ds.length->((Bg i ds out k).1.length:Int)=out.length+Oo ds k
 | 0,_=>by simp[Bg,Oo]
 |k+1,h=>by
  have ih:=Rg (i:=i) (out:=out) hok k (by omega);have hk:=CM (hok k (by omega));rw[Bg,Ec,Oo];split
  ·
   rename_i h4;rw[ih];unfold TW;rw[h4];simp
  ·
   have:=Zi i k (ds.getD k zD) (Cw (ds.getD k zD).2.2.2 (Bg i ds out k).1.length (Bg i ds out k).2) hk;rw[List.length_append];omega
theorem Hz {AA:List (List Dd)}(hok:∀i,i<AA.length->GI (AA.getD i [])=true):∀n:Nat,n<=AA.length->((BA AA n).length:Int)=3+Ro AA n
 | 0,_=>by simp[BA,CZ,Ro]
 |n+1,h=>by
  have ih:=Hz hok n (by omega);have hn:=hok n (by omega);simp only[GI,Bool.and_eq_true,decide_eq_true_eq] at hn;rw[BA,Rg (fun j hj=>Bo zD hn.1 j hj) _ (Nat.le_refl _),ih,Ro];omega
def JI (AA:List (List Dd))(out:List Ev)(j:Nat):Prop:=
 ∃(i k c:Nat) (rd:Bool) (vl:Int),out[j]? = some ((i:Int),(k:Int),rd,((AA.getD i []).getD k zD).2.1,vl,(c:Int))/\i<AA.length/\k<(AA.getD i []).length /\
  (rd=true->vl=0)/\(rd=false->vl=((AA.getD i []).getD k zD).2.2.1)/\c<=j /\
  ∃(k':Nat) (rd':Bool) (pl' vl':Int),out[c]? = some ((i:Int),(k':Int),rd',pl',vl',(c:Int))/\k'<(AA.getD i []).length /\
   (c≠j->((AA.getD i []).getD k zD).1≠3->((AA.getD i []).getD k zD).2.2.2≠0/\((AA.getD i []).getD k' zD).2.2.2=((AA.getD i []).getD k zD).2.2.2)
theorem Ia {α:Type}{l:List α}{j:Nat}{x:α}(t:List α)(h:l[j]? = some x):(l++t)[j]? = some x:=by
 rw[List.getElem?_append_left (List.getElem?_eq_some_iff.1 h).1];exact h
theorem JI.more {AA:List (List Dd)}{out:List Ev}{j:Nat}(h:JI AA out j)(t:List Ev):JI AA (out++t) j:=by
 obtain⟨i,k,c,rd,vl,h1,h2,h3,h4,h5,h6,k',rd',pl',vl',g1,g2,g3⟩:=h;exact⟨i,k,c,rd,vl,Ia t h1,h2,h3,h4,h5,h6,k',rd',pl',vl',Ia t g1,g2,g3⟩
def Xv (AA:List (List Dd))(i:Nat)(out:List Ev)(f:List Int):Prop:=
 f.length=10/\∀g:Nat,0<g->g<10->f.getD g 0=0\/∃(c k':Nat) (rd':Bool) (pl' vl':Int),f.getD g 0=(c:Int)/\out[c]? = some ((i:Int),(k':Int),rd',pl',vl',(c:Int))/\k'<(AA.getD i []).length/\((AA.getD i []).getD k' zD).2.2.2=(g:Int)
theorem Cg (o:List Int)(g:Nat)(x:Int)(j:Nat)(hg:g<o.length):(o.set g x).getD j 0=if g=j then x else o.getD j 0:=by
 rw[List.getD_eq_getElem?_getD,List.getElem?_set];by_cases e:g=j
 . subst e;rw[if_pos rfl,if_pos hg,if_pos rfl];rfl
 . rw[if_neg e,if_neg e,List.getD_eq_getElem?_getD]
theorem NS (i k:Nat)(d:Dd)(c:Int)(h4:d.1≠4):∃rd vl,(Cs i k d c)[0]? = some ((i:Int),(k:Int),rd,d.2.1,vl,c)/\(rd=true->vl=0)/\(rd=false->vl=d.2.2.1):=by
 unfold Cs;rw[if_neg h4];split
 . exact⟨true,0,rfl,by simp,by simp⟩
 ·
  split
  . exact⟨false,d.2.2.1,rfl,by simp,by simp⟩
  . exact⟨true,0,rfl,by simp,by simp⟩
theorem W8 {AA:List (List Dd)}{i k:Nat}{out:List Ev}{f:List Int}(hi:i<AA.length)(hk:k<(AA.getD i []).length)(hok:Fm ((AA.getD i []).getD k zD)=true)
  (hG:∀j,3<=j->j<out.length->JI AA out j) (hF:Xv AA i out f):
  (∀j,3<=j->j<(Ec i k ((AA.getD i []).getD k zD) (out,f)).1.length->JI AA (Ec i k ((AA.getD i []).getD k zD) (out,f)).1 j)/\Xv AA i (Ec i k ((AA.getD i []).getD k zD) (out,f)).1 (Ec i k ((AA.getD i []).getD k zD) (out,f)).2:=by
 obtain⟨d,hd⟩:∃d,d=(AA.getD i []).getD k zD:=⟨_,rfl⟩;rw[<-hd] at hok ⊢;by_cases h4:d.1=4
 . rw[Ec,if_pos h4];exact⟨hG,hF⟩
 rw[Ec,if_neg h4];dsimp only;obtain⟨r0,r1,r2,r3,r4⟩:=Ch hok;obtain⟨g,hg⟩:=Int.eq_ofNat_of_zero_le r2;obtain⟨hl,hf⟩:=hF
 have hcls:∃(c k':Nat) (rd':Bool) (pl' vl':Int),Cw d.2.2.2 out.length f=(c:Int)/\c<=out.length/\(out++Cs i k d (Cw d.2.2.2 out.length f))[c]? = some ((i:Int),(k':Int),rd',pl',vl',(c:Int))/\k'<(AA.getD i []).length /\
   (c≠out.length->d.2.2.2≠0/\((AA.getD i []).getD k' zD).2.2.2=d.2.2.2)/\(c=out.length->k'=k):=by
  obtain⟨rd,vl,ho,_,_⟩:=NS i k d (Cw d.2.2.2 out.length f) h4
  have new:Cw d.2.2.2 out.length f=(out.length:Int)->(out++Cs i k d (Cw d.2.2.2 out.length f))[out.length]? = some ((i:Int),(k:Int),rd,d.2.1,vl,((out.length:Nat):Int)):=fun e=>by
   rw[List.getElem?_append_right (Nat.le_refl _),Nat.sub_self,ho,e]
  by_cases hg0:g=0
  ·
   have e:Cw d.2.2.2 out.length f=(out.length:Int):=by unfold Cw;rw[hg,if_neg (by omega)]
   exact⟨out.length,k,rd,d.2.1,vl,e,Nat.le_refl _,new e,hk,fun h=>absurd rfl h,fun _=>rfl⟩
  ·
   have gp:(0:Int)<d.2.2.2:=by rw[hg];omega
   have g10:g<10:=by rw[hg] at r3;omega
   rcases hf g (by omega) g10 with h0|⟨c,k',rd',pl',vl',e1,e2,e3,e4⟩
   ·
    have e:Cw d.2.2.2 out.length f=(out.length:Int):=by
     unfold Cw DH;rw[if_pos gp,hg,Int.toNat_natCast,if_pos ⟨by omega,h0⟩,Cg f g _ g (by omega),if_pos rfl]
    exact⟨out.length,k,rd,d.2.1,vl,e,Nat.le_refl _,new e,hk,fun h=>absurd rfl h,fun _=>rfl⟩
   ·
    have cl:c<out.length:=(List.getElem?_eq_some_iff.1 e2).1;by_cases hc0:(c:Int)=0
    ·
     have e:Cw d.2.2.2 out.length f=(out.length:Int):=by
      unfold Cw DH;rw[if_pos gp,hg,Int.toNat_natCast,if_pos ⟨by omega,by rw[e1];exact hc0⟩,Cg f g _ g (by omega),if_pos rfl]
     exact⟨out.length,k,rd,d.2.1,vl,e,Nat.le_refl _,new e,hk,fun h=>absurd rfl h,fun _=>rfl⟩
    ·
     have e:Cw d.2.2.2 out.length f=(c:Int):=by
      unfold Cw DH;rw[if_pos gp,hg,Int.toNat_natCast,if_neg (by rw[e1];omega),e1]
     exact⟨c,k',rd',pl',vl',e,by omega,Ia _ e2,e3,fun _=>⟨by omega,by rw[e4,hg]⟩,fun h=>by omega⟩
 obtain⟨c,k',rd',pl',vl',hc,hcl,hce,hk',hcg,hcn⟩:=hcls;rw[hc] at hce ⊢;refine⟨fun j hj3 hj=>?_,?_⟩
 ·
  by_cases hold:j<out.length
  . exact (hG j hj3 hold).more _
  ·
   have e1:(out++Cs i k d (c:Int))[j]? = (Cs i k d (c:Int))[j-out.length]?:=List.getElem?_append_right (by omega);have hjl:j-out.length<(Cs i k d (c:Int)).length:=by rw[List.length_append] at hj;omega
   have form:∃rd vl,(Cs i k d (c:Int))[j-out.length]? = some ((i:Int),(k:Int),rd,d.2.1,vl,(c:Int))/\(rd=true->vl=0)/\(rd=false->vl=d.2.2.1)/\(j≠out.length->d.1=3):=by
    by_cases hz:j-out.length=0
    ·
     obtain⟨rd,vl,ho,h5,h6⟩:=NS i k d (c:Int) h4;exact⟨rd,vl,by rw[hz];exact ho,h5,h6,fun h=>by omega⟩
    ·
     unfold Cs at hjl ⊢;rw[if_neg h4] at hjl ⊢;split at hjl
     ·
      rename_i h3;rw[if_pos h3];have:j-out.length=1:=by simp at hjl;omega
      rw[this];exact⟨false,d.2.2.1,rfl,by simp,by simp,fun _=>h3⟩
     ·
      split at hjl
      . simp at hjl;omega
      . simp at hjl;omega
   obtain⟨rd,vl,h1,h5,h6,h7⟩:=form;refine⟨i,k,c,rd,vl,by rw[e1,<-hd];exact h1,hi,hk,h5,by rw[<-hd];exact h6,by omega,k',rd',pl',vl',hce,hk',fun hcj h3=>?_⟩;rw[<-hd] at h3 ⊢
   have:j=out.length:=by
    apply Classical.byContradiction;intro hne;exact h3 (h7 hne)
   exact hcg (by omega)
 ·
  refine⟨by unfold DH;split<;>simp[hl],fun q hq0 hq=>?_⟩
  have Uy:f.getD q 0=0\/∃(c' k'':Nat) (rd'':Bool) (pl'' vl'':Int),f.getD q 0=(c':Int)/\(out++Cs i k d (c:Int))[c']? = some ((i:Int),(k'':Int),rd'',pl'',vl'',(c':Int))/\k''<(AA.getD i []).length/\((AA.getD i []).getD k'' zD).2.2.2=(q:Int):=by
   rcases hf q hq0 hq with h0|⟨c',k'',rd'',pl'',vl'',e1,e2,e3,e4⟩
   . exact .inl h0
   . exact .inr ⟨c',k'',rd'',pl'',vl'',e1,Ia _ e2,e3,e4⟩
  unfold DH;split
  ·
   rename_i hcond;rw[hg,Int.toNat_natCast] at hcond ⊢;rw[Cg f g _ q (by rw[hg] at r3;omega)];by_cases e:g=q
   ·
    subst e;rw[if_pos rfl];right
    have ec:c=out.length:=by
     have:Cw d.2.2.2 out.length f=(out.length:Int):=by
      unfold Cw DH;rw[if_pos (by rw[hg];exact hcond.1),hg,Int.toNat_natCast,if_pos hcond,Cg f g _ g (by rw[hg] at r3;omega),if_pos rfl]
     omega
    have ek:=hcn ec;subst ek;refine⟨out.length,k',rd',pl',vl',rfl,?_,hk',by rw[<-hd,hg]⟩;rw[ec] at hce;rw[ec];exact hce
   . rw[if_neg e];exact Uy
  . exact Uy
theorem Rh {AA:List (List Dd)}{i:Nat}{out:List Ev}(hi:i<AA.length)(hok:∀j,j<(AA.getD i []).length->Fm ((AA.getD i []).getD j zD)=true)(hG:∀j,3<=j->j<out.length->JI AA out j):
  ∀k:Nat,k<=(AA.getD i []).length->(∃t,(Bg i (AA.getD i []) out k).1=out++t)/\(∀j,3<=j->j<(Bg i (AA.getD i []) out k).1.length->JI AA (Bg i (AA.getD i []) out k).1 j)/\Xv AA i (Bg i (AA.getD i []) out k).1 (Bg i (AA.getD i []) out k).2
 | 0,_=>⟨⟨[],by simp[Bg]⟩,hG,by simp[Bg],fun g _ hg => .inl (by simp only[Bg];rw[List.getD_eq_getElem?_getD,List.getElem?_replicate,if_pos hg];rfl)⟩
 |k+1,h=>by
  obtain⟨⟨t,ht⟩,h2,h3⟩:=Rh hi hok hG k (by omega);have:=W8 (k:=k) hi (by omega) (hok k (by omega)) h2 h3;refine⟨?_,this⟩;rw[Bg,Ec];split
  . exact⟨t,ht⟩
  . exact⟨t++Cs i k ((AA.getD i []).getD k zD) (Cw ((AA.getD i []).getD k zD).2.2.2 (Bg i (AA.getD i []) out k).1.length (Bg i (AA.getD i []) out k).2),by simp only;rw[ht,List.append_assoc]⟩
theorem Mr {AA:List (List Dd)}(hok:∀i,i<AA.length->GI (AA.getD i [])=true):∀n:Nat,n<=AA.length->(∃t,BA AA n=CZ++t)/\∀j,3<=j->j<(BA AA n).length->JI AA (BA AA n) j
 | 0,_=>⟨⟨[],by simp[BA]⟩,fun j h1 h2=>by simp[BA,CZ] at h2;omega⟩
 |n+1,h=>by
  obtain⟨⟨t,ht⟩,h2⟩:=Mr hok n (by omega);have hn:=hok n (by omega);simp only[GI,Bool.and_eq_true,decide_eq_true_eq] at hn;obtain⟨⟨t2,ht2⟩,h3,_⟩:=Rh (i:=n) (out:=BA AA n) (by omega) (fun j hj=>Bo zD hn.1 j hj) h2 (AA.getD n []).length (Nat.le_refl _);rw[BA];exact⟨⟨t++t2,by rw[ht2,ht,List.append_assoc]⟩,h3⟩
def Ah (e:Ev):Bool:=e.2.2.1
def OT (p:Int)(e:Ev):Bool:=!e.2.2.1&&(e.2.2.2.1==p)
def Bi (f:Ev->Bool)(l:List Ev):Nat->List Int
 | 0=>[]
 |k+1=>if f (l.getD k zE)=true then Bi f l k++[(k:Int)] else Bi f l k
def AX (f:Ev->Bool)(l:List Ev):List Int:=if l.length<=12 then Bi f l l.length else []
theorem DP (f:Ev->Bool)(l:List Ev):∀k:Nat,(Bi f l k).length<=k
 | 0=>by simp[Bi]
 |k+1=>by
  have ih:=DP f l k;rw[Bi];split
  . simp;omega
  . omega
theorem Ig (f:Ev->Bool)(l:List Ev):∀(k:Nat) (x:Int),x∈Bi f l k->0<=x/\x<(k:Int)
 | 0,x,h=>by simp[Bi] at h
 |k+1,x,h=>by
  rw[Bi] at h;split at h
  ·
   rcases List.mem_append.1 h with h|h
   . have:=Ig f l k x h;omega
   . simp at h;omega
  . have:=Ig f l k x h;omega
theorem My (f:Ev->Bool)(l:List Ev):∀k:Nat,(Bi f l k).Pairwise (·<·)
 | 0=>by simp[Bi]
 |k+1=>by
  have ih:=My f l k;rw[Bi];split
  ·
   rw[List.pairwise_append];refine⟨ih,by simp,fun a ha b hb=>?_⟩;simp at hb;have:=Ig f l k a ha;omega
  . exact ih
theorem Mx (f:Ev->Bool)(l:List Ev)(k:Nat):∀n:Nat,k<=n->∃t,Bi f l n=Bi f l k++t
 | 0,h=>by
  obtain rfl:k=0:=by omega
  exact⟨[],by simp⟩
 |n+1,h=>by
  by_cases e:k=n+1
  . subst e;exact⟨[],by simp⟩
  ·
   obtain⟨t,ht⟩:=Mx f l k n (by omega);rw[Bi];split
   . exact⟨t++[(n:Int)],by rw[ht,List.append_assoc]⟩
   . exact⟨t,ht⟩
theorem Uu {l:List Ev}:∀k:Nat,(∀j,j<k->0<=(l.getD j zE).2.2.2.1/\(l.getD j zE).2.2.2.1<=2)->(Bi Ah l k).length+(Bi (OT 0) l k).length+(Bi (OT 1) l k).length+(Bi (OT 2) l k).length=k
 | 0,_=>by simp[Bi]
 |k+1,h=>by
  have ih:=Uu (l:=l) k (fun j hj=>h j (by omega));have hp:=h k (by omega);obtain⟨e,he⟩:∃e,e=l.getD k zE:=⟨_,rfl⟩;rw[<-he] at hp;simp only[Bi,<-he];clear he;obtain⟨a,b,r,p,v,c⟩:=e;simp only at hp;cases r
  ·
   have hr:Ah (a,b,false,p,v,c)=false:=rfl;have:p=0\/p=1\/p=2:=by omega
   rcases this with rfl|rfl|rfl
   ·
    have t0:OT 0 (a,b,false,0,v,c)=true:=rfl;have t1:OT 1 (a,b,false,0,v,c)=false:=rfl;have t2:OT 2 (a,b,false,0,v,c)=false:=rfl;simp only[hr,t0,t1,t2,if_true,Bool.false_eq_true,if_false,List.length_append,List.length_cons,List.length_nil];omega
   ·
    have t0:OT 0 (a,b,false,1,v,c)=false:=rfl;have t1:OT 1 (a,b,false,1,v,c)=true:=rfl;have t2:OT 2 (a,b,false,1,v,c)=false:=rfl;simp only[hr,t0,t1,t2,if_true,Bool.false_eq_true,if_false,List.length_append,List.length_cons,List.length_nil];omega
   ·
    have t0:OT 0 (a,b,false,2,v,c)=false:=rfl;have t1:OT 1 (a,b,false,2,v,c)=false:=rfl;have t2:OT 2 (a,b,false,2,v,c)=true:=rfl;simp only[hr,t0,t1,t2,if_true,Bool.false_eq_true,if_false,List.length_append,List.length_cons,List.length_nil];omega
  ·
   have hr:Ah (a,b,true,p,v,c)=true:=rfl;have t:∀q,OT q (a,b,true,p,v,c)=false:=fun _=>rfl
   simp only[hr,t,if_true,Bool.false_eq_true,if_false,List.length_append,List.length_cons,List.length_nil];omega
theorem Pn {l t:List Ev}(h:l=CZ++t):l.getD 0 zE=(-1,-1,false,0,0,0)/\l.getD 1 zE=(-1,-1,false,1,0,1)/\l.getD 2 zE=(-1,-1,false,2,0,2):=by
 subst h;exact⟨rfl,rfl,rfl⟩
theorem WQ {l t:List Ev}(h:l=CZ++t)(p:Nat)(hp:p<3):∃r,Bi (OT (p:Int)) l l.length=(p:Int)::r:=by
 obtain⟨h0,h1,h2⟩:=Pn h;have hl:3<=l.length:=by rw[h];simp[CZ]
 obtain⟨r,hr⟩:=Mx (OT (p:Int)) l 3 l.length hl
 have e:∃q,Bi (OT (p:Int)) l 3=(p:Int)::q:=by
  have:p=0\/p=1\/p=2:=by omega
  simp only[Bi,h0,h1,h2,OT];rcases this with rfl|rfl|rfl
  . exact⟨[],by simp⟩
  . exact⟨[],by simp⟩
  . exact⟨[],by simp⟩
 obtain⟨q,hq⟩:=e;exact⟨q++r,by rw[hr,hq];rfl⟩
theorem Td {AA:List (List Dd)}{out:List Ev}{j:Nat}(hok:∀i,i<AA.length->GI (AA.getD i [])=true)(h:JI AA out j):0<=(out.getD j zE).2.2.2.1/\(out.getD j zE).2.2.2.1<=2:=by
 obtain⟨i,k,c,rd,vl,h1,h2,h3,_⟩:=h;have hi:=hok i h2;simp only[GI,Bool.and_eq_true,decide_eq_true_eq] at hi;have:=Ch (Bo zD hi.1 k h3);rw[List.getD_eq_getElem?_getD,h1];exact⟨this.1,this.2.1⟩
theorem Mq {AA:List (List Dd)}(h:AQ AA=true):(BA AA AA.length).length<=12/\((BA AA AA.length).length:Int)=3+Ro AA AA.length /\
  (Bi Ah (BA AA AA.length) (BA AA AA.length).length).length+(Bi (OT 0) (BA AA AA.length) (BA AA AA.length).length).length+(Bi (OT 1) (BA AA AA.length) (BA AA AA.length).length).length+(Bi (OT 2) (BA AA AA.length) (BA AA AA.length).length).length=(BA AA AA.length).length /\
  (∀p:Nat,p<3->∃r,Bi (OT (p:Int)) (BA AA AA.length) (BA AA AA.length).length=(p:Int)::r)/\∀j,3<=j->j<(BA AA AA.length).length->JI AA (BA AA AA.length) j:=by
 simp only[AQ,Bool.and_eq_true,decide_eq_true_eq] at h;obtain⟨⟨⟨⟨h1,h2⟩,h3⟩,h4⟩,_⟩:=h;have hok:∀i,i<AA.length->GI (AA.getD i [])=true:=fun i hi=>Bo [] h2 i hi
 have hl:=Hz hok AA.length (Nat.le_refl _);obtain⟨⟨t,ht⟩,hg⟩:=Mr hok AA.length (Nat.le_refl _);refine⟨by omega,hl,Uu _ (fun j hj=>?_),fun p hp=>WQ ht p hp,hg⟩;by_cases hj3:3<=j
 . exact Td hok (hg j hj3 hj)
 ·
  obtain⟨b0,b1,b2⟩:=Pn ht;have:j=0\/j=1\/j=2:=by omega
  rcases this with rfl|rfl|rfl
  . rw[b0];decide
  . rw[b1];decide
  . rw[b2];decide
def Gq (ds:List Dd)(k:Nat):Bool:=decide (0<k)&&((ds.getD k zD).2.2.2 != 0)&&((ds.getD k zD).2.2.2==(ds.getD (k-1) zD).2.2.2)
def NG (out:List Ev):Int:=bH (out.getD (out.length-1) zE)
def Ns (out:List Ev)(go:Bool):Int:=if go=true then NG out else (out.length:Int)
def Kv (i:Nat)(ds:List Dd)(out:List Ev):Nat->List Ev
 | 0=>out
 |k+1=>Kv i ds out k++Cs i k (ds.getD k zD) (Ns (Kv i ds out k) (Gq ds k))
def Ta (AA:List (List Dd)):Nat->List Ev
 | 0=>CZ
 |i+1=>Kv i (AA.getD i []) (Ta AA i) (AA.getD i []).length
def vD (ds:List Dd):Prop:=∀k j,k<ds.length->j<k->(ds.getD k zD).2.2.2≠0->(ds.getD j zD).2.2.2=(ds.getD k zD).2.2.2->(ds.getD (k-1) zD).2.2.2=(ds.getD k zD).2.2.2
theorem Rv {i:Nat}{own:List Int}{ds:List Dd}(hl:own.length=10):∀(k:Nat) (o:List Int),Cq i own ds k=some o->(∀j,j<k->Fm (ds.getD j zD)=true) ->
  ∀j,j<k->(ds.getD j zD).2.2.2≠0->o.getD (ds.getD j zD).2.2.2.toNat 0=(i:Int)+1
 | 0,o,h,_,j,hj,_=>by omega
 |k+1,o',h,hok,j,hj,h0=>by
  rw[Cq] at h
  cases hq:Cq i own ds k with
  |none=>rw[hq] at h;cases h
  |some o=>
   rw[hq] at h;have ih:=Rv hl k o hq (fun j hj=>hok j (by omega));have hol:=KH hq;simp only at h;have okj:=Ch (hok j hj);split at h
   ·
    rename_i hz;simp only[Option.some.injEq] at h;subst h;by_cases e:j=k
    . subst e;exact absurd hz h0
    . exact ih j (by omega) h0
   ·
    rename_i hz;split at h
    . cases h
    ·
     simp only[Option.some.injEq] at h;subst h;have MS:=Ch (hok k (by omega));rw[Cg o _ _ _ (by omega)];by_cases e:(ds.getD k zD).2.2.2.toNat=(ds.getD j zD).2.2.2.toNat
     . rw[if_pos e]
     ·
      rw[if_neg e];by_cases e2:j=k
      . subst e2;exact absurd rfl e
      . exact ih j (by omega) h0
theorem Y4 {i:Nat}{own:List Int}{ds:List Dd}(hl:own.length=10){o:List Int}(h:Cq i own ds ds.length=some o)(hok:∀j,j<ds.length->Fm (ds.getD j zD)=true):vD ds:=by
 intro k j hk hj h0 he
 have step:∃o',Cq i own ds (k+1)=some o':=by
  cases hq:Cq i own ds (k+1) with
  |none=>rw[LB hq ds.length (by omega)] at h;cases h
  |some o'=>exact⟨o',rfl⟩
 obtain⟨o',ho'⟩:=step;rw[Cq] at ho'
 cases hq:Cq i own ds k with
 |none=>rw[hq] at ho';cases ho'
 |some o1=>
  rw[hq] at ho';have hown:=Rv hl k o1 hq (fun j hj=>hok j (by omega)) j hj (by rw[he];exact h0);rw[he] at hown;simp only at ho';rw[if_neg h0] at ho';split at ho'
  . cases ho'
  ·
   rename_i hn;apply Classical.byContradiction;intro hc;exact hn ⟨by rw[hown];omega,.inr (.inr hc)⟩
theorem Sw {AA:List (List Dd)}(hb:AQ AA=true):∀i,i<AA.length->vD (AA.getD i []):=by
 intro i hi;simp only[AQ,Bool.and_eq_true,decide_eq_true_eq] at hb;obtain⟨⟨⟨⟨_,h2⟩,_⟩,_⟩,hg⟩:=hb;have hok:=Bo [] h2 i hi;simp only[GI,Bool.and_eq_true,decide_eq_true_eq] at hok
 have hs:∀n,n<=AA.length->∃o,Eg AA n=some o:=by
  intro n hn
  cases hq:Eg AA n with
  |none=>rw[KE,LC hq AA.length hn] at hg;cases hg
  |some o=>exact⟨o,rfl⟩
 obtain⟨o,ho⟩:=hs i (by omega);obtain⟨o',ho'⟩:=hs (i+1) (by omega);rw[Eg,ho] at ho';exact Y4 (Mu ho) ho' (fun j hj=>Bo zD hok.1 j hj)
theorem WT (out t:List Ev)(e:Ev):NG (out++(t++[e]))=bH e:=by
 unfold NG;rw[<-List.append_assoc,List.length_append,List.getD_eq_getElem?_getD];simp
theorem Oi {i:Nat}{ds:List Dd}{out:List Ev}(ht:vD ds)(hok:∀j,j<ds.length->Fm (ds.getD j zD)=true)(ho:1<=out.length):
  ∀k:Nat,k<=ds.length->Kv i ds out k=(Bg i ds out k).1/\(Bg i ds out k).2.length=10/\1<=(Bg i ds out k).1.length /\
   (∀g:Nat,0<g->g<10->(∀j,j<k->(ds.getD j zD).2.2.2≠(g:Int))->(Bg i ds out k).2.getD g 0=0) /\
   (∀j,j<k->(ds.getD j zD).2.2.2≠0->(Bg i ds out k).2.getD (ds.getD j zD).2.2.2.toNat 0≠0) /\
   (0<k->(ds.getD (k-1) zD).2.2.2≠0->(Bg i ds out k).2.getD (ds.getD (k-1) zD).2.2.2.toNat 0=NG (Bg i ds out k).1)
 | 0,_=>⟨rfl,by simp[Bg],ho,fun g _ hg _=>by simp only[Bg];rw[List.getD_eq_getElem?_getD,List.getElem?_replicate,if_pos hg];rfl,fun j hj=>by omega,fun h=>by omega⟩
 |k+1,hk=>by
  obtain⟨h1,h2,h3,h4,h5,h6⟩:=Oi ht hok ho k (by omega);have hd:=hok k (by omega);obtain⟨r0,r1,r2,r3,r4⟩:=Ch hd;have hkd:=CM hd;rw[Kv,Bg,h1,Nat.add_sub_cancel];generalize hS:Bg i ds out k=S at h2 h3 h4 h5 h6;obtain⟨L,f⟩:=S;simp only at h2 h3 h4 h5 h6;generalize hdd:ds.getD k zD=d at hd r0 r1 r2 r3 r4 hkd;have hg:Gq ds k=(decide (0<k)&&(d.2.2.2 != 0)&&(d.2.2.2==(ds.getD (k-1) zD).2.2.2)):=by rw[Gq,hdd]
  have old5:∀j,j<k->(ds.getD j zD).2.2.2≠0->(ds.getD j zD).2.2.2.toNat<10:=fun j hj _=>by
   have:=Ch (hok j (by omega));omega
  by_cases rD:d.1=4
  ·
   have g0:d.2.2.2=0:=r4 (by omega);have e1:Cs i k d (Ns L (Gq ds k))=[]:=by unfold Cs;rw[if_pos rD]
   rw[Ec,if_pos rD,e1,List.append_nil];refine⟨rfl,h2,h3,fun g hg0 hg10 hn=>h4 g hg0 hg10 (fun j hj=>hn j (by omega)),fun j hj hne=>?_,fun _ hne=>absurd g0 hne⟩;by_cases e:j=k
   . subst e;rw[hdd] at hne;exact absurd g0 hne
   . exact h5 j (by omega) hne
  ·
   rw[Ec,if_neg rD];by_cases g0:d.2.2.2=0
   ·
    have e1:Ns L (Gq ds k)=Cw d.2.2.2 L.length f:=by
     rw[hg,g0];simp[Ns,Cw]
    have e2:DH d.2.2.2 L.length f=f:=by unfold DH;rw[if_neg (by rw[g0];omega)]
    rw[e1];simp only;rw[e2];refine⟨by trivial,h2,by rw[List.length_append];omega,fun g hg0 hg10 hn=>h4 g hg0 hg10 (fun j hj=>hn j (by omega)),fun j hj hne=>?_,fun _ hne=>absurd g0 hne⟩;by_cases e:j=k
    . subst e;rw[hdd] at hne;exact absurd g0 hne
    . exact h5 j (by omega) hne
   ·
    have gp:(0:Int)<d.2.2.2:=by omega
    have k2:d.1=1\/d.1=2:=by
     apply Classical.byContradiction;intro hn;exact g0 (r4 (by omega))
    have one:∀c,∃e,Cs i k d c=[e]/\bH e=c:=by
     intro c;unfold Cs;rcases k2 with e|e
     . exact⟨_,by rw[if_neg rD,if_neg (by omega),if_neg (by omega)],rfl⟩
     . exact⟨_,by rw[if_neg rD,if_neg (by omega),if_pos e],rfl⟩
    have fin:∀c,NG (L++Cs i k d c)=c:=fun c=>by
     obtain⟨e,he,hc⟩:=one c;rw[he,<-hc];exact WT L [] e
    by_cases hgo:0<k/\(ds.getD (k-1) zD).2.2.2=d.2.2.2
    ·
     obtain⟨k0,hgo⟩:=hgo;have e0:Gq ds k=true:=by rw[hg,hgo];simp[k0,g0]
     have f0:f.getD d.2.2.2.toNat 0≠0:=by have:=h5 (k-1) (by omega) (by rw[hgo];exact g0);rw[hgo] at this;exact this
     have f1:f.getD d.2.2.2.toNat 0=NG L:=by have:=h6 k0 (by rw[hgo];exact g0);rw[hgo] at this;exact this
     have e2:DH d.2.2.2 L.length f=f:=by unfold DH;rw[if_neg (fun h=>f0 h.2)]
     have e1:Ns L (Gq ds k)=Cw d.2.2.2 L.length f:=by
      rw[e0];unfold Ns Cw;rw[if_pos rfl,if_pos gp,e2,f1]
     have e3:Cw d.2.2.2 L.length f=f.getD d.2.2.2.toNat 0:=by unfold Cw;rw[if_pos gp,e2]
     rw[e1];simp only;rw[e2];refine⟨by trivial,h2,by rw[List.length_append];omega,fun g hg0 hg10 hn=>h4 g hg0 hg10 (fun j hj=>hn j (by omega)),fun j hj hne=>?_,fun _ _=>?_⟩
     ·
      by_cases e:j=k
      . subst e;rw[hdd];exact f0
      . exact h5 j (by omega) hne
     . rw[fin,e3]
    ·
     have none:∀j,j<k->(ds.getD j zD).2.2.2≠d.2.2.2:=by
      intro j hj he;refine hgo ⟨by omega,?_⟩;have:=ht k j (by omega) hj (by rw[hdd];exact g0) (by rw[hdd];exact he);rw[hdd] at this;exact this
     obtain⟨g,hgg⟩:=Int.eq_ofNat_of_zero_le r2;have g10:g<10:=by omega
     have f0:f.getD d.2.2.2.toNat 0=0:=by
      rw[hgg,Int.toNat_natCast];exact h4 g (by omega) g10 (fun j hj=>by rw[<-hgg];exact none j hj)
     have e0:Gq ds k=false:=by
      rw[hg];by_cases k0:0<k
      ·
       have:¬(d.2.2.2=(ds.getD (k-1) zD).2.2.2):=fun e=>hgo ⟨k0,e.symm⟩
       have e:(d.2.2.2==(ds.getD (k-1) zD).2.2.2)=false:=by simpa using this
       rw[e,Bool.and_false]
      . simp[k0]
     have e2:DH d.2.2.2 L.length f=f.set d.2.2.2.toNat (L.length:Int):=by unfold DH;rw[if_pos ⟨gp,f0⟩]
     have e3:Cw d.2.2.2 L.length f=(L.length:Int):=by
      unfold Cw;rw[if_pos gp,e2,Cg f _ _ _ (by omega),if_pos rfl]
     have e1:Ns L (Gq ds k)=Cw d.2.2.2 L.length f:=by rw[e0,e3];simp[Ns]
     rw[e1];simp only;rw[e2];refine⟨by trivial,by rw[List.length_set];exact h2,by rw[List.length_append];omega,fun q hq0 hq10 hn=>?_,fun j hj hne=>?_,fun _ _=>?_⟩
     ·
      have hqk:=hn k (by omega);rw[hdd] at hqk;rw[Cg f _ _ _ (by omega),if_neg (by omega)];exact h4 q hq0 hq10 (fun j hj=>hn j (by omega))
     ·
      by_cases e:j=k
      ·
       subst e;rw[hdd,Cg f _ _ _ (by omega),if_pos rfl];omega
      ·
       have nj:=none j (by omega);have okj:=Ch (hok j (by omega));rw[Cg f _ _ _ (by omega),if_neg (by omega)];exact h5 j (by omega) hne
     . rw[fin,e3,Cg f _ _ _ (by omega),if_pos rfl]
theorem Op {AA:List (List Dd)}(hb:AQ AA=true):∀n:Nat,n<=AA.length->Ta AA n=BA AA n/\1<=(BA AA n).length
 | 0,_=>⟨rfl,by simp[BA,CZ]⟩
 |n+1,h=>by
  obtain⟨h1,h2⟩:=Op hb n (by omega);have ht:=Sw hb n (by omega);simp only[AQ,Bool.and_eq_true,decide_eq_true_eq] at hb;obtain⟨⟨⟨⟨_,ha⟩,_⟩,_⟩,_⟩:=hb;have hok:=Bo [] ha n (by omega);simp only[GI,Bool.and_eq_true,decide_eq_true_eq] at hok;obtain⟨q1,_,q3,_⟩:=Oi (i:=n) ht (fun j hj=>Bo zD hok.1 j hj) h2 (AA.getD n []).length (Nat.le_refl _);rw[Ta,BA,h1,q1];exact⟨rfl,q3⟩
theorem Bl {a b:Bool}(h:a=b):Ending.returned (.bool a) = .returned (.bool b):=by rw[h]
theorem Qm {k:IntKind}{a b:Int}(h:a=b):Ending.returned (.int k a) = .returned (.int k b):=by rw[h]
theorem It (a:Nat)(ha:a<9223372036854775808):(BitVec.ofInt 64 (a:Int)).toNat=a:=ofInt_u64 a (by omega)
theorem Mw (a b:Nat)(ha:a<9223372036854775808)(hb:b<9223372036854775808):bits .or .i64 (a:Int) (b:Int)=((a ||| b:Nat):Int):=by
 have hx:a ||| b<2 ^ 63:=Nat.or_lt_two_pow (by omega) (by omega);show IntKind.i64.wrap ((BitVec.ofInt 64 (a:Int) ||| BitVec.ofInt 64 (b:Int)).toNat:Int)=_;rw[BitVec.toNat_or,It a ha,It b hb,IntKind.wrap_i64];omega
theorem Lr (a b:Nat)(ha:a<9223372036854775808)(hb:b<9223372036854775808):bits .and .i64 (a:Int) (b:Int)=((a &&& b:Nat):Int):=by
 have hx:a &&& b<2 ^ 63:=Nat.and_lt_two_pow _ (by omega);show IntKind.i64.wrap ((BitVec.ofInt 64 (a:Int) &&& BitVec.ofInt 64 (b:Int)).toNat:Int)=_;rw[BitVec.toNat_and,It a ha,It b hb,IntKind.wrap_i64];omega
theorem Zn (n:Nat)(h:n<=12):(2:Int) ^ n<=4096/\(1:Int)<=2 ^ n:=by
 have:n=0\/n=1\/n=2\/n=3\/n=4\/n=5\/n=6\/n=7\/n=8\/n=9\/n=10\/n=11\/n=12:=by omega
 rcases this with rfl|rfl|rfl|rfl|rfl|rfl|rfl|rfl|rfl|rfl|rfl|rfl|rfl<;>decide
theorem Dy (x:Int)(h1:-9223372036854775808<=x)(h2:x<=9223372036854775807):wrap64 x=x:=by
 simp only[wrap64];omega
theorem Nq (n:Int)(h0:0<=n)(h:n<=12):wrap64 (2 ^ n.toNat)=2 ^ n.toNat:=by
 have:=Zn n.toNat (by omega);exact Dy _ (by omega) (by omega)
def Cj (x lo hi:Int):Bool:=decide (lo<=x/\x<=hi)
def mh (n s:Int):Bool:=decide ((0<=n/\n<=12)/\0<=s/\s<2 ^ n.toNat)
def fH (s i:Int):Bool:=bits .and .i64 (s / 2 ^ i.toNat) 1==1
def FT (s i:Int):Bool:=Cj i 0 11&&Cj s 0 4095&&fH s i
def ME (s i:Int):Int:=if s=-1\/Cj i 0 11=false then -1 else bits .or .i64 s (wrap64 (2 ^ i.toNat))
theorem Yw (s i:Int)(h:Cj i 0 11=false):ME s i=-1:=by simp[ME,h]
theorem WN (i:Int):ME (-1) i=-1:=by simp[ME]
theorem gH (s i:Int)(h0:0<=s)(h:Cj i 0 11=true):ME s i=bits .or .i64 s (wrap64 (2 ^ i.toNat)):=by
 have:¬s=-1:=by omega
 simp[ME,h,this]
theorem Gf (l:List Int)(k:Nat)(h:k<l.length):l.take (k+1)=l.take k++[l.getD k 0]:=by
 rw[List.take_succ_eq_append_getElem h,List.getD_eq_getElem?_getD,List.getElem?_eq_getElem h];rfl
theorem YO (a i:Nat)(ha:a<4096):fH (a:Int) (i:Int)=a.testBit i:=by
 unfold fH;have hd:a / 2 ^ i<=a:=Nat.div_le_self _ _;have e:((a:Int) / 2 ^ (i:Int).toNat)=((a / 2 ^ i:Nat):Int):=by simp
 rw[e,show (1:Int)=((1:Nat):Int) from rfl,Lr _ _ (by omega) (by omega),Nat.and_one_is_mod,Nat.testBit_eq_decide_div_mod_eq];generalize a / 2 ^ i % 2=r;rw[Bool.eq_iff_iff,beq_iff_eq,decide_eq_true_eq];omega
theorem M3 (a i:Nat)(ha:a<4096)(hi:i<12):FT (a:Int) (i:Int)=a.testBit i:=by
 have h1:Cj (i:Int) 0 11=true:=by unfold Cj;simp;omega
 have h2:Cj (a:Int) 0 4095=true:=by unfold Cj;simp;omega
 simp[FT,h1,h2,YO a i ha]
theorem Yx (a i:Nat)(ha:a<4096)(hi:i<12):ME (a:Int) (i:Int)=((a ||| 2 ^ i:Nat):Int):=by
 have h1:Cj (i:Int) 0 11=true:=by unfold Cj;simp;omega
 rw[gH _ _ (by omega) h1,Nq _ (by omega) (by omega)];have hq:(2:Nat) ^ i<2 ^ 12:=Nat.pow_lt_pow_right (by omega) hi;have e:((2:Int) ^ (i:Int).toNat)=((2 ^ i:Nat):Int):=by simp
 rw[e,Mw a _ (by omega) (by omega)]
theorem sO (a i:Nat)(ha:a<4096)(hi:i<12):a ||| 2 ^ i<4096:=by
 have hq:(2:Nat) ^ i<2 ^ 12:=Nat.pow_lt_pow_right (by omega) hi;exact Nat.or_lt_two_pow (n:=12) ha hq
def kX (es:List Ev)(i k:Nat):Bool:=decide (i<k)&&((decide (i<3)&&decide (3<=k))||(decide (3<=i)&&((es.getD i zE).1==(es.getD k zE).1)))
def Eu (d:Dd):Bool:=(d.1==3)||decide (0<d.2.2.2)
def Q0 (ds:List Dd)(lo hi:Nat):Bool:=(List.range hi).any (fun j=>decide (lo<j)&&((ds.getD j zD).1==4))
theorem Xa {ds:List Dd}{lo hi:Nat}(h:∀j,lo<j->j<hi->(ds.getD j zD).1≠4):Q0 ds lo hi=false:=by
 unfold Q0;rw[List.any_eq_false];intro j hj;rw[List.mem_range] at hj;by_cases hl:lo<j
 ·
  have:=h j hl hj;simp[hl];simpa using this
 . simp[hl]
def oM (AA:List (List Dd))(e:Ev):Dd:=(AA.getD e.1.toNat []).getD e.2.1.toNat zD
def sD (AA:List (List Dd))(a b:Ev):Bool:=!(Ah a)&&Ah b&&(bH a != bH b)&&(!Q0 (AA.getD a.1.toNat []) a.2.1.toNat b.2.1.toNat&&!Eu (oM AA a)&&!Eu (oM AA b))
def mI (AA:List (List Dd))(es:List Ev)(i k:Nat):Bool:=decide (3<=i)&&kX es i k&&sD AA (es.getD i zE) (es.getD k zE)
abbrev Al (AA:List (List Dd))(c k:Nat):Dd:=(AA.getD c []).getD k zD
def Ac (AA:List (List Dd))(c k:Nat):Nat:=(Bg c (AA.getD c []) (BA AA c) k).1.length
def FY (d:Dd):Nat:=if d.1=4 then 0 else if d.1=3 then 2 else 1
theorem Zj (i k:Nat)(d:Dd)(c:Int):(Cs i k d c).length=FY d:=by
 unfold Cs FY;split
 . rfl
 ·
  split
  . rfl
  . split<;>rfl
def Cz (AA:List (List Dd))(c k:Nat):Int:=Cw (Al AA c k).2.2.2 (Ac AA c k) (Bg c (AA.getD c []) (BA AA c) k).2
theorem Mi (AA:List (List Dd))(c k:Nat):(Bg c (AA.getD c []) (BA AA c) (k+1)).1=(Bg c (AA.getD c []) (BA AA c) k).1++Cs c k (Al AA c k) (Cz AA c k):=by
 rw[Bg,Ec];split
 ·
  rename_i h;have e:Cs c k (Al AA c k) (Cz AA c k)=[]:=by unfold Cs;rw[if_pos h]
  rw[e,List.append_nil]
 . rfl
theorem NP (AA:List (List Dd))(c k:Nat):Ac AA c (k+1)=Ac AA c k+FY (Al AA c k):=by
 unfold Ac;rw[Mi,List.length_append,Zj]
theorem NQ (AA:List (List Dd))(c:Nat):Ac AA c 0=(BA AA c).length:=rfl
theorem VC (AA:List (List Dd))(c:Nat):(BA AA (c+1)).length=Ac AA c (AA.getD c []).length:=rfl
theorem MM (AA:List (List Dd))(c k:Nat):∀n:Nat,k<=n->∃t,(Bg c (AA.getD c []) (BA AA c) n).1=(Bg c (AA.getD c []) (BA AA c) k).1++t
 | 0,h=>by
  obtain rfl:k=0:=by omega
  exact⟨[],by simp⟩
 |n+1,h=>by
  by_cases e:k=n+1
  . subst e;exact⟨[],by simp⟩
  ·
   obtain⟨t,ht⟩:=MM AA c k n (by omega);exact⟨t++Cs c n (Al AA c n) (Cz AA c n),by rw[Mi,ht,List.append_assoc]⟩
theorem Gp (AA:List (List Dd))(c:Nat):∀n:Nat,c<=n->∃t,BA AA n=BA AA c++t
 | 0,h=>by
  obtain rfl:c=0:=by omega
  exact⟨[],by simp⟩
 |n+1,h=>by
  by_cases e:c=n+1
  . subst e;exact⟨[],by simp⟩
  ·
   obtain⟨t,ht⟩:=Gp AA c n (by omega);obtain⟨t2,h2⟩:=MM AA n 0 (AA.getD n []).length (Nat.zero_le _);refine⟨t++t2,?_⟩;show (Bg n (AA.getD n []) (BA AA n) (AA.getD n []).length).1=_;rw[h2];show BA AA n++t2=_;rw[ht,List.append_assoc]
theorem jQ {AA:List (List Dd)}{c k n:Nat}(hc:c<n)(hk:k<(AA.getD c []).length){i:Nat}{e:Ev}(h:(Cs c k (Al AA c k) (Cz AA c k))[i]? = some e):(BA AA n)[Ac AA c k+i]? = some e:=by
 obtain⟨t1,h1⟩:=Gp AA (c+1) n hc;obtain⟨t2,h2⟩:=MM AA c (k+1) (AA.getD c []).length hk;rw[h1];refine Ia t1 ?_;show (Bg c (AA.getD c []) (BA AA c) (AA.getD c []).length).1[Ac AA c k+i]? = some e;rw[h2];refine Ia t2 ?_;rw[Mi,List.getElem?_append_right (by unfold Ac;omega)];show (Cs c k (Al AA c k) (Cz AA c k))[Ac AA c k+i-Ac AA c k]? = some e;rw[show Ac AA c k+i-Ac AA c k=i by omega];exact h
theorem Uf (AA:List (List Dd))(c:Nat){j:Nat}(h0:Ac AA c 0<=j):∀k:Nat,j<Ac AA c k->∃k' i,k'<k/\i<FY (Al AA c k')/\j=Ac AA c k'+i
 | 0,h=>by omega
 |k+1,h=>by
  by_cases hj:j<Ac AA c k
  ·
   obtain⟨k',i,h1,h2,h3⟩:=Uf AA c h0 k hj;exact⟨k',i,by omega,h2,h3⟩
  ·
   rw[NP] at h;exact⟨k,j-Ac AA c k,by omega,by omega,by omega⟩
theorem Yn (AA:List (List Dd)){j:Nat}(h3:3<=j):∀n:Nat,j<(BA AA n).length->∃c k i,c<n/\k<(AA.getD c []).length/\i<FY (Al AA c k)/\j=Ac AA c k+i
 | 0,h=>by simp[BA,CZ] at h;omega
 |n+1,h=>by
  by_cases hj:j<(BA AA n).length
  ·
   obtain⟨c,k,i,h1,h2⟩:=Yn AA h3 n hj;exact⟨c,k,i,by omega,h2⟩
  ·
   rw[VC] at h;obtain⟨k,i,h1,h2⟩:=Uf AA n (by rw[NQ];omega) _ h;exact⟨n,k,i,by omega,h1,h2⟩
theorem Qb (AA:List (List Dd))(c:Nat){k k':Nat}(h:k<=k'):Ac AA c k<=Ac AA c k':=by
 obtain⟨t,ht⟩:=MM AA c k k' h;unfold Ac;rw[ht,List.length_append];omega
theorem IP {AA:List (List Dd)}{c c' k k':Nat}(hk:k<(AA.getD c []).length)(h:c<c'\/(c=c'/\k<k')):Ac AA c k+FY (Al AA c k)<=Ac AA c' k':=by
 rcases h with h|⟨rfl,h⟩
 ·
  have h1:=Qb AA c (k:=k+1) (k':=(AA.getD c []).length) hk;rw[NP] at h1;obtain⟨t,ht⟩:=Gp AA (c+1) c' h;have h2:=Qb AA c' (Nat.zero_le k');rw[NQ,ht,List.length_append,VC] at h2;omega
 ·
  have h1:=Qb AA c (k:=k+1) (k':=k') h;rw[NP] at h1;exact h1
theorem Iu (AA:List (List Dd))(c k:Nat):3<=Ac AA c k:=by
 obtain⟨t,ht⟩:=Gp AA 0 c (Nat.zero_le _);have h:=Qb AA c (Nat.zero_le k);rw[NQ,ht,List.length_append] at h;simp[BA,CZ] at h;omega
abbrev BP (AA:List (List Dd))(c k:Nat):Int:=(Al AA c k).2.2.2
def kH (AA:List (List Dd))(c:Nat):Prop:=∀k,k<(AA.getD c []).length->Fm (Al AA c k)=true
theorem CG {AA:List (List Dd)}(h:AQ AA=true){c:Nat}(hc:c<AA.length):kH AA c:=by
 simp only[AQ,Bool.and_eq_true,decide_eq_true_eq] at h;obtain⟨⟨⟨⟨_,h2⟩,_⟩,_⟩,_⟩:=h;have h3:=Bo [] h2 c hc;unfold GI at h3;rw[Bool.and_eq_true] at h3;exact fun k hk=>Bo zD h3.1 k hk
theorem Yy {AA:List (List Dd)}{c k:Nat}(h:kH AA c)(hk:k<(AA.getD c []).length):0<=BP AA c k/\BP AA c k<=9/\(2<(Al AA c k).1->BP AA c k=0):=
 ⟨(Ch (h k hk)).2.2.1,(Ch (h k hk)).2.2.2.1,(Ch (h k hk)).2.2.2.2⟩
theorem Un (AA:List (List Dd))(c:Nat):∀k:Nat,(Bg c (AA.getD c []) (BA AA c) k).2.length=10
 | 0=>by simp[Bg]
 |k+1=>by
  have ih:=Un AA c k;rw[Bg,Ec];split
  . exact ih
  ·
   show (DH _ _ _).length=10;unfold DH;split
   . rw[List.length_set];exact ih
   . exact ih
theorem Yv {AA:List (List Dd)}{c:Nat}(hok:kH AA c){g:Nat}(h0:0<g)(h9:g<=9):∀k:Nat,k<=(AA.getD c []).length ->
  ((Bg c (AA.getD c []) (BA AA c) k).2.getD g 0=0/\∀j,j<k->BP AA c j≠g) \/
  ∃j,j<k/\BP AA c j=g/\(∀i,i<j->BP AA c i≠g)/\(Bg c (AA.getD c []) (BA AA c) k).2.getD g 0=(Ac AA c j:Int)
 | 0,_ => .inl ⟨by
   show (List.replicate 10 (0:Int)).getD g 0=0;rw[List.getD_eq_getElem?_getD,List.getElem?_replicate]
   split<;>rfl,fun j hj=>by omega⟩
 |k+1,hk=>by
  have ih:=Yv hok h0 h9 k (by omega);have hl:=Un AA c k;have hd:=Yy hok (k:=k) (by omega);have hkk:=CM (hok k (by omega));by_cases h4:(Al AA c k).1=4
  ·
   have e:(Bg c (AA.getD c []) (BA AA c) (k+1)).2=(Bg c (AA.getD c []) (BA AA c) k).2:=by
    rw[Bg,Ec,if_pos h4]
   have hg:BP AA c k=0:=hd.2.2 (by omega);rw[e];rcases ih with ⟨h1,h2⟩|⟨j,h1,h2,h3,h5⟩
   ·
    refine .inl ⟨h1,fun j hj=>?_⟩;by_cases e:j=k
    . subst e;omega
    . exact h2 j (by omega)
   . exact .inr ⟨j,by omega,h2,h3,h5⟩
  ·
   have e:(Bg c (AA.getD c []) (BA AA c) (k+1)).2=DH (BP AA c k) (Ac AA c k) (Bg c (AA.getD c []) (BA AA c) k).2:=by
    rw[Bg,Ec,if_neg h4];rfl
   rw[e];by_cases hg:BP AA c k=(g:Int)
   ·
    rcases ih with ⟨h1,h2⟩|⟨j,h1,h2,h3,h5⟩
    ·
     refine .inr ⟨k,by omega,hg,h2,?_⟩;unfold DH;rw[hg,Int.toNat_natCast,if_pos ⟨by omega,h1⟩,Cg _ _ _ _ (by omega),if_pos rfl]
    ·
     refine .inr ⟨j,by omega,h2,h3,?_⟩;have h6:=Iu AA c j;unfold DH;rw[hg,Int.toNat_natCast,if_neg (by rw[h5];omega)];exact h5
   ·
    have e2:(DH (BP AA c k) (Ac AA c k) (Bg c (AA.getD c []) (BA AA c) k).2).getD g 0=(Bg c (AA.getD c []) (BA AA c) k).2.getD g 0:=by
     unfold DH;split
     ·
      rename_i hp;have hx:(BP AA c k).toNat<=9:=by have:=hd.2.1;omega
      rw[Cg _ _ _ _ (by omega),if_neg (by omega)]
     . rfl
    rw[e2];rcases ih with ⟨h1,h2⟩|⟨j,h1,h2,h3,h5⟩
    ·
     refine .inl ⟨h1,fun j hj=>?_⟩;by_cases e:j=k
     . subst e;exact hg
     . exact h2 j (by omega)
    . exact .inr ⟨j,by omega,h2,h3,h5⟩
theorem Kw {AA:List (List Dd)}{c k:Nat}(hok:kH AA c)(hk:k<(AA.getD c []).length)(h4:(Al AA c k).1≠4):
  (BP AA c k=0/\Cz AA c k=(Ac AA c k:Int))\/(BP AA c k≠0/\∃j,j<=k/\BP AA c j=BP AA c k/\(∀i,i<j->BP AA c i≠BP AA c k)/\Cz AA c k=(Ac AA c j:Int)):=by
 have hd:=Yy hok hk;by_cases hg:BP AA c k=0
 ·
  refine .inl ⟨hg,?_⟩;unfold Cz Cw;rw[if_neg (by have:(Al AA c k).2.2.2=0:=hg;omega)]
 ·
  obtain⟨g,hgg⟩:=Int.eq_ofNat_of_zero_le hd.1;have hgg':BP AA c k=(g:Int):=hgg;have h9:g<=9:=by have:=hd.2.1;omega
  refine .inr ⟨hg,?_⟩;have h1:=Yv hok (g:=g) (by omega) h9 (k+1) hk
  have e:(Bg c (AA.getD c []) (BA AA c) (k+1)).2=DH (BP AA c k) (Ac AA c k) (Bg c (AA.getD c []) (BA AA c) k).2:=by
   rw[Bg,Ec,if_neg h4];rfl
  rw[e] at h1;rcases h1 with ⟨_,h2⟩|⟨j,h1,h2,h3,h5⟩
  . exact absurd hgg' (h2 k (by omega))
  ·
   refine⟨j,by omega,by rw[hgg'];exact h2,fun i hi=>by rw[hgg'];exact h3 i hi,?_⟩;unfold Cz Cw;rw[if_pos (by have:(Al AA c k).2.2.2=(g:Int):=hgg';omega)];have hq:(Al AA c k).2.2.2.toNat=g:=by have:(Al AA c k).2.2.2=(g:Int):=hgg';omega
   rw[hq];exact h5
theorem MR {AA:List (List Dd)}{c c' k k':Nat}(hk:k<(AA.getD c []).length)(hk':k'<(AA.getD c' []).length)(h1:0<FY (Al AA c k))(h2:0<FY (Al AA c' k'))(e:Ac AA c k=Ac AA c' k'):c=c'/\k=k':=by
 by_cases hc:c<c'
 . have:=IP (k':=k') hk (.inl hc);omega
 by_cases hc':c'<c
 . have:=IP (k':=k) hk' (.inl hc');omega
 obtain rfl:c=c':=by omega
 refine⟨rfl,?_⟩;by_cases hkk:k<k'
 . have:=IP (c':=c) (k':=k') hk (.inr ⟨rfl,hkk⟩);omega
 by_cases hkk':k'<k
 . have:=IP (c':=c) (k':=k) hk' (.inr ⟨rfl,hkk'⟩);omega
 omega
theorem FB {AA:List (List Dd)}{c k:Nat}(hok:kH AA c)(hk:k<(AA.getD c []).length)(hg:BP AA c k≠0):(Al AA c k).1≠4/\(Al AA c k).1≠3/\0<FY (Al AA c k):=by
 have hd:=Yy hok hk;have hkk:=CM (hok k hk);have h3:¬ 2<(Al AA c k).1:=fun h=>hg (hd.2.2 h)
 refine⟨by omega,by omega,?_⟩;unfold FY;rw[if_neg (by omega),if_neg (by omega)];omega
theorem Kc {d:Dd}(h:d.1≠4):0<FY d:=by
 unfold FY;rw[if_neg h];split<;>omega
theorem Ib {AA:List (List Dd)}{c c' k k':Nat}(hok:kH AA c)(hok':kH AA c')(hk:k<(AA.getD c []).length)(hk':k'<(AA.getD c' []).length)(h4:(Al AA c k).1≠4)(h4':(Al AA c' k').1≠4):
  Cz AA c k=Cz AA c' k'↔c=c'/\(k=k'\/(BP AA c k≠0/\BP AA c k=BP AA c' k')):=by
 constructor
 ·
  intro e;rcases Kw hok hk h4 with ⟨g1,e1⟩|⟨g1,j,j1,j2,j3,e1⟩
  ·
   rcases Kw hok' hk' h4' with ⟨g2,e2⟩|⟨g2,j',l1,l2,l3,e2⟩
   ·
    rw[e1,e2] at e;obtain⟨rfl,rfl⟩:=MR hk hk' (Kc h4) (Kc h4') (by omega);exact⟨rfl,.inl rfl⟩
   ·
    rw[e1,e2] at e;obtain⟨rfl,rfl⟩:=MR (k':=j') hk (by omega) (Kc h4) (FB (k:=j') hok' (by omega) (by rw[l2];exact g2)).2.2 (by omega);exact absurd (l2.symm.trans g1) g2
  ·
   rcases Kw hok' hk' h4' with ⟨g2,e2⟩|⟨g2,j',l1,l2,l3,e2⟩
   ·
    rw[e1,e2] at e;obtain⟨rfl,rfl⟩:=MR (k:=j) (by omega) hk' (FB (k:=j) hok (by omega) (by rw[j2];exact g1)).2.2 (Kc h4') (by omega);exact absurd (j2.symm.trans g2) g1
   ·
    rw[e1,e2] at e;obtain⟨rfl,rfl⟩:=MR (k:=j) (k':=j') (by omega) (by omega) (FB (k:=j) hok (by omega) (by rw[j2];exact g1)).2.2 (FB (k:=j') hok' (by omega) (by rw[l2];exact g2)).2.2 (by omega);exact⟨rfl,.inr ⟨g1,by rw[<-j2,l2]⟩⟩
 ·
  rintro⟨rfl,rfl|⟨g1,g2⟩⟩
  . rfl
  ·
   rcases Kw hok hk h4 with ⟨g0,_⟩|⟨_,j,j1,j2,j3,e1⟩
   . exact absurd g0 g1
   rcases Kw hok' hk' h4' with ⟨g0,_⟩|⟨_,j',l1,l2,l3,e2⟩
   . rw[g0] at g2;exact absurd g2 g1
   rw[e1,e2]
   have:j=j':=by
    by_cases a:j<j'
    . exact absurd (by rw[j2,g2]) (l3 j a)
    by_cases a':j'<j
    . exact absurd (by rw[l2,g2]) (j3 j' a')
    omega
   rw[this]
def Kh (d:Dd)(i:Nat):Bool:=decide (d.1≠2)&&decide (i=0)
def XI (d:Dd)(i:Nat):Int:=if Kh d i=true then 0 else d.2.2.1
theorem VE {c k:Nat}{d:Dd}{z:Int}(hd:d.1=1\/d.1=2\/d.1=3\/d.1=4){i:Nat}(hi:i<FY d):(Cs c k d z)[i]? = some ((c:Int),(k:Int),Kh d i,d.2.1,XI d i,z):=by
 unfold FY at hi;unfold Cs XI Kh;rcases hd with h|h|h|h
 ·
  rw[if_neg (by omega),if_neg (by omega)] at hi;rw[if_neg (by omega),if_neg (by omega),if_neg (by omega)];obtain rfl:i=0:=by omega
  simp[h]
 ·
  rw[if_neg (by omega),if_neg (by omega)] at hi;rw[if_neg (by omega),if_neg (by omega),if_pos h];obtain rfl:i=0:=by omega
  simp[h]
 ·
  rw[if_neg (by omega),if_pos h] at hi;rw[if_neg (by omega),if_pos h];rcases (by omega:i=0\/i=1) with rfl|rfl
  . simp[h]
  . simp
 ·
  rw[if_pos h] at hi;omega
structure Dz (AA:List (List Dd))(j c k i:Nat):Prop where
 hc:c<AA.length
 hk:k<(AA.getD c []).length
 hi:i<FY (Al AA c k)
 hj:j=Ac AA c k+i
theorem Dz.kind {AA:List (List Dd)}{j c k i:Nat}(h:Dz AA j c k i):(Al AA c k).1≠4:=by
 intro e;have:=h.hi;unfold FY at this;rw[if_pos e] at this;omega
theorem Gn {AA:List (List Dd)}(hb:AQ AA=true){j:Nat}(h3:3<=j)(hj:j<(AB AA).length):∃c k i,Dz AA j c k i:=by
 rw[AB,if_pos hb] at hj;obtain⟨c,k,i,h1,h2,h4,h5⟩:=Yn AA h3 AA.length hj;exact⟨c,k,i,h1,h2,h4,h5⟩
theorem Dz.at {AA:List (List Dd)}(hb:AQ AA=true){j c k i:Nat}(h:Dz AA j c k i):(AB AA).getD j zE=((c:Int),(k:Int),Kh (Al AA c k) i,(Al AA c k).2.1,XI (Al AA c k) i,Cz AA c k):=by
 have hd:=CM (CG hb h.hc k h.hk);rw[AB,if_pos hb,List.getD_eq_getElem?_getD,h.hj,jQ h.hc h.hk (VE hd h.hi)];rfl
theorem Dz.lt {AA:List (List Dd)}(hb:AQ AA=true){j c k i:Nat}(h:Dz AA j c k i):3<=j/\j<(AB AA).length:=by
 have hd:=CM (CG hb h.hc k h.hk);have h1:=jQ (n:=AA.length) h.hc h.hk (VE (z:=Cz AA c k) (c:=c) (k:=k) hd h.hi);have h2:=Iu AA c k;rw[AB,if_pos hb,h.hj];exact⟨by omega,(List.getElem?_eq_some_iff.1 h1).1⟩
theorem Dz.ord {AA:List (List Dd)}{j c k i j' c' k' i':Nat}(h:Dz AA j c k i)(h':Dz AA j' c' k' i'):j<j'↔c<c'\/(c=c'/\(k<k'\/(k=k'/\i<i'))):=by
 have e1:=h.hj;have e2:=h'.hj;have l1:=h.hi;have l2:=h'.hi;constructor
 ·
  intro hlt;by_cases a:c<c'
  . exact .inl a
  by_cases b:c'<c
  . have:=IP (k':=k) h'.hk (.inl b);omega
  obtain rfl:c=c':=by omega
  refine .inr ⟨rfl,?_⟩;by_cases a:k<k'
  . exact .inl a
  by_cases b:k'<k
  . have:=IP (c':=c) (k':=k) h'.hk (.inr ⟨rfl,b⟩);omega
  obtain rfl:k=k':=by omega
  exact .inr ⟨rfl,by omega⟩
 ·
  rintro (a|⟨rfl,a|⟨rfl,a⟩⟩)
  . have:=IP (k':=k') h.hk (.inl a);omega
  . have:=IP (c':=c) (k':=k') h.hk (.inr ⟨rfl,a⟩);omega
  . omega
theorem Dz.one {AA:List (List Dd)}{j c k i c' k' i':Nat}(h:Dz AA j c k i)(h':Dz AA j c' k' i'):c=c'/\k=k'/\i=i':=by
 have a:=h.ord h';have b:=h'.ord h;by_cases hc:c=c'
 ·
  subst hc;by_cases hk:k=k'
  ·
   subst hk;exact⟨rfl,rfl,by have:=h.hj;have:=h'.hj;omega⟩
  ·
   by_cases hlt:k<k'
   . have:=a.2 (.inr ⟨rfl,.inl hlt⟩);omega
   . have:=b.2 (.inr ⟨rfl,.inl (by omega)⟩);omega
 ·
  by_cases hlt:c<c'
  . have:=a.2 (.inl hlt);omega
  . have:=b.2 (.inl (by omega));omega
theorem L8 {ds:List Dd}(ht:vD ds){j k:Nat}(hk:k<ds.length)(hg:(ds.getD k zD).2.2.2≠0)(e:(ds.getD j zD).2.2.2=(ds.getD k zD).2.2.2):∀m:Nat,j+m<k->(ds.getD (k-1-m) zD).2.2.2=(ds.getD k zD).2.2.2
 | 0,h=>ht k j hk (by omega) hg e
 |m+1,h=>by
  have ih:=L8 ht hk hg e m (by omega);have h2:=ht (k-1-m) j (by omega) (by omega) (by rw[ih];exact hg) (by rw[ih];exact e);rw[show k-1-(m+1)=k-1-m-1 by omega,h2,ih]
theorem Lq {AA:List (List Dd)}(hb:AQ AA=true){c j k l:Nat}(hc:c<AA.length)(h1:j<=k)(h2:k<=l)(hl:l<(AA.getD c []).length)(hg:BP AA c l≠0)(e:BP AA c j=BP AA c l):BP AA c k=BP AA c l:=by
 by_cases a:k=l
 . rw[a]
 by_cases b:k=j
 . rw[b];exact e
 have:=L8 (Sw hb c hc) hl hg e (l-1-k) (by omega);rw[show l-1-(l-1-k)=k by omega] at this;exact this
def Gv (l:List Int)(n:Int):Bool:=l.any (·==n)
abbrev Nt:=Int×Int×Int
structure Bd where
 AM:List Int
 AO:List Int
 AG:List (List Nt)
 AL:List Int
 sn:List Int
 fr:List Int
 rws:List (List Int)
def Cd (AA:List (List Dd)):Bd:=
 { AM:=[0,0,0],AO:=[0,1,2],AG:=List.replicate AA.length [],AL:=List.replicate AA.length 0,sn:=List.replicate (AX Ah (AB AA)).length (-1),fr:=List.replicate (AX Ah (AB AA)).length (-1),rws:=[[0],[1],[2]] }
def Ct (b:Bd)(c p:Nat):Int×Int:=
 match (b.AG.getD c []).reverse.find? (fun x=>x.1==(p:Int)) with
 |some x=>x.2
 |none=>(b.AM.getD p 0,b.AO.getD p 0)
def G3 (rs:List Int)(ev v:Int)(l:List Int):List Int:=List.zipWith (fun r x=>if r=ev then v else x) rs l
def Fo (rs:List Int)(b:Bd)(ev v f:Int):Bd:={ b with sn:=G3 rs ev v b.sn,fr:=G3 rs ev f b.fr }
def Dn (b:Bd)(p:Nat)(v ev:Int):Bd:={ b with AM:=b.AM.set p v,AO:=b.AO.set p ev,rws:=b.rws.set p (b.rws.getD p []++[ev]) }
def Kq (es:List Ev)(c k:Nat):Int:=
 match (List.range es.length).find? (fun i=>decide (3<=i)&&((es.getD i zE).1==(c:Int))&&((es.getD i zE).2.1==(k:Int))) with
 |some i=>(i:Int)
 |none=>-1
def BL (AA:List (List Dd))(es:List Ev)(b:Bd)(c k:Nat):Bd:=
 if (Al AA c k).1=1 then Fo (AX Ah es) b (Kq es c k) (Ct b c (Al AA c k).2.1.toNat).1 (Ct b c (Al AA c k).2.1.toNat).2
 else if (Al AA c k).1=3 then
  Dn (Fo (AX Ah es) b (Kq es c k) (b.AM.getD (Al AA c k).2.1.toNat 0) (b.AO.getD (Al AA c k).2.1.toNat 0)) (Al AA c k).2.1.toNat (Al AA c k).2.2.1 (Kq es c k+1)
 else if (Al AA c k).1=2/\0<BP AA c k then Dn b (Al AA c k).2.1.toNat (Al AA c k).2.2.1 (Kq es c k)
 else if (Al AA c k).1=2 then { b with AG:=b.AG.set c (b.AG.getD c []++[((Al AA c k).2.1,(Al AA c k).2.2.1,Kq es c k)]) }
 else b
def Ao (b:Bd)(c:Nat):Nat:=(b.AL.getD c 0).toNat
def Aj (AA:List (List Dd))(es:List Ev)(b:Bd)(c:Nat):Bd:=
 { BL AA es b c (Ao b c) with AL:=b.AL.set c (b.AL.getD c 0+1) }
def Ef (AA:List (List Dd))(es:List Ev)(g:Int)(c:Nat):Nat->Bd->Bd
 | 0,b=>b
 |m+1,b=>
  if g=0\/Ao (Aj AA es b c) c=(AA.getD c []).length\/BP AA c (Ao (Aj AA es b c) c)≠g then Aj AA es b c else Ef AA es g c m (Aj AA es b c)
def BT (b:Bd)(c:Nat):Bd:=
 match b.AG.getD c [] with
 | []=>b
 |x::r=>Dn { b with AG:=b.AG.set c r } x.1.toNat x.2.1 x.2.2
def Am (AA:List (List Dd))(es:List Ev)(b:Bd)(s:Int):Bd:=
 if 10<=s then BT b (s-10).toNat else Ef AA es (BP AA s.toNat (Ao b s.toNat)) s.toNat (AA.getD s.toNat []).length b
def Bh (AA:List (List Dd))(b:Bd)(c:Nat):Bool:=
 decide (Ao b c<(AA.getD c []).length)&&((decide ((Al AA c (Ao b c)).1<=2)&&decide (BP AA c (Ao b c)=0))||(b.AG.getD c []).isEmpty)
def Ad (AA:List (List Dd))(b:Bd):List Int:=
 ((List.range AA.length).filter (Bh AA b)).map (fun c:Nat=>(c:Int))++((List.range AA.length).filter (fun c=>!(b.AG.getD c []).isEmpty)).map (fun c:Nat=>10+(c:Int))
def Co (AA:List (List Dd))(b:Bd):Bool:=(List.range AA.length).all (fun c=>decide ((AA.getD c []).length<=Ao b c)&&(b.AG.getD c []).isEmpty)
structure TD where
 n:Nat
 ck:Nat->Int
 pl:Nat->Nat
 rd:Nat->Bool
 cs:Nat->Int
 ex:Nat->Nat->Bool
structure BE where
 X:Nat->Prop
 N:Int->List Nat
 R:Nat->List Nat
 F:Nat->Nat
 τ:Nat->Nat
def BE.L (S:TD)(s:BE)(c:Int)(p:Nat):List Nat:=s.R p++(s.N c).filter (fun x=>S.pl x==p)
def BE.D (S:TD)(s:BE)(j:Nat):Prop:=s.X j/\j∉s.N (S.ck j)
def BE.v (S:TD)(s:BE)(i:Nat):Nat:=if S.rd i=true then s.F i else i
abbrev bU (L:List Nat)(x y:Nat):Prop:=[x,y].Sublist L
structure Fx (S:TD)(s:BE)(T:Nat)(z:Int):Prop where
 FC:∀j,j<3->s.X j/\S.rd j=false/\S.pl j=j/\S.ck j=-1/\s.τ j=0/\S.cs j=j
 lt:∀j,s.X j->j<S.n
 down:∀i j,s.X j->3<=i->i<j->S.ck i=S.ck j->s.X i
 note:∀c x,x∈s.N c->s.X x/\3<=x/\S.ck x=c/\S.rd x=false
 LQ:∀c,(s.N c).Pairwise (·<·)
 pend:∀c x j,x∈s.N c->s.X j->x<j->S.ck j=c->(S.rd j=true/\S.ex x j=true)\/j∈s.N c
 rows:∀p x,x∈s.R p↔s.D S x/\S.rd x=false/\S.pl x=p
 OQ:∀p,(s.R p).Nodup
 UE:∀p,(s.R p).Pairwise (fun x y=>s.τ x<=s.τ y)
 OS:∀j,s.D S j->s.τ j<=T
 tpos:∀j,s.D S j->3<=j->1<=s.τ j
 same:∀i j,s.D S i->s.D S j->3<=i->3<=j->s.τ i=s.τ j->S.cs i=S.cs j
 QW:∀i j,s.D S i->s.D S j->3<=i->3<=j->S.cs i=S.cs j->s.τ i=s.τ j
 now:∀i,s.D S i->3<=i->(s.τ i=T↔S.cs i=z)
 kept:∀i j,s.D S i->s.D S j->3<=i->i<j->S.ck i=S.ck j->S.cs i≠S.cs j->S.ex i j=false->s.τ i<s.τ j
 src:∀r,s.X r->S.rd r=true->s.X (s.F r)/\S.rd (s.F r)=false/\S.pl (s.F r)=S.pl r/\((3<=s.F r/\S.ck (s.F r)=S.ck r)\/(s.D S (s.F r)/\s.τ (s.F r)<=s.τ r))
 MZ:∀r w p,s.X r->S.rd r=true->bU (s.R p) (s.F r) w->s.τ r<=s.τ w
 Xn:∀i,s.X i->3<=i->s.v S i∈s.L S (S.ck i) (S.pl i)
 fQ:∀i j,s.X i->s.X j->3<=i->i<j->S.ck i=S.ck j->S.pl i=S.pl j->s.v S i=s.v S j\/bU (s.L S (S.ck i) (S.pl i)) (s.v S i) (s.v S j)
 TR:∀i j,s.X i->s.X j->3<=i->i<j->S.ck i=S.ck j->S.pl i=S.pl j->S.rd i=true->S.rd j=false->s.F i≠j
structure qB (S:TD)(s:BE)(j:Nat):Prop where
 three:3<=j
 lt:j<S.n
 new:¬s.X j
 all:∀i,3<=i->i<j->S.ck i=S.ck j->s.X i
 last:∀i,s.X i->3<=i->S.ck i=S.ck j->i<j
theorem UV {L:List Nat}{x y:Nat}(h:bU L x y):x∈L/\y∈L:=⟨h.subset (by simp),h.subset (by simp)⟩
theorem Md {L:List Nat}{x w:Nat}(h:x∈L):bU (L++[w]) x w:=by
 have h1:[x].Sublist L:=List.singleton_sublist.2 h;exact h1.append (List.Sublist.refl [w])
theorem YN {L:List Nat}{x y:Nat}(hn:(L++[x]).Nodup)(h:bU (L++[x]) x y):False:=by
 have h2:¬x∈L:=by
  rw[List.nodup_append] at hn;intro hx;exact hn.2.2 x hx x (by simp) rfl
 obtain⟨l1,l2,e,s1,s2⟩:=List.sublist_append_iff.1 h
 cases l1 with
 |nil=>
  simp only[List.nil_append] at e;rw[<-e] at s2;have:=s2.length_le;simp at this
 |cons a l1=>
  simp only[List.cons_append,List.cons.injEq] at e;rw[<-e.1] at s1;exact h2 (s1.subset (by simp))
theorem Jv {L:List Nat}{x y w:Nat}(h:bU (L++[w]) x y)(hy:y≠w):bU L x y:=by
 obtain⟨l1,l2,e,s1,s2⟩:=List.sublist_append_iff.1 h
 have hl2:l2=[]:=by
  cases l2 with
  |nil=>rfl
  |cons a l2=>
   have hl:=s2.length_le;simp at hl;subst hl;have ha:a=w:=by simpa using s2
   have:y=a:=by
    have:=congrArg List.getLast? e
    simpa using this
   exact absurd (this.trans ha) hy
 subst hl2;rw[List.append_nil] at e;rw[<-e] at s1;exact s1
theorem RZ {L:List Nat}{x:Nat}(hx:x∈L){l:Nat}(hl:L.getLast? = some l):x=l\/bU L x l:=by
 obtain⟨L',rfl⟩:=List.getLast?_eq_some_iff.1 hl;rw[List.mem_append] at hx;rcases hx with hx|hx
 . exact .inr (Md hx)
 . exact .inl (by simpa using hx)
end Go.Proofs.YtnmelakgmgenjaaGreat
